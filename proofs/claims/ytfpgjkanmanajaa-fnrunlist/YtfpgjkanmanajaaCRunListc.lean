/-
  Closed facts of the law FnRunList, each by the kernel.
-/
import Derived.Test.YtfpgjkanmanajaaRows
import Derived.WalkKit
import Derived.ProofKit
import Derived.OpenShut
import Derived.Test.YtfpgjkanmanajaaCP
namespace Go.Proofs.Ytfpgjkanmanajaa.fnRunListC
open Go.ChangeShapes Go.WideShapes Go.ChangeAt Go.RowKit
theorem fact22 : ((Rows.fnRunListRow.plainKeys == Try.prog.plainKeys)) = true := by kernel_rfl
theorem fact23 : (Rows.fnRunListRow.shortTexts.isNone) = true := by kernel_rfl
theorem fact26 : ((Rows.fnRunListRow.lifted == Try.prog.liftsFinal)) = true := by rw [CP.liftsF]; kernel_rfl
theorem fact27 : ((Try.prog.make == some Rows.fnRunListRow.make)) = true := by rw [CP.make_]; kernel_rfl
theorem fact28 : ((Rows.fnRunListRow.kinds == (if Rows.fnRunListRow.domain.isEmpty then [] else Try.f12.params.toList.map fun t => match Try.prog.underlying t with | some (.int k) => some k | _ => none))) = true := by kernel_rfl
theorem fact29 : ((Rows.fnRunListRow.pinned == Rows.fnRunListRow.pinnedBy)) = true := by kernel_rfl
theorem fact30 : ((Rows.fnRunListRow.veiled == (Try.f12.params.toList ++ Rows.fnRunListSpec.plain.varTypes Try.prog ++ Try.f12.resultTypes.toList).any (Try.prog.veiledRec ·))) = true := by kernel_rfl
theorem fact31 : (Rows.fnRunListRow.veiledFits Try.prog Try.f12.params.toList (Try.f12.params.toList ++ Rows.fnRunListSpec.plain.varTypes Try.prog ++ Try.f12.resultTypes.toList)) = true := by kernel_rfl
end Go.Proofs.Ytfpgjkanmanajaa.fnRunListC
