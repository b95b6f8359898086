/-
  Closed facts of the law FnRunListCut, each by the kernel.
-/
import Derived.Test.YtfpgjkanmanajaaRows
import Derived.WalkKit
import Derived.ProofKit
import Derived.OpenShut
import Derived.Test.YtfpgjkanmanajaaCP
namespace Go.Proofs.Ytfpgjkanmanajaa.fnRunListCutC
open Go.ChangeShapes Go.WideShapes Go.ChangeAt Go.RowKit
theorem fact22 : ((Rows.fnRunListCutRow.plainKeys == Try.prog.plainKeys)) = true := by kernel_rfl
theorem fact23 : (Rows.fnRunListCutRow.shortTexts.isNone) = true := by kernel_rfl
theorem fact26 : ((Rows.fnRunListCutRow.lifted == Try.prog.liftsFinal)) = true := by rw [CP.liftsF]; kernel_rfl
theorem fact27 : ((Try.prog.make == some Rows.fnRunListCutRow.make)) = true := by rw [CP.make_]; kernel_rfl
theorem fact28 : ((Rows.fnRunListCutRow.kinds == (if Rows.fnRunListCutRow.domain.isEmpty then [] else Try.f13.params.toList.map fun t => match Try.prog.underlying t with | some (.int k) => some k | _ => none))) = true := by kernel_rfl
theorem fact29 : ((Rows.fnRunListCutRow.pinned == Rows.fnRunListCutRow.pinnedBy)) = true := by kernel_rfl
theorem fact30 : ((Rows.fnRunListCutRow.veiled == (Try.f13.params.toList ++ Rows.fnRunListCutSpec.plain.varTypes Try.prog ++ Try.f13.resultTypes.toList).any (Try.prog.veiledRec ·))) = true := by kernel_rfl
theorem fact31 : (Rows.fnRunListCutRow.veiledFits Try.prog Try.f13.params.toList (Try.f13.params.toList ++ Rows.fnRunListCutSpec.plain.varTypes Try.prog ++ Try.f13.resultTypes.toList)) = true := by kernel_rfl
end Go.Proofs.Ytfpgjkanmanajaa.fnRunListCutC
