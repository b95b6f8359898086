/-
  Closed facts of the law FnExactRunList, each by the kernel.
-/
import Derived.Test.YtfpgjkanmanajaaRows
import Derived.WalkKit
import Derived.ProofKit
import Derived.OpenShut
import Derived.Test.YtfpgjkanmanajaaCP
namespace Go.Proofs.Ytfpgjkanmanajaa.fnExactRunListC
open Go.ChangeShapes Go.WideShapes Go.ChangeAt Go.RowKit
theorem fact22 : ((Rows.fnExactRunListRow.plainKeys == Try.prog.plainKeys)) = true := by kernel_rfl
theorem fact23 : (Rows.fnExactRunListRow.shortTexts.isNone) = true := by kernel_rfl
theorem fact26 : ((Rows.fnExactRunListRow.lifted == Try.prog.liftsFinal)) = true := by rw [CP.liftsF]; kernel_rfl
theorem fact27 : ((Try.prog.make == some Rows.fnExactRunListRow.make)) = true := by rw [CP.make_]; kernel_rfl
theorem fact28 : ((Rows.fnExactRunListRow.kinds == (if Rows.fnExactRunListRow.domain.isEmpty then [] else Try.f21.params.toList.map fun t => match Try.prog.underlying t with | some (.int k) => some k | _ => none))) = true := by kernel_rfl
theorem fact29 : ((Rows.fnExactRunListRow.pinned == Rows.fnExactRunListRow.pinnedBy)) = true := by kernel_rfl
theorem fact30 : ((Rows.fnExactRunListRow.veiled == (Try.f21.params.toList ++ Rows.fnExactRunListSpec.plain.varTypes Try.prog ++ Try.f21.resultTypes.toList).any (Try.prog.veiledRec ·))) = true := by kernel_rfl
theorem fact31 : (Rows.fnExactRunListRow.veiledFits Try.prog Try.f21.params.toList (Try.f21.params.toList ++ Rows.fnExactRunListSpec.plain.varTypes Try.prog ++ Try.f21.resultTypes.toList)) = true := by kernel_rfl
end Go.Proofs.Ytfpgjkanmanajaa.fnExactRunListC
