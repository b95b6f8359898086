/-
  Closed facts of the law FnExactPastGet, each by the kernel.
-/
import Derived.Test.YtfpgjkanmanajaaRows
import Derived.WalkKit
import Derived.ProofKit
import Derived.OpenShut
import Derived.Test.YtfpgjkanmanajaaCP
namespace Go.Proofs.Ytfpgjkanmanajaa.fnExactPastGetC
open Go.ChangeShapes Go.WideShapes Go.ChangeAt Go.RowKit
theorem fact22 : ((Rows.fnExactPastGetRow.plainKeys == Try.prog.plainKeys)) = true := by kernel_rfl
theorem fact23 : (Rows.fnExactPastGetRow.shortTexts.isNone) = true := by kernel_rfl
theorem fact26 : ((Rows.fnExactPastGetRow.lifted == Try.prog.liftsFinal)) = true := by rw [CP.liftsF]; kernel_rfl
theorem fact27 : ((Try.prog.make == some Rows.fnExactPastGetRow.make)) = true := by rw [CP.make_]; kernel_rfl
theorem fact28 : ((Rows.fnExactPastGetRow.kinds == (if Rows.fnExactPastGetRow.domain.isEmpty then [] else Try.f22.params.toList.map fun t => match Try.prog.underlying t with | some (.int k) => some k | _ => none))) = true := by kernel_rfl
theorem fact29 : ((Rows.fnExactPastGetRow.pinned == Rows.fnExactPastGetRow.pinnedBy)) = true := by kernel_rfl
theorem fact30 : ((Rows.fnExactPastGetRow.veiled == (Try.f22.params.toList ++ Rows.fnExactPastGetSpec.plain.varTypes Try.prog ++ Try.f22.resultTypes.toList).any (Try.prog.veiledRec ·))) = true := by kernel_rfl
theorem fact31 : (Rows.fnExactPastGetRow.veiledFits Try.prog Try.f22.params.toList (Try.f22.params.toList ++ Rows.fnExactPastGetSpec.plain.varTypes Try.prog ++ Try.f22.resultTypes.toList)) = true := by kernel_rfl
end Go.Proofs.Ytfpgjkanmanajaa.fnExactPastGetC
