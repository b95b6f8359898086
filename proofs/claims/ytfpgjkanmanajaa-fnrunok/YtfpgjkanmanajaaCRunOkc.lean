/-
  Closed facts of the law FnRunOk, each by the kernel.
-/
import Derived.Test.YtfpgjkanmanajaaRows
import Derived.WalkKit
import Derived.ProofKit
import Derived.OpenShut
import Derived.Test.YtfpgjkanmanajaaCP
namespace Go.Proofs.Ytfpgjkanmanajaa.fnRunOkC
open Go.ChangeShapes Go.WideShapes Go.ChangeAt Go.RowKit
theorem fact22 : ((Rows.fnRunOkRow.plainKeys == Try.prog.plainKeys)) = true := by kernel_rfl
theorem fact23 : (Rows.fnRunOkRow.shortTexts.isNone) = true := by kernel_rfl
theorem fact26 : ((Rows.fnRunOkRow.lifted == Try.prog.liftsFinal)) = true := by rw [CP.liftsF]; kernel_rfl
theorem fact27 : ((Try.prog.make == some Rows.fnRunOkRow.make)) = true := by rw [CP.make_]; kernel_rfl
theorem fact28 : ((Rows.fnRunOkRow.kinds == (if Rows.fnRunOkRow.domain.isEmpty then [] else Try.f3.params.toList.map fun t => match Try.prog.underlying t with | some (.int k) => some k | _ => none))) = true := by kernel_rfl
theorem fact29 : ((Rows.fnRunOkRow.pinned == Rows.fnRunOkRow.pinnedBy)) = true := by kernel_rfl
theorem fact30 : ((Rows.fnRunOkRow.veiled == (Try.f3.params.toList ++ Rows.fnRunOkSpec.plain.varTypes Try.prog ++ Try.f3.resultTypes.toList).any (Try.prog.veiledRec ·))) = true := by kernel_rfl
theorem fact31 : (Rows.fnRunOkRow.veiledFits Try.prog Try.f3.params.toList (Try.f3.params.toList ++ Rows.fnRunOkSpec.plain.varTypes Try.prog ++ Try.f3.resultTypes.toList)) = true := by kernel_rfl
end Go.Proofs.Ytfpgjkanmanajaa.fnRunOkC
