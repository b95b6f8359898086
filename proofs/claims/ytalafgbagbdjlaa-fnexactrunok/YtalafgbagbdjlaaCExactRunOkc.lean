/-
  Closed facts of the law FnExactRunOk, each by the kernel.
-/
import Derived.Test.YtalafgbagbdjlaaRows
import Derived.WalkKit
import Derived.ProofKit
import Derived.OpenShut
import Derived.Test.YtalafgbagbdjlaaCP
namespace Go.Proofs.Ytalafgbagbdjlaa.fnExactRunOkC
open Go.ChangeShapes Go.WideShapes Go.ChangeAt Go.RowKit
theorem fact22 : ((Rows.fnExactRunOkRow.plainKeys == Try.prog.plainKeys)) = true := by kernel_rfl
theorem fact23 : (Rows.fnExactRunOkRow.shortTexts.isNone) = true := by kernel_rfl
theorem fact26 : ((Rows.fnExactRunOkRow.lifted == Try.prog.liftsFinal)) = true := by rw [CP.liftsF]; kernel_rfl
theorem fact27 : ((Try.prog.make == some Rows.fnExactRunOkRow.make)) = true := by rw [CP.make_]; kernel_rfl
theorem fact28 : ((Rows.fnExactRunOkRow.kinds == (if Rows.fnExactRunOkRow.domain.isEmpty then [] else Try.f16.params.toList.map fun t => match Try.prog.underlying t with | some (.int k) => some k | _ => none))) = true := by kernel_rfl
theorem fact29 : ((Rows.fnExactRunOkRow.pinned == Rows.fnExactRunOkRow.pinnedBy)) = true := by kernel_rfl
theorem fact30 : ((Rows.fnExactRunOkRow.veiled == (Try.f16.params.toList ++ Rows.fnExactRunOkSpec.plain.varTypes Try.prog ++ Try.f16.resultTypes.toList).any (Try.prog.veiledRec ·))) = true := by kernel_rfl
theorem fact31 : (Rows.fnExactRunOkRow.veiledFits Try.prog Try.f16.params.toList (Try.f16.params.toList ++ Rows.fnExactRunOkSpec.plain.varTypes Try.prog ++ Try.f16.resultTypes.toList)) = true := by kernel_rfl
end Go.Proofs.Ytalafgbagbdjlaa.fnExactRunOkC
