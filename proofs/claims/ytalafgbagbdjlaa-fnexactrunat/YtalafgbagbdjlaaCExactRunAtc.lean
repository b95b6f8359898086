/-
  Closed facts of the law FnExactRunAt, each by the kernel.
-/
import Derived.Test.YtalafgbagbdjlaaRows
import Derived.WalkKit
import Derived.ProofKit
import Derived.OpenShut
import Derived.Test.YtalafgbagbdjlaaCP
namespace Go.Proofs.Ytalafgbagbdjlaa.fnExactRunAtC
open Go.ChangeShapes Go.WideShapes Go.ChangeAt Go.RowKit
theorem fact22 : ((Rows.fnExactRunAtRow.plainKeys == Try.prog.plainKeys)) = true := by kernel_rfl
theorem fact23 : (Rows.fnExactRunAtRow.shortTexts.isNone) = true := by kernel_rfl
theorem fact26 : ((Rows.fnExactRunAtRow.lifted == Try.prog.liftsFinal)) = true := by rw [CP.liftsF]; kernel_rfl
theorem fact27 : ((Try.prog.make == some Rows.fnExactRunAtRow.make)) = true := by rw [CP.make_]; kernel_rfl
theorem fact28 : ((Rows.fnExactRunAtRow.kinds == (if Rows.fnExactRunAtRow.domain.isEmpty then [] else Try.f17.params.toList.map fun t => match Try.prog.underlying t with | some (.int k) => some k | _ => none))) = true := by kernel_rfl
theorem fact29 : ((Rows.fnExactRunAtRow.pinned == Rows.fnExactRunAtRow.pinnedBy)) = true := by kernel_rfl
theorem fact30 : ((Rows.fnExactRunAtRow.veiled == (Try.f17.params.toList ++ Rows.fnExactRunAtSpec.plain.varTypes Try.prog ++ Try.f17.resultTypes.toList).any (Try.prog.veiledRec ·))) = true := by kernel_rfl
theorem fact31 : (Rows.fnExactRunAtRow.veiledFits Try.prog Try.f17.params.toList (Try.f17.params.toList ++ Rows.fnExactRunAtSpec.plain.varTypes Try.prog ++ Try.f17.resultTypes.toList)) = true := by kernel_rfl
end Go.Proofs.Ytalafgbagbdjlaa.fnExactRunAtC
