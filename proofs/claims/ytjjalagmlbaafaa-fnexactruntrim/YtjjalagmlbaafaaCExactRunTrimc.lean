/-
  Closed facts of the law FnExactRunTrim, each by the kernel.
-/
import Derived.Test.YtjjalagmlbaafaaRows
import Derived.WalkKit
import Derived.ProofKit
import Derived.OpenShut
import Derived.Test.YtjjalagmlbaafaaCP
namespace Go.Proofs.Ytjjalagmlbaafaa.fnExactRunTrimC
open Go.ChangeShapes Go.WideShapes Go.ChangeAt Go.RowKit
theorem fact22 : ((Rows.fnExactRunTrimRow.plainKeys == Try.prog.plainKeys)) = true := by kernel_rfl
theorem fact23 : (Rows.fnExactRunTrimRow.shortTexts.isNone) = true := by kernel_rfl
theorem fact26 : ((Rows.fnExactRunTrimRow.lifted == Try.prog.liftsFinal)) = true := by rw [CP.liftsF]; kernel_rfl
theorem fact27 : ((Try.prog.make == some Rows.fnExactRunTrimRow.make)) = true := by rw [CP.make_]; kernel_rfl
theorem fact28 : ((Rows.fnExactRunTrimRow.kinds == (if Rows.fnExactRunTrimRow.domain.isEmpty then [] else Try.f19.params.toList.map fun t => match Try.prog.underlying t with | some (.int k) => some k | _ => none))) = true := by kernel_rfl
theorem fact29 : ((Rows.fnExactRunTrimRow.pinned == Rows.fnExactRunTrimRow.pinnedBy)) = true := by kernel_rfl
theorem fact30 : ((Rows.fnExactRunTrimRow.veiled == (Try.f19.params.toList ++ Rows.fnExactRunTrimSpec.plain.varTypes Try.prog ++ Try.f19.resultTypes.toList).any (Try.prog.veiledRec ·))) = true := by kernel_rfl
theorem fact31 : (Rows.fnExactRunTrimRow.veiledFits Try.prog Try.f19.params.toList (Try.f19.params.toList ++ Rows.fnExactRunTrimSpec.plain.varTypes Try.prog ++ Try.f19.resultTypes.toList)) = true := by kernel_rfl
end Go.Proofs.Ytjjalagmlbaafaa.fnExactRunTrimC
