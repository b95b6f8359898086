/-
  Closed facts of the law FnRunTrim, each by the kernel.
-/
import Derived.Test.YtjjalagmlbaafaaRows
import Derived.WalkKit
import Derived.ProofKit
import Derived.OpenShut
import Derived.Test.YtjjalagmlbaafaaCP
namespace Go.Proofs.Ytjjalagmlbaafaa.fnRunTrimC
open Go.ChangeShapes Go.WideShapes Go.ChangeAt Go.RowKit
theorem fact22 : ((Rows.fnRunTrimRow.plainKeys == Try.prog.plainKeys)) = true := by kernel_rfl
theorem fact23 : (Rows.fnRunTrimRow.shortTexts.isNone) = true := by kernel_rfl
theorem fact26 : ((Rows.fnRunTrimRow.lifted == Try.prog.liftsFinal)) = true := by rw [CP.liftsF]; kernel_rfl
theorem fact27 : ((Try.prog.make == some Rows.fnRunTrimRow.make)) = true := by rw [CP.make_]; kernel_rfl
theorem fact28 : ((Rows.fnRunTrimRow.kinds == (if Rows.fnRunTrimRow.domain.isEmpty then [] else Try.f8.params.toList.map fun t => match Try.prog.underlying t with | some (.int k) => some k | _ => none))) = true := by kernel_rfl
theorem fact29 : ((Rows.fnRunTrimRow.pinned == Rows.fnRunTrimRow.pinnedBy)) = true := by kernel_rfl
theorem fact30 : ((Rows.fnRunTrimRow.veiled == (Try.f8.params.toList ++ Rows.fnRunTrimSpec.plain.varTypes Try.prog ++ Try.f8.resultTypes.toList).any (Try.prog.veiledRec ·))) = true := by kernel_rfl
theorem fact31 : (Rows.fnRunTrimRow.veiledFits Try.prog Try.f8.params.toList (Try.f8.params.toList ++ Rows.fnRunTrimSpec.plain.varTypes Try.prog ++ Try.f8.resultTypes.toList)) = true := by kernel_rfl
end Go.Proofs.Ytjjalagmlbaafaa.fnRunTrimC
