/-
  Closed facts of the law FnRunTrimTop, each by the kernel.
-/
import Derived.Test.YtjjalagmlbaafaaRows
import Derived.WalkKit
import Derived.ProofKit
import Derived.OpenShut
import Derived.Test.YtjjalagmlbaafaaCP
namespace Go.Proofs.Ytjjalagmlbaafaa.fnRunTrimTopC
open Go.ChangeShapes Go.WideShapes Go.ChangeAt Go.RowKit
theorem fact22 : ((Rows.fnRunTrimTopRow.plainKeys == Try.prog.plainKeys)) = true := by kernel_rfl
theorem fact23 : (Rows.fnRunTrimTopRow.shortTexts.isNone) = true := by kernel_rfl
theorem fact26 : ((Rows.fnRunTrimTopRow.lifted == Try.prog.liftsFinal)) = true := by rw [CP.liftsF]; kernel_rfl
theorem fact27 : ((Try.prog.make == some Rows.fnRunTrimTopRow.make)) = true := by rw [CP.make_]; kernel_rfl
theorem fact28 : ((Rows.fnRunTrimTopRow.kinds == (if Rows.fnRunTrimTopRow.domain.isEmpty then [] else Try.f9.params.toList.map fun t => match Try.prog.underlying t with | some (.int k) => some k | _ => none))) = true := by kernel_rfl
theorem fact29 : ((Rows.fnRunTrimTopRow.pinned == Rows.fnRunTrimTopRow.pinnedBy)) = true := by kernel_rfl
theorem fact30 : ((Rows.fnRunTrimTopRow.veiled == (Try.f9.params.toList ++ Rows.fnRunTrimTopSpec.plain.varTypes Try.prog ++ Try.f9.resultTypes.toList).any (Try.prog.veiledRec ·))) = true := by kernel_rfl
theorem fact31 : (Rows.fnRunTrimTopRow.veiledFits Try.prog Try.f9.params.toList (Try.f9.params.toList ++ Rows.fnRunTrimTopSpec.plain.varTypes Try.prog ++ Try.f9.resultTypes.toList)) = true := by kernel_rfl
end Go.Proofs.Ytjjalagmlbaafaa.fnRunTrimTopC
