/-
  Closed facts of the law FnRunTrimTwice, each by the kernel.
-/
import Derived.Test.YtjjalagmlbaafaaRows
import Derived.WalkKit
import Derived.ProofKit
import Derived.OpenShut
import Derived.Test.YtjjalagmlbaafaaCP
namespace Go.Proofs.Ytjjalagmlbaafaa.fnRunTrimTwiceC
open Go.ChangeShapes Go.WideShapes Go.ChangeAt Go.RowKit
theorem fact22 : ((Rows.fnRunTrimTwiceRow.plainKeys == Try.prog.plainKeys)) = true := by kernel_rfl
theorem fact23 : (Rows.fnRunTrimTwiceRow.shortTexts.isNone) = true := by kernel_rfl
theorem fact26 : ((Rows.fnRunTrimTwiceRow.lifted == Try.prog.liftsFinal)) = true := by rw [CP.liftsF]; kernel_rfl
theorem fact27 : ((Try.prog.make == some Rows.fnRunTrimTwiceRow.make)) = true := by rw [CP.make_]; kernel_rfl
theorem fact28 : ((Rows.fnRunTrimTwiceRow.kinds == (if Rows.fnRunTrimTwiceRow.domain.isEmpty then [] else Try.f10.params.toList.map fun t => match Try.prog.underlying t with | some (.int k) => some k | _ => none))) = true := by kernel_rfl
theorem fact29 : ((Rows.fnRunTrimTwiceRow.pinned == Rows.fnRunTrimTwiceRow.pinnedBy)) = true := by kernel_rfl
theorem fact30 : ((Rows.fnRunTrimTwiceRow.veiled == (Try.f10.params.toList ++ Rows.fnRunTrimTwiceSpec.plain.varTypes Try.prog ++ Try.f10.resultTypes.toList).any (Try.prog.veiledRec ·))) = true := by kernel_rfl
theorem fact31 : (Rows.fnRunTrimTwiceRow.veiledFits Try.prog Try.f10.params.toList (Try.f10.params.toList ++ Rows.fnRunTrimTwiceSpec.plain.varTypes Try.prog ++ Try.f10.resultTypes.toList)) = true := by kernel_rfl
end Go.Proofs.Ytjjalagmlbaafaa.fnRunTrimTwiceC
