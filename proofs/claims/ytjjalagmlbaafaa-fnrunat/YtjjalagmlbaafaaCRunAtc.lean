/-
  Closed facts of the law FnRunAt, each by the kernel.
-/
import Derived.Test.YtjjalagmlbaafaaRows
import Derived.WalkKit
import Derived.ProofKit
import Derived.OpenShut
import Derived.Test.YtjjalagmlbaafaaCP
namespace Go.Proofs.Ytjjalagmlbaafaa.fnRunAtC
open Go.ChangeShapes Go.WideShapes Go.ChangeAt Go.RowKit
theorem fact22 : ((Rows.fnRunAtRow.plainKeys == Try.prog.plainKeys)) = true := by kernel_rfl
theorem fact23 : (Rows.fnRunAtRow.shortTexts.isNone) = true := by kernel_rfl
theorem fact26 : ((Rows.fnRunAtRow.lifted == Try.prog.liftsFinal)) = true := by rw [CP.liftsF]; kernel_rfl
theorem fact27 : ((Try.prog.make == some Rows.fnRunAtRow.make)) = true := by rw [CP.make_]; kernel_rfl
theorem fact28 : ((Rows.fnRunAtRow.kinds == (if Rows.fnRunAtRow.domain.isEmpty then [] else Try.f4.params.toList.map fun t => match Try.prog.underlying t with | some (.int k) => some k | _ => none))) = true := by kernel_rfl
theorem fact29 : ((Rows.fnRunAtRow.pinned == Rows.fnRunAtRow.pinnedBy)) = true := by kernel_rfl
theorem fact30 : ((Rows.fnRunAtRow.veiled == (Try.f4.params.toList ++ Rows.fnRunAtSpec.plain.varTypes Try.prog ++ Try.f4.resultTypes.toList).any (Try.prog.veiledRec ·))) = true := by kernel_rfl
theorem fact31 : (Rows.fnRunAtRow.veiledFits Try.prog Try.f4.params.toList (Try.f4.params.toList ++ Rows.fnRunAtSpec.plain.varTypes Try.prog ++ Try.f4.resultTypes.toList)) = true := by kernel_rfl
end Go.Proofs.Ytjjalagmlbaafaa.fnRunAtC
