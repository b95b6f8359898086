/-
  Closed facts of the law FnRunAtMore, each by the kernel.
-/
import Derived.Test.YtjjalagmlbaafaaRows
import Derived.WalkKit
import Derived.ProofKit
import Derived.OpenShut
import Derived.Test.YtjjalagmlbaafaaCP
namespace Go.Proofs.Ytjjalagmlbaafaa.fnRunAtMoreC
open Go.ChangeShapes Go.WideShapes Go.ChangeAt Go.RowKit
theorem fact22 : ((Rows.fnRunAtMoreRow.plainKeys == Try.prog.plainKeys)) = true := by kernel_rfl
theorem fact23 : (Rows.fnRunAtMoreRow.shortTexts.isNone) = true := by kernel_rfl
theorem fact26 : ((Rows.fnRunAtMoreRow.lifted == Try.prog.liftsFinal)) = true := by rw [CP.liftsF]; kernel_rfl
theorem fact27 : ((Try.prog.make == some Rows.fnRunAtMoreRow.make)) = true := by rw [CP.make_]; kernel_rfl
theorem fact28 : ((Rows.fnRunAtMoreRow.kinds == (if Rows.fnRunAtMoreRow.domain.isEmpty then [] else Try.f14.params.toList.map fun t => match Try.prog.underlying t with | some (.int k) => some k | _ => none))) = true := by kernel_rfl
theorem fact29 : ((Rows.fnRunAtMoreRow.pinned == Rows.fnRunAtMoreRow.pinnedBy)) = true := by kernel_rfl
theorem fact30 : ((Rows.fnRunAtMoreRow.veiled == (Try.f14.params.toList ++ Rows.fnRunAtMoreSpec.plain.varTypes Try.prog ++ Try.f14.resultTypes.toList).any (Try.prog.veiledRec ·))) = true := by kernel_rfl
theorem fact31 : (Rows.fnRunAtMoreRow.veiledFits Try.prog Try.f14.params.toList (Try.f14.params.toList ++ Rows.fnRunAtMoreSpec.plain.varTypes Try.prog ++ Try.f14.resultTypes.toList)) = true := by kernel_rfl
end Go.Proofs.Ytjjalagmlbaafaa.fnRunAtMoreC
