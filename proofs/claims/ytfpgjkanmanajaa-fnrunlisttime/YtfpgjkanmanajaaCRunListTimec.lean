/-
  Closed facts of the law FnRunListTime, each by the kernel.
-/
import Derived.Test.YtfpgjkanmanajaaRows
import Derived.WalkKit
import Derived.ProofKit
import Derived.OpenShut
import Derived.Test.YtfpgjkanmanajaaCP
namespace Go.Proofs.Ytfpgjkanmanajaa.fnRunListTimeC
open Go.ChangeShapes Go.WideShapes Go.ChangeAt Go.RowKit
theorem fact22 : ((Rows.fnRunListTimeRow.plainKeys == Try.prog.plainKeys)) = true := by kernel_rfl
theorem fact23 : (Rows.fnRunListTimeRow.shortTexts.isNone) = true := by kernel_rfl
theorem fact26 : ((Rows.fnRunListTimeRow.lifted == Try.prog.liftsFinal)) = true := by rw [CP.liftsF]; kernel_rfl
theorem fact27 : ((Try.prog.make == some Rows.fnRunListTimeRow.make)) = true := by rw [CP.make_]; kernel_rfl
theorem fact28 : ((Rows.fnRunListTimeRow.kinds == (if Rows.fnRunListTimeRow.domain.isEmpty then [] else Try.f15.params.toList.map fun t => match Try.prog.underlying t with | some (.int k) => some k | _ => none))) = true := by kernel_rfl
theorem fact29 : ((Rows.fnRunListTimeRow.pinned == Rows.fnRunListTimeRow.pinnedBy)) = true := by kernel_rfl
theorem fact30 : ((Rows.fnRunListTimeRow.veiled == (Try.f15.params.toList ++ Rows.fnRunListTimeSpec.plain.varTypes Try.prog ++ Try.f15.resultTypes.toList).any (Try.prog.veiledRec ·))) = true := by kernel_rfl
theorem fact31 : (Rows.fnRunListTimeRow.veiledFits Try.prog Try.f15.params.toList (Try.f15.params.toList ++ Rows.fnRunListTimeSpec.plain.varTypes Try.prog ++ Try.f15.resultTypes.toList)) = true := by kernel_rfl
end Go.Proofs.Ytfpgjkanmanajaa.fnRunListTimeC
