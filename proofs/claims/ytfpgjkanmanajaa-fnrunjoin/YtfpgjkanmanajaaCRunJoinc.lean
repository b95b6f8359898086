/-
  Closed facts of the law FnRunJoin, each by the kernel.
-/
import Derived.Test.YtfpgjkanmanajaaRows
import Derived.WalkKit
import Derived.ProofKit
import Derived.OpenShut
import Derived.Test.YtfpgjkanmanajaaCP
namespace Go.Proofs.Ytfpgjkanmanajaa.fnRunJoinC
open Go.ChangeShapes Go.WideShapes Go.ChangeAt Go.RowKit
theorem fact22 : ((Rows.fnRunJoinRow.plainKeys == Try.prog.plainKeys)) = true := by kernel_rfl
theorem fact23 : (Rows.fnRunJoinRow.shortTexts.isNone) = true := by kernel_rfl
theorem fact26 : ((Rows.fnRunJoinRow.lifted == Try.prog.liftsFinal)) = true := by rw [CP.liftsF]; kernel_rfl
theorem fact27 : ((Try.prog.make == some Rows.fnRunJoinRow.make)) = true := by rw [CP.make_]; kernel_rfl
theorem fact28 : ((Rows.fnRunJoinRow.kinds == (if Rows.fnRunJoinRow.domain.isEmpty then [] else Try.f5.params.toList.map fun t => match Try.prog.underlying t with | some (.int k) => some k | _ => none))) = true := by kernel_rfl
theorem fact29 : ((Rows.fnRunJoinRow.pinned == Rows.fnRunJoinRow.pinnedBy)) = true := by kernel_rfl
theorem fact30 : ((Rows.fnRunJoinRow.veiled == (Try.f5.params.toList ++ Rows.fnRunJoinSpec.plain.varTypes Try.prog ++ Try.f5.resultTypes.toList).any (Try.prog.veiledRec ·))) = true := by kernel_rfl
theorem fact31 : (Rows.fnRunJoinRow.veiledFits Try.prog Try.f5.params.toList (Try.f5.params.toList ++ Rows.fnRunJoinSpec.plain.varTypes Try.prog ++ Try.f5.resultTypes.toList)) = true := by kernel_rfl
end Go.Proofs.Ytfpgjkanmanajaa.fnRunJoinC
