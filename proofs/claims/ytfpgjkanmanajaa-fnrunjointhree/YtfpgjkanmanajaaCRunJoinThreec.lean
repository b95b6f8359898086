/-
  Closed facts of the law FnRunJoinThree, each by the kernel.
-/
import Derived.Test.YtfpgjkanmanajaaRows
import Derived.WalkKit
import Derived.ProofKit
import Derived.OpenShut
import Derived.Test.YtfpgjkanmanajaaCP
namespace Go.Proofs.Ytfpgjkanmanajaa.fnRunJoinThreeC
open Go.ChangeShapes Go.WideShapes Go.ChangeAt Go.RowKit
theorem fact22 : ((Rows.fnRunJoinThreeRow.plainKeys == Try.prog.plainKeys)) = true := by kernel_rfl
theorem fact23 : (Rows.fnRunJoinThreeRow.shortTexts.isNone) = true := by kernel_rfl
theorem fact26 : ((Rows.fnRunJoinThreeRow.lifted == Try.prog.liftsFinal)) = true := by rw [CP.liftsF]; kernel_rfl
theorem fact27 : ((Try.prog.make == some Rows.fnRunJoinThreeRow.make)) = true := by rw [CP.make_]; kernel_rfl
theorem fact28 : ((Rows.fnRunJoinThreeRow.kinds == (if Rows.fnRunJoinThreeRow.domain.isEmpty then [] else Try.f7.params.toList.map fun t => match Try.prog.underlying t with | some (.int k) => some k | _ => none))) = true := by kernel_rfl
theorem fact29 : ((Rows.fnRunJoinThreeRow.pinned == Rows.fnRunJoinThreeRow.pinnedBy)) = true := by kernel_rfl
theorem fact30 : ((Rows.fnRunJoinThreeRow.veiled == (Try.f7.params.toList ++ Rows.fnRunJoinThreeSpec.plain.varTypes Try.prog ++ Try.f7.resultTypes.toList).any (Try.prog.veiledRec ·))) = true := by kernel_rfl
theorem fact31 : (Rows.fnRunJoinThreeRow.veiledFits Try.prog Try.f7.params.toList (Try.f7.params.toList ++ Rows.fnRunJoinThreeSpec.plain.varTypes Try.prog ++ Try.f7.resultTypes.toList)) = true := by kernel_rfl
end Go.Proofs.Ytfpgjkanmanajaa.fnRunJoinThreeC
