/-
  Closed facts of the law FnRunJoinThree, each by the kernel.
-/
import Derived.Test.YtfpgjkanmanajaaRows
import Derived.WalkKit
import Derived.ProofKit
import Derived.OpenShut
import Derived.Test.YtfpgjkanmanajaaCP
namespace Go.Proofs.Ytfpgjkanmanajaa.fnRunJoinThreeC
open Go.ChangeShapes Go.WideShapes Go.ChangeAt Go.RowKit
theorem fact0 : (Rows.fnRunJoinThreeRow.wf (OpenSpec.ofChange Rows.fnRunJoinThreeSpec)) = true := by kernel_rfl
theorem fact3 : (Try.f7.params.all (Try.prog.readableRec ·)) = true := by kernel_rfl
theorem fact4 : (namedTie Try.prog Rows.fnRunJoinThreeRow.named Rows.fnRunJoinThreeSpec.vars) = true := by kernel_rfl
theorem fact5 : ((Rows.fnRunJoinThreeRow.stops == [])) = true := by kernel_rfl
theorem fact7 : ((Rows.fnRunJoinThreeRow.knobs == [])) = true := by kernel_rfl
theorem fact9 : ((Rows.fnRunJoinThreeRow.inPlace == Try.prog.inPlace 7)) = true := by kernel_rfl
theorem fact10 : ((Rows.fnRunJoinThreeRow.unfollowed == Try.prog.unfollowed 7)) = true := by kernel_rfl
theorem fact11 : ((Rows.fnRunJoinThreeRow.recurses == Try.prog.recurses 7)) = true := by kernel_rfl
theorem fact12 : ((Rows.fnRunJoinThreeRow.named == Try.prog.varsNamed 7)) = true := by kernel_rfl
end Go.Proofs.Ytfpgjkanmanajaa.fnRunJoinThreeC
