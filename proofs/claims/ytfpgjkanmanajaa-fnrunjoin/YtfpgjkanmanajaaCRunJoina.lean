/-
  Closed facts of the law FnRunJoin, each by the kernel.
-/
import Derived.Test.YtfpgjkanmanajaaRows
import Derived.WalkKit
import Derived.ProofKit
import Derived.OpenShut
import Derived.Test.YtfpgjkanmanajaaCP
namespace Go.Proofs.Ytfpgjkanmanajaa.fnRunJoinC
open Go.ChangeShapes Go.WideShapes Go.ChangeAt Go.RowKit
theorem fact0 : (Rows.fnRunJoinRow.wf (OpenSpec.ofChange Rows.fnRunJoinSpec)) = true := by kernel_rfl
theorem fact3 : (Try.f5.params.all (Try.prog.readableRec ·)) = true := by kernel_rfl
theorem fact4 : (namedTie Try.prog Rows.fnRunJoinRow.named Rows.fnRunJoinSpec.vars) = true := by kernel_rfl
theorem fact5 : ((Rows.fnRunJoinRow.stops == [])) = true := by kernel_rfl
theorem fact7 : ((Rows.fnRunJoinRow.knobs == [])) = true := by kernel_rfl
theorem fact9 : ((Rows.fnRunJoinRow.inPlace == Try.prog.inPlace 5)) = true := by kernel_rfl
theorem fact10 : ((Rows.fnRunJoinRow.unfollowed == Try.prog.unfollowed 5)) = true := by kernel_rfl
theorem fact11 : ((Rows.fnRunJoinRow.recurses == Try.prog.recurses 5)) = true := by kernel_rfl
theorem fact12 : ((Rows.fnRunJoinRow.named == Try.prog.varsNamed 5)) = true := by kernel_rfl
end Go.Proofs.Ytfpgjkanmanajaa.fnRunJoinC
