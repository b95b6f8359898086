/-
  Closed facts of the law FnExactRunJoin, each by the kernel.
-/
import Derived.Test.YtfpgjkanmanajaaRows
import Derived.WalkKit
import Derived.ProofKit
import Derived.OpenShut
import Derived.Test.YtfpgjkanmanajaaCP
namespace Go.Proofs.Ytfpgjkanmanajaa.fnExactRunJoinC
open Go.ChangeShapes Go.WideShapes Go.ChangeAt Go.RowKit
theorem fact0 : (Rows.fnExactRunJoinRow.wf (OpenSpec.ofChange Rows.fnExactRunJoinSpec)) = true := by kernel_rfl
theorem fact3 : (Try.f18.params.all (Try.prog.readableRec ·)) = true := by kernel_rfl
theorem fact4 : (namedTie Try.prog Rows.fnExactRunJoinRow.named Rows.fnExactRunJoinSpec.vars) = true := by kernel_rfl
theorem fact5 : ((Rows.fnExactRunJoinRow.stops == [])) = true := by kernel_rfl
theorem fact7 : ((Rows.fnExactRunJoinRow.knobs == [])) = true := by kernel_rfl
theorem fact9 : ((Rows.fnExactRunJoinRow.inPlace == Try.prog.inPlace 18)) = true := by kernel_rfl
theorem fact10 : ((Rows.fnExactRunJoinRow.unfollowed == Try.prog.unfollowed 18)) = true := by kernel_rfl
theorem fact11 : ((Rows.fnExactRunJoinRow.recurses == Try.prog.recurses 18)) = true := by kernel_rfl
theorem fact12 : ((Rows.fnExactRunJoinRow.named == Try.prog.varsNamed 18)) = true := by kernel_rfl
end Go.Proofs.Ytfpgjkanmanajaa.fnExactRunJoinC
