/-
  Closed facts of the law FnRunListTime, each by the kernel.
-/
import Derived.Test.YtfpgjkanmanajaaRows
import Derived.WalkKit
import Derived.ProofKit
import Derived.OpenShut
import Derived.Test.YtfpgjkanmanajaaCP
namespace Go.Proofs.Ytfpgjkanmanajaa.fnRunListTimeC
open Go.ChangeShapes Go.WideShapes Go.ChangeAt Go.RowKit
theorem fact0 : (Rows.fnRunListTimeRow.wf (OpenSpec.ofChange Rows.fnRunListTimeSpec)) = true := by kernel_rfl
theorem fact3 : (Try.f15.params.all (Try.prog.readableRec ·)) = true := by kernel_rfl
theorem fact4 : (namedTie Try.prog Rows.fnRunListTimeRow.named Rows.fnRunListTimeSpec.vars) = true := by kernel_rfl
theorem fact5 : ((Rows.fnRunListTimeRow.stops == [])) = true := by kernel_rfl
theorem fact7 : ((Rows.fnRunListTimeRow.knobs == [])) = true := by kernel_rfl
theorem fact9 : ((Rows.fnRunListTimeRow.inPlace == Try.prog.inPlace 15)) = true := by kernel_rfl
theorem fact10 : ((Rows.fnRunListTimeRow.unfollowed == Try.prog.unfollowed 15)) = true := by kernel_rfl
theorem fact11 : ((Rows.fnRunListTimeRow.recurses == Try.prog.recurses 15)) = true := by kernel_rfl
theorem fact12 : ((Rows.fnRunListTimeRow.named == Try.prog.varsNamed 15)) = true := by kernel_rfl
end Go.Proofs.Ytfpgjkanmanajaa.fnRunListTimeC
