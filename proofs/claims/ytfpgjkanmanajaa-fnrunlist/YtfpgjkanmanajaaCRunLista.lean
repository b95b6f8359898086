/-
  Closed facts of the law FnRunList, each by the kernel.
-/
import Derived.Test.YtfpgjkanmanajaaRows
import Derived.WalkKit
import Derived.ProofKit
import Derived.OpenShut
import Derived.Test.YtfpgjkanmanajaaCP
namespace Go.Proofs.Ytfpgjkanmanajaa.fnRunListC
open Go.ChangeShapes Go.WideShapes Go.ChangeAt Go.RowKit
theorem fact0 : (Rows.fnRunListRow.wf (OpenSpec.ofChange Rows.fnRunListSpec)) = true := by kernel_rfl
theorem fact3 : (Try.f12.params.all (Try.prog.readableRec ·)) = true := by kernel_rfl
theorem fact4 : (namedTie Try.prog Rows.fnRunListRow.named Rows.fnRunListSpec.vars) = true := by kernel_rfl
theorem fact5 : ((Rows.fnRunListRow.stops == [])) = true := by kernel_rfl
theorem fact7 : ((Rows.fnRunListRow.knobs == [])) = true := by kernel_rfl
theorem fact9 : ((Rows.fnRunListRow.inPlace == Try.prog.inPlace 12)) = true := by kernel_rfl
theorem fact10 : ((Rows.fnRunListRow.unfollowed == Try.prog.unfollowed 12)) = true := by kernel_rfl
theorem fact11 : ((Rows.fnRunListRow.recurses == Try.prog.recurses 12)) = true := by kernel_rfl
theorem fact12 : ((Rows.fnRunListRow.named == Try.prog.varsNamed 12)) = true := by kernel_rfl
end Go.Proofs.Ytfpgjkanmanajaa.fnRunListC
