/-
  Closed facts of the law FnRunListCut, each by the kernel.
-/
import Derived.Test.YtfpgjkanmanajaaRows
import Derived.WalkKit
import Derived.ProofKit
import Derived.OpenShut
import Derived.Test.YtfpgjkanmanajaaCP
namespace Go.Proofs.Ytfpgjkanmanajaa.fnRunListCutC
open Go.ChangeShapes Go.WideShapes Go.ChangeAt Go.RowKit
theorem fact0 : (Rows.fnRunListCutRow.wf (OpenSpec.ofChange Rows.fnRunListCutSpec)) = true := by kernel_rfl
theorem fact3 : (Try.f13.params.all (Try.prog.readableRec ·)) = true := by kernel_rfl
theorem fact4 : (namedTie Try.prog Rows.fnRunListCutRow.named Rows.fnRunListCutSpec.vars) = true := by kernel_rfl
theorem fact5 : ((Rows.fnRunListCutRow.stops == [])) = true := by kernel_rfl
theorem fact7 : ((Rows.fnRunListCutRow.knobs == [])) = true := by kernel_rfl
theorem fact9 : ((Rows.fnRunListCutRow.inPlace == Try.prog.inPlace 13)) = true := by kernel_rfl
theorem fact10 : ((Rows.fnRunListCutRow.unfollowed == Try.prog.unfollowed 13)) = true := by kernel_rfl
theorem fact11 : ((Rows.fnRunListCutRow.recurses == Try.prog.recurses 13)) = true := by kernel_rfl
theorem fact12 : ((Rows.fnRunListCutRow.named == Try.prog.varsNamed 13)) = true := by kernel_rfl
end Go.Proofs.Ytfpgjkanmanajaa.fnRunListCutC
