/-
  Closed facts of the law FnExactPastGet, each by the kernel.
-/
import Derived.Test.YtfpgjkanmanajaaRows
import Derived.WalkKit
import Derived.ProofKit
import Derived.OpenShut
import Derived.Test.YtfpgjkanmanajaaCP
namespace Go.Proofs.Ytfpgjkanmanajaa.fnExactPastGetC
open Go.ChangeShapes Go.WideShapes Go.ChangeAt Go.RowKit
theorem fact0 : (Rows.fnExactPastGetRow.wf (OpenSpec.ofChange Rows.fnExactPastGetSpec)) = true := by kernel_rfl
theorem fact3 : (Try.f22.params.all (Try.prog.readableRec ·)) = true := by kernel_rfl
theorem fact4 : (namedTie Try.prog Rows.fnExactPastGetRow.named Rows.fnExactPastGetSpec.vars) = true := by kernel_rfl
theorem fact5 : ((Rows.fnExactPastGetRow.stops == [])) = true := by kernel_rfl
theorem fact7 : ((Rows.fnExactPastGetRow.knobs == [])) = true := by kernel_rfl
theorem fact9 : ((Rows.fnExactPastGetRow.inPlace == Try.prog.inPlace 22)) = true := by kernel_rfl
theorem fact10 : ((Rows.fnExactPastGetRow.unfollowed == Try.prog.unfollowed 22)) = true := by kernel_rfl
theorem fact11 : ((Rows.fnExactPastGetRow.recurses == Try.prog.recurses 22)) = true := by kernel_rfl
theorem fact12 : ((Rows.fnExactPastGetRow.named == Try.prog.varsNamed 22)) = true := by kernel_rfl
end Go.Proofs.Ytfpgjkanmanajaa.fnExactPastGetC
