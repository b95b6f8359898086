/-
  Closed facts of the law FnExactRunList, each by the kernel.
-/
import Derived.Test.YtfpgjkanmanajaaRows
import Derived.WalkKit
import Derived.ProofKit
import Derived.OpenShut
import Derived.Test.YtfpgjkanmanajaaCP
namespace Go.Proofs.Ytfpgjkanmanajaa.fnExactRunListC
open Go.ChangeShapes Go.WideShapes Go.ChangeAt Go.RowKit
theorem fact0 : (Rows.fnExactRunListRow.wf (OpenSpec.ofChange Rows.fnExactRunListSpec)) = true := by kernel_rfl
theorem fact3 : (Try.f21.params.all (Try.prog.readableRec ·)) = true := by kernel_rfl
theorem fact4 : (namedTie Try.prog Rows.fnExactRunListRow.named Rows.fnExactRunListSpec.vars) = true := by kernel_rfl
theorem fact5 : ((Rows.fnExactRunListRow.stops == [])) = true := by kernel_rfl
theorem fact7 : ((Rows.fnExactRunListRow.knobs == [])) = true := by kernel_rfl
theorem fact9 : ((Rows.fnExactRunListRow.inPlace == Try.prog.inPlace 21)) = true := by kernel_rfl
theorem fact10 : ((Rows.fnExactRunListRow.unfollowed == Try.prog.unfollowed 21)) = true := by kernel_rfl
theorem fact11 : ((Rows.fnExactRunListRow.recurses == Try.prog.recurses 21)) = true := by kernel_rfl
theorem fact12 : ((Rows.fnExactRunListRow.named == Try.prog.varsNamed 21)) = true := by kernel_rfl
end Go.Proofs.Ytfpgjkanmanajaa.fnExactRunListC
