/-
  Closed facts of the law FnRunOk, each by the kernel.
-/
import Derived.Test.YtfpgjkanmanajaaRows
import Derived.WalkKit
import Derived.ProofKit
import Derived.OpenShut
import Derived.Test.YtfpgjkanmanajaaCP
namespace Go.Proofs.Ytfpgjkanmanajaa.fnRunOkC
open Go.ChangeShapes Go.WideShapes Go.ChangeAt Go.RowKit
theorem fact0 : (Rows.fnRunOkRow.wf (OpenSpec.ofChange Rows.fnRunOkSpec)) = true := by kernel_rfl
theorem fact3 : (Try.f3.params.all (Try.prog.readableRec ·)) = true := by kernel_rfl
theorem fact4 : (namedTie Try.prog Rows.fnRunOkRow.named Rows.fnRunOkSpec.vars) = true := by kernel_rfl
theorem fact5 : ((Rows.fnRunOkRow.stops == [])) = true := by kernel_rfl
theorem fact7 : ((Rows.fnRunOkRow.knobs == [])) = true := by kernel_rfl
theorem fact9 : ((Rows.fnRunOkRow.inPlace == Try.prog.inPlace 3)) = true := by kernel_rfl
theorem fact10 : ((Rows.fnRunOkRow.unfollowed == Try.prog.unfollowed 3)) = true := by kernel_rfl
theorem fact11 : ((Rows.fnRunOkRow.recurses == Try.prog.recurses 3)) = true := by kernel_rfl
theorem fact12 : ((Rows.fnRunOkRow.named == Try.prog.varsNamed 3)) = true := by kernel_rfl
end Go.Proofs.Ytfpgjkanmanajaa.fnRunOkC
