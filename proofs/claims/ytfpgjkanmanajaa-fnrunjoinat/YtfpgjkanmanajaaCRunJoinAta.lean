/-
  Closed facts of the law FnRunJoinAt, each by the kernel.
-/
import Derived.Test.YtfpgjkanmanajaaRows
import Derived.WalkKit
import Derived.ProofKit
import Derived.OpenShut
import Derived.Test.YtfpgjkanmanajaaCP
namespace Go.Proofs.Ytfpgjkanmanajaa.fnRunJoinAtC
open Go.ChangeShapes Go.WideShapes Go.ChangeAt Go.RowKit
theorem fact0 : (Rows.fnRunJoinAtRow.wf (OpenSpec.ofChange Rows.fnRunJoinAtSpec)) = true := by kernel_rfl
theorem fact3 : (Try.f6.params.all (Try.prog.readableRec ·)) = true := by kernel_rfl
theorem fact4 : (namedTie Try.prog Rows.fnRunJoinAtRow.named Rows.fnRunJoinAtSpec.vars) = true := by kernel_rfl
theorem fact5 : ((Rows.fnRunJoinAtRow.stops == [])) = true := by kernel_rfl
theorem fact7 : ((Rows.fnRunJoinAtRow.knobs == [])) = true := by kernel_rfl
theorem fact9 : ((Rows.fnRunJoinAtRow.inPlace == Try.prog.inPlace 6)) = true := by kernel_rfl
theorem fact10 : ((Rows.fnRunJoinAtRow.unfollowed == Try.prog.unfollowed 6)) = true := by kernel_rfl
theorem fact11 : ((Rows.fnRunJoinAtRow.recurses == Try.prog.recurses 6)) = true := by kernel_rfl
theorem fact12 : ((Rows.fnRunJoinAtRow.named == Try.prog.varsNamed 6)) = true := by kernel_rfl
end Go.Proofs.Ytfpgjkanmanajaa.fnRunJoinAtC
