/-
  Closed facts of the law FnRunAt, each by the kernel.
-/
import Derived.Test.YtjjalagmlbaafaaRows
import Derived.WalkKit
import Derived.ProofKit
import Derived.OpenShut
import Derived.Test.YtjjalagmlbaafaaCP
namespace Go.Proofs.Ytjjalagmlbaafaa.fnRunAtC
open Go.ChangeShapes Go.WideShapes Go.ChangeAt Go.RowKit
theorem fact0 : (Rows.fnRunAtRow.wf (OpenSpec.ofChange Rows.fnRunAtSpec)) = true := by kernel_rfl
theorem fact3 : (Try.f4.params.all (Try.prog.readableRec ·)) = true := by kernel_rfl
theorem fact4 : (namedTie Try.prog Rows.fnRunAtRow.named Rows.fnRunAtSpec.vars) = true := by kernel_rfl
theorem fact5 : ((Rows.fnRunAtRow.stops == [])) = true := by kernel_rfl
theorem fact7 : ((Rows.fnRunAtRow.knobs == [])) = true := by kernel_rfl
theorem fact9 : ((Rows.fnRunAtRow.inPlace == Try.prog.inPlace 4)) = true := by kernel_rfl
theorem fact10 : ((Rows.fnRunAtRow.unfollowed == Try.prog.unfollowed 4)) = true := by kernel_rfl
theorem fact11 : ((Rows.fnRunAtRow.recurses == Try.prog.recurses 4)) = true := by kernel_rfl
theorem fact12 : ((Rows.fnRunAtRow.named == Try.prog.varsNamed 4)) = true := by kernel_rfl
end Go.Proofs.Ytjjalagmlbaafaa.fnRunAtC
