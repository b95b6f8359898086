/-
  Closed facts of the law FnRunAtMore, each by the kernel.
-/
import Derived.Test.YtjjalagmlbaafaaRows
import Derived.WalkKit
import Derived.ProofKit
import Derived.OpenShut
import Derived.Test.YtjjalagmlbaafaaCP
namespace Go.Proofs.Ytjjalagmlbaafaa.fnRunAtMoreC
open Go.ChangeShapes Go.WideShapes Go.ChangeAt Go.RowKit
theorem fact0 : (Rows.fnRunAtMoreRow.wf (OpenSpec.ofChange Rows.fnRunAtMoreSpec)) = true := by kernel_rfl
theorem fact3 : (Try.f14.params.all (Try.prog.readableRec ·)) = true := by kernel_rfl
theorem fact4 : (namedTie Try.prog Rows.fnRunAtMoreRow.named Rows.fnRunAtMoreSpec.vars) = true := by kernel_rfl
theorem fact5 : ((Rows.fnRunAtMoreRow.stops == [])) = true := by kernel_rfl
theorem fact7 : ((Rows.fnRunAtMoreRow.knobs == [])) = true := by kernel_rfl
theorem fact9 : ((Rows.fnRunAtMoreRow.inPlace == Try.prog.inPlace 14)) = true := by kernel_rfl
theorem fact10 : ((Rows.fnRunAtMoreRow.unfollowed == Try.prog.unfollowed 14)) = true := by kernel_rfl
theorem fact11 : ((Rows.fnRunAtMoreRow.recurses == Try.prog.recurses 14)) = true := by kernel_rfl
theorem fact12 : ((Rows.fnRunAtMoreRow.named == Try.prog.varsNamed 14)) = true := by kernel_rfl
end Go.Proofs.Ytjjalagmlbaafaa.fnRunAtMoreC
