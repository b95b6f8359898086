/-
  Closed facts of the law FnExactRunAt, each by the kernel.
-/
import Derived.Test.YtalafgbagbdjlaaRows
import Derived.WalkKit
import Derived.ProofKit
import Derived.OpenShut
import Derived.Test.YtalafgbagbdjlaaCP
namespace Go.Proofs.Ytalafgbagbdjlaa.fnExactRunAtC
open Go.ChangeShapes Go.WideShapes Go.ChangeAt Go.RowKit
theorem fact0 : (Rows.fnExactRunAtRow.wf (OpenSpec.ofChange Rows.fnExactRunAtSpec)) = true := by kernel_rfl
theorem fact3 : (Try.f17.params.all (Try.prog.readableRec ·)) = true := by kernel_rfl
theorem fact4 : (namedTie Try.prog Rows.fnExactRunAtRow.named Rows.fnExactRunAtSpec.vars) = true := by kernel_rfl
theorem fact5 : ((Rows.fnExactRunAtRow.stops == [])) = true := by kernel_rfl
theorem fact7 : ((Rows.fnExactRunAtRow.knobs == [])) = true := by kernel_rfl
theorem fact9 : ((Rows.fnExactRunAtRow.inPlace == Try.prog.inPlace 17)) = true := by kernel_rfl
theorem fact10 : ((Rows.fnExactRunAtRow.unfollowed == Try.prog.unfollowed 17)) = true := by kernel_rfl
theorem fact11 : ((Rows.fnExactRunAtRow.recurses == Try.prog.recurses 17)) = true := by kernel_rfl
theorem fact12 : ((Rows.fnExactRunAtRow.named == Try.prog.varsNamed 17)) = true := by kernel_rfl
end Go.Proofs.Ytalafgbagbdjlaa.fnExactRunAtC
