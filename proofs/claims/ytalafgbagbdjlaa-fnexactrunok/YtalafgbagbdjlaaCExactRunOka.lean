/-
  Closed facts of the law FnExactRunOk, each by the kernel.
-/
import Derived.Test.YtalafgbagbdjlaaRows
import Derived.WalkKit
import Derived.ProofKit
import Derived.OpenShut
import Derived.Test.YtalafgbagbdjlaaCP
namespace Go.Proofs.Ytalafgbagbdjlaa.fnExactRunOkC
open Go.ChangeShapes Go.WideShapes Go.ChangeAt Go.RowKit
theorem fact0 : (Rows.fnExactRunOkRow.wf (OpenSpec.ofChange Rows.fnExactRunOkSpec)) = true := by kernel_rfl
theorem fact3 : (Try.f16.params.all (Try.prog.readableRec ·)) = true := by kernel_rfl
theorem fact4 : (namedTie Try.prog Rows.fnExactRunOkRow.named Rows.fnExactRunOkSpec.vars) = true := by kernel_rfl
theorem fact5 : ((Rows.fnExactRunOkRow.stops == [])) = true := by kernel_rfl
theorem fact7 : ((Rows.fnExactRunOkRow.knobs == [])) = true := by kernel_rfl
theorem fact9 : ((Rows.fnExactRunOkRow.inPlace == Try.prog.inPlace 16)) = true := by kernel_rfl
theorem fact10 : ((Rows.fnExactRunOkRow.unfollowed == Try.prog.unfollowed 16)) = true := by kernel_rfl
theorem fact11 : ((Rows.fnExactRunOkRow.recurses == Try.prog.recurses 16)) = true := by kernel_rfl
theorem fact12 : ((Rows.fnExactRunOkRow.named == Try.prog.varsNamed 16)) = true := by kernel_rfl
end Go.Proofs.Ytalafgbagbdjlaa.fnExactRunOkC
