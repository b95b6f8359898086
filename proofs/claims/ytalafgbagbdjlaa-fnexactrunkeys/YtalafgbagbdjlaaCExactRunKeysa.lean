/-
  Closed facts of the law FnExactRunKeys, each by the kernel.
-/
import Derived.Test.YtalafgbagbdjlaaRows
import Derived.WalkKit
import Derived.ProofKit
import Derived.OpenShut
import Derived.Test.YtalafgbagbdjlaaCP
namespace Go.Proofs.Ytalafgbagbdjlaa.fnExactRunKeysC
open Go.ChangeShapes Go.WideShapes Go.ChangeAt Go.RowKit
theorem fact0 : (Rows.fnExactRunKeysRow.wf (OpenSpec.ofChange Rows.fnExactRunKeysSpec)) = true := by kernel_rfl
theorem fact3 : (Try.f20.params.all (Try.prog.readableRec ·)) = true := by kernel_rfl
theorem fact4 : (namedTie Try.prog Rows.fnExactRunKeysRow.named Rows.fnExactRunKeysSpec.vars) = true := by kernel_rfl
theorem fact5 : ((Rows.fnExactRunKeysRow.stops == [])) = true := by kernel_rfl
theorem fact7 : ((Rows.fnExactRunKeysRow.knobs == [])) = true := by kernel_rfl
theorem fact9 : ((Rows.fnExactRunKeysRow.inPlace == Try.prog.inPlace 20)) = true := by kernel_rfl
theorem fact10 : ((Rows.fnExactRunKeysRow.unfollowed == Try.prog.unfollowed 20)) = true := by kernel_rfl
theorem fact11 : ((Rows.fnExactRunKeysRow.recurses == Try.prog.recurses 20)) = true := by kernel_rfl
theorem fact12 : ((Rows.fnExactRunKeysRow.named == Try.prog.varsNamed 20)) = true := by kernel_rfl
end Go.Proofs.Ytalafgbagbdjlaa.fnExactRunKeysC
