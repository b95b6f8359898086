/-
  Closed facts of the law FnExactSieveHeads, each by the kernel.
-/
import Derived.Test.YtakadkhgcjndmaaRows
import Derived.WalkKit
import Derived.ProofKit
import Derived.OpenShut
import Derived.Test.YtakadkhgcjndmaaCP
namespace Go.Proofs.Ytakadkhgcjndmaa.fnExactSieveHeadsC
open Go.ChangeShapes Go.WideShapes Go.ChangeAt Go.RowKit
theorem fact0 : (Rows.fnExactSieveHeadsRow.wf (OpenSpec.ofChange Rows.fnExactSieveHeadsSpec)) = true := by kernel_rfl
theorem fact3 : (Try.f23.params.all (Try.prog.readableRec ·)) = true := by kernel_rfl
theorem fact4 : (namedTie Try.prog Rows.fnExactSieveHeadsRow.named Rows.fnExactSieveHeadsSpec.vars) = true := by kernel_rfl
theorem fact5 : ((Rows.fnExactSieveHeadsRow.stops == [])) = true := by kernel_rfl
theorem fact7 : ((Rows.fnExactSieveHeadsRow.knobs == [])) = true := by kernel_rfl
theorem fact9 : ((Rows.fnExactSieveHeadsRow.inPlace == Try.prog.inPlace 23)) = true := by kernel_rfl
theorem fact10 : ((Rows.fnExactSieveHeadsRow.unfollowed == Try.prog.unfollowed 23)) = true := by kernel_rfl
theorem fact11 : ((Rows.fnExactSieveHeadsRow.recurses == Try.prog.recurses 23)) = true := by kernel_rfl
theorem fact12 : ((Rows.fnExactSieveHeadsRow.named == Try.prog.varsNamed 23)) = true := by kernel_rfl
end Go.Proofs.Ytakadkhgcjndmaa.fnExactSieveHeadsC
