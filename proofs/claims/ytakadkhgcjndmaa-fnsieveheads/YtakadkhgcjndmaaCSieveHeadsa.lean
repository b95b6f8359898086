/-
  Closed facts of the law FnSieveHeads, each by the kernel.
-/
import Derived.Test.YtakadkhgcjndmaaRows
import Derived.WalkKit
import Derived.ProofKit
import Derived.OpenShut
import Derived.Test.YtakadkhgcjndmaaCP
namespace Go.Proofs.Ytakadkhgcjndmaa.fnSieveHeadsC
open Go.ChangeShapes Go.WideShapes Go.ChangeAt Go.RowKit
theorem fact0 : (Rows.fnSieveHeadsRow.wf (OpenSpec.ofChange Rows.fnSieveHeadsSpec)) = true := by kernel_rfl
theorem fact3 : (Try.f4.params.all (Try.prog.readableRec ·)) = true := by kernel_rfl
theorem fact4 : (namedTie Try.prog Rows.fnSieveHeadsRow.named Rows.fnSieveHeadsSpec.vars) = true := by kernel_rfl
theorem fact5 : ((Rows.fnSieveHeadsRow.stops == [])) = true := by kernel_rfl
theorem fact7 : ((Rows.fnSieveHeadsRow.knobs == [])) = true := by kernel_rfl
theorem fact9 : ((Rows.fnSieveHeadsRow.inPlace == Try.prog.inPlace 4)) = true := by kernel_rfl
theorem fact10 : ((Rows.fnSieveHeadsRow.unfollowed == Try.prog.unfollowed 4)) = true := by kernel_rfl
theorem fact11 : ((Rows.fnSieveHeadsRow.recurses == Try.prog.recurses 4)) = true := by kernel_rfl
theorem fact12 : ((Rows.fnSieveHeadsRow.named == Try.prog.varsNamed 4)) = true := by kernel_rfl
end Go.Proofs.Ytakadkhgcjndmaa.fnSieveHeadsC
