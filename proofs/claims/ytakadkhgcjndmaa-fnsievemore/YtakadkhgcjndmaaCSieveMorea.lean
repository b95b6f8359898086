/-
  Closed facts of the law FnSieveMore, each by the kernel.
-/
import Derived.Test.YtakadkhgcjndmaaRows
import Derived.WalkKit
import Derived.ProofKit
import Derived.OpenShut
import Derived.Test.YtakadkhgcjndmaaCP
namespace Go.Proofs.Ytakadkhgcjndmaa.fnSieveMoreC
open Go.ChangeShapes Go.WideShapes Go.ChangeAt Go.RowKit
theorem fact0 : (Rows.fnSieveMoreRow.wf (OpenSpec.ofChange Rows.fnSieveMoreSpec)) = true := by kernel_rfl
theorem fact3 : (Try.f19.params.all (Try.prog.readableRec ·)) = true := by kernel_rfl
theorem fact4 : (namedTie Try.prog Rows.fnSieveMoreRow.named Rows.fnSieveMoreSpec.vars) = true := by kernel_rfl
theorem fact5 : ((Rows.fnSieveMoreRow.stops == [])) = true := by kernel_rfl
theorem fact7 : ((Rows.fnSieveMoreRow.knobs == [])) = true := by kernel_rfl
theorem fact9 : ((Rows.fnSieveMoreRow.inPlace == Try.prog.inPlace 19)) = true := by kernel_rfl
theorem fact10 : ((Rows.fnSieveMoreRow.unfollowed == Try.prog.unfollowed 19)) = true := by kernel_rfl
theorem fact11 : ((Rows.fnSieveMoreRow.recurses == Try.prog.recurses 19)) = true := by kernel_rfl
theorem fact12 : ((Rows.fnSieveMoreRow.named == Try.prog.varsNamed 19)) = true := by kernel_rfl
end Go.Proofs.Ytakadkhgcjndmaa.fnSieveMoreC
