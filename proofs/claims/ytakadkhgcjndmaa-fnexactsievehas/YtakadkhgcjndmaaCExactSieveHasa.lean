/-
  Closed facts of the law FnExactSieveHas, each by the kernel.
-/
import Derived.Test.YtakadkhgcjndmaaRows
import Derived.WalkKit
import Derived.ProofKit
import Derived.OpenShut
import Derived.Test.YtakadkhgcjndmaaCP
namespace Go.Proofs.Ytakadkhgcjndmaa.fnExactSieveHasC
open Go.ChangeShapes Go.WideShapes Go.ChangeAt Go.RowKit
theorem fact0 : (Rows.fnExactSieveHasRow.wf (OpenSpec.ofChange Rows.fnExactSieveHasSpec)) = true := by kernel_rfl
theorem fact3 : (Try.f24.params.all (Try.prog.readableRec ·)) = true := by kernel_rfl
theorem fact4 : (namedTie Try.prog Rows.fnExactSieveHasRow.named Rows.fnExactSieveHasSpec.vars) = true := by kernel_rfl
theorem fact5 : ((Rows.fnExactSieveHasRow.stops == [])) = true := by kernel_rfl
theorem fact7 : ((Rows.fnExactSieveHasRow.knobs == [])) = true := by kernel_rfl
theorem fact9 : ((Rows.fnExactSieveHasRow.inPlace == Try.prog.inPlace 24)) = true := by kernel_rfl
theorem fact10 : ((Rows.fnExactSieveHasRow.unfollowed == Try.prog.unfollowed 24)) = true := by kernel_rfl
theorem fact11 : ((Rows.fnExactSieveHasRow.recurses == Try.prog.recurses 24)) = true := by kernel_rfl
theorem fact12 : ((Rows.fnExactSieveHasRow.named == Try.prog.varsNamed 24)) = true := by kernel_rfl
end Go.Proofs.Ytakadkhgcjndmaa.fnExactSieveHasC
