/-
  Closed facts of the law FnSieveHas, each by the kernel.
-/
import Derived.Test.YtakadkhgcjndmaaRows
import Derived.WalkKit
import Derived.ProofKit
import Derived.OpenShut
import Derived.Test.YtakadkhgcjndmaaCP
namespace Go.Proofs.Ytakadkhgcjndmaa.fnSieveHasC
open Go.ChangeShapes Go.WideShapes Go.ChangeAt Go.RowKit
theorem fact0 : (Rows.fnSieveHasRow.wf (OpenSpec.ofChange Rows.fnSieveHasSpec)) = true := by kernel_rfl
theorem fact3 : (Try.f8.params.all (Try.prog.readableRec ·)) = true := by kernel_rfl
theorem fact4 : (namedTie Try.prog Rows.fnSieveHasRow.named Rows.fnSieveHasSpec.vars) = true := by kernel_rfl
theorem fact5 : ((Rows.fnSieveHasRow.stops == [])) = true := by kernel_rfl
theorem fact7 : ((Rows.fnSieveHasRow.knobs == [])) = true := by kernel_rfl
theorem fact9 : ((Rows.fnSieveHasRow.inPlace == Try.prog.inPlace 8)) = true := by kernel_rfl
theorem fact10 : ((Rows.fnSieveHasRow.unfollowed == Try.prog.unfollowed 8)) = true := by kernel_rfl
theorem fact11 : ((Rows.fnSieveHasRow.recurses == Try.prog.recurses 8)) = true := by kernel_rfl
theorem fact12 : ((Rows.fnSieveHasRow.named == Try.prog.varsNamed 8)) = true := by kernel_rfl
end Go.Proofs.Ytakadkhgcjndmaa.fnSieveHasC
