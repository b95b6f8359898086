/-
  Closed facts of the law FnSieveOk, each by the kernel.
-/
import Derived.Test.YtakadkhgcjndmaaRows
import Derived.WalkKit
import Derived.ProofKit
import Derived.OpenShut
import Derived.Test.YtakadkhgcjndmaaCP
namespace Go.Proofs.Ytakadkhgcjndmaa.fnSieveOkC
open Go.ChangeShapes Go.WideShapes Go.ChangeAt Go.RowKit
theorem fact0 : (Rows.fnSieveOkRow.wf (OpenSpec.ofChange Rows.fnSieveOkSpec)) = true := by kernel_rfl
theorem fact3 : (Try.f7.params.all (Try.prog.readableRec ·)) = true := by kernel_rfl
theorem fact4 : (namedTie Try.prog Rows.fnSieveOkRow.named Rows.fnSieveOkSpec.vars) = true := by kernel_rfl
theorem fact5 : ((Rows.fnSieveOkRow.stops == [])) = true := by kernel_rfl
theorem fact7 : ((Rows.fnSieveOkRow.knobs == [])) = true := by kernel_rfl
theorem fact9 : ((Rows.fnSieveOkRow.inPlace == Try.prog.inPlace 7)) = true := by kernel_rfl
theorem fact10 : ((Rows.fnSieveOkRow.unfollowed == Try.prog.unfollowed 7)) = true := by kernel_rfl
theorem fact11 : ((Rows.fnSieveOkRow.recurses == Try.prog.recurses 7)) = true := by kernel_rfl
theorem fact12 : ((Rows.fnSieveOkRow.named == Try.prog.varsNamed 7)) = true := by kernel_rfl
end Go.Proofs.Ytakadkhgcjndmaa.fnSieveOkC
