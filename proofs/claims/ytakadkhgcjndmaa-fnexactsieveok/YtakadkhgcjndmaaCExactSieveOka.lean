/-
  Closed facts of the law FnExactSieveOk, each by the kernel.
-/
import Derived.Test.YtakadkhgcjndmaaRows
import Derived.WalkKit
import Derived.ProofKit
import Derived.OpenShut
import Derived.Test.YtakadkhgcjndmaaCP
namespace Go.Proofs.Ytakadkhgcjndmaa.fnExactSieveOkC
open Go.ChangeShapes Go.WideShapes Go.ChangeAt Go.RowKit
theorem fact0 : (Rows.fnExactSieveOkRow.wf (OpenSpec.ofChange Rows.fnExactSieveOkSpec)) = true := by kernel_rfl
theorem fact3 : (Try.f22.params.all (Try.prog.readableRec ·)) = true := by kernel_rfl
theorem fact4 : (namedTie Try.prog Rows.fnExactSieveOkRow.named Rows.fnExactSieveOkSpec.vars) = true := by kernel_rfl
theorem fact5 : ((Rows.fnExactSieveOkRow.stops == [])) = true := by kernel_rfl
theorem fact7 : ((Rows.fnExactSieveOkRow.knobs == [])) = true := by kernel_rfl
theorem fact9 : ((Rows.fnExactSieveOkRow.inPlace == Try.prog.inPlace 22)) = true := by kernel_rfl
theorem fact10 : ((Rows.fnExactSieveOkRow.unfollowed == Try.prog.unfollowed 22)) = true := by kernel_rfl
theorem fact11 : ((Rows.fnExactSieveOkRow.recurses == Try.prog.recurses 22)) = true := by kernel_rfl
theorem fact12 : ((Rows.fnExactSieveOkRow.named == Try.prog.varsNamed 22)) = true := by kernel_rfl
end Go.Proofs.Ytakadkhgcjndmaa.fnExactSieveOkC
