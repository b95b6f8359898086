/-
  Closed facts of the law FnExactSieveSeek, each by the kernel.
-/
import Derived.Test.YtakadkhgcjndmaaRows
import Derived.WalkKit
import Derived.ProofKit
import Derived.OpenShut
import Derived.Test.YtakadkhgcjndmaaCP
namespace Go.Proofs.Ytakadkhgcjndmaa.fnExactSieveSeekC
open Go.ChangeShapes Go.WideShapes Go.ChangeAt Go.RowKit
theorem fact0 : (Rows.fnExactSieveSeekRow.wf (OpenSpec.ofChange Rows.fnExactSieveSeekSpec)) = true := by kernel_rfl
theorem fact3 : (Try.f26.params.all (Try.prog.readableRec ·)) = true := by kernel_rfl
theorem fact4 : (namedTie Try.prog Rows.fnExactSieveSeekRow.named Rows.fnExactSieveSeekSpec.vars) = true := by kernel_rfl
theorem fact5 : ((Rows.fnExactSieveSeekRow.stops == [])) = true := by kernel_rfl
theorem fact7 : ((Rows.fnExactSieveSeekRow.knobs == [])) = true := by kernel_rfl
theorem fact9 : ((Rows.fnExactSieveSeekRow.inPlace == Try.prog.inPlace 26)) = true := by kernel_rfl
theorem fact10 : ((Rows.fnExactSieveSeekRow.unfollowed == Try.prog.unfollowed 26)) = true := by kernel_rfl
theorem fact11 : ((Rows.fnExactSieveSeekRow.recurses == Try.prog.recurses 26)) = true := by kernel_rfl
theorem fact12 : ((Rows.fnExactSieveSeekRow.named == Try.prog.varsNamed 26)) = true := by kernel_rfl
end Go.Proofs.Ytakadkhgcjndmaa.fnExactSieveSeekC
