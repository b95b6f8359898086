/-
  Closed facts of the law FnSieveSeek, each by the kernel.
-/
import Derived.Test.YtakadkhgcjndmaaRows
import Derived.WalkKit
import Derived.ProofKit
import Derived.OpenShut
import Derived.Test.YtakadkhgcjndmaaCP
namespace Go.Proofs.Ytakadkhgcjndmaa.fnSieveSeekC
open Go.ChangeShapes Go.WideShapes Go.ChangeAt Go.RowKit
theorem fact0 : (Rows.fnSieveSeekRow.wf (OpenSpec.ofChange Rows.fnSieveSeekSpec)) = true := by kernel_rfl
theorem fact3 : (Try.f15.params.all (Try.prog.readableRec ·)) = true := by kernel_rfl
theorem fact4 : (namedTie Try.prog Rows.fnSieveSeekRow.named Rows.fnSieveSeekSpec.vars) = true := by kernel_rfl
theorem fact5 : ((Rows.fnSieveSeekRow.stops == [])) = true := by kernel_rfl
theorem fact7 : ((Rows.fnSieveSeekRow.knobs == [])) = true := by kernel_rfl
theorem fact9 : ((Rows.fnSieveSeekRow.inPlace == Try.prog.inPlace 15)) = true := by kernel_rfl
theorem fact10 : ((Rows.fnSieveSeekRow.unfollowed == Try.prog.unfollowed 15)) = true := by kernel_rfl
theorem fact11 : ((Rows.fnSieveSeekRow.recurses == Try.prog.recurses 15)) = true := by kernel_rfl
theorem fact12 : ((Rows.fnSieveSeekRow.named == Try.prog.varsNamed 15)) = true := by kernel_rfl
end Go.Proofs.Ytakadkhgcjndmaa.fnSieveSeekC
