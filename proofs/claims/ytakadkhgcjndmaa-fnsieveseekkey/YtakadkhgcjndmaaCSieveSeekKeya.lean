/-
  Closed facts of the law FnSieveSeekKey, each by the kernel.
-/
import Derived.Test.YtakadkhgcjndmaaRows
import Derived.WalkKit
import Derived.ProofKit
import Derived.OpenShut
import Derived.Test.YtakadkhgcjndmaaCP
namespace Go.Proofs.Ytakadkhgcjndmaa.fnSieveSeekKeyC
open Go.ChangeShapes Go.WideShapes Go.ChangeAt Go.RowKit
theorem fact0 : (Rows.fnSieveSeekKeyRow.wf (OpenSpec.ofChange Rows.fnSieveSeekKeySpec)) = true := by kernel_rfl
theorem fact3 : (Try.f16.params.all (Try.prog.readableRec ·)) = true := by kernel_rfl
theorem fact4 : (namedTie Try.prog Rows.fnSieveSeekKeyRow.named Rows.fnSieveSeekKeySpec.vars) = true := by kernel_rfl
theorem fact5 : ((Rows.fnSieveSeekKeyRow.stops == [])) = true := by kernel_rfl
theorem fact7 : ((Rows.fnSieveSeekKeyRow.knobs == [])) = true := by kernel_rfl
theorem fact9 : ((Rows.fnSieveSeekKeyRow.inPlace == Try.prog.inPlace 16)) = true := by kernel_rfl
theorem fact10 : ((Rows.fnSieveSeekKeyRow.unfollowed == Try.prog.unfollowed 16)) = true := by kernel_rfl
theorem fact11 : ((Rows.fnSieveSeekKeyRow.recurses == Try.prog.recurses 16)) = true := by kernel_rfl
theorem fact12 : ((Rows.fnSieveSeekKeyRow.named == Try.prog.varsNamed 16)) = true := by kernel_rfl
end Go.Proofs.Ytakadkhgcjndmaa.fnSieveSeekKeyC
