/-
  Closed facts of the law FnSieveSame, each by the kernel.
-/
import Derived.Test.YtakadkhgcjndmaaRows
import Derived.WalkKit
import Derived.ProofKit
import Derived.OpenShut
import Derived.Test.YtakadkhgcjndmaaCP
namespace Go.Proofs.Ytakadkhgcjndmaa.fnSieveSameC
open Go.ChangeShapes Go.WideShapes Go.ChangeAt Go.RowKit
theorem fact0 : (Rows.fnSieveSameRow.wf (OpenSpec.ofChange Rows.fnSieveSameSpec)) = true := by kernel_rfl
theorem fact3 : (Try.f6.params.all (Try.prog.readableRec ·)) = true := by kernel_rfl
theorem fact4 : (namedTie Try.prog Rows.fnSieveSameRow.named Rows.fnSieveSameSpec.vars) = true := by kernel_rfl
theorem fact5 : ((Rows.fnSieveSameRow.stops == [])) = true := by kernel_rfl
theorem fact7 : ((Rows.fnSieveSameRow.knobs == [])) = true := by kernel_rfl
theorem fact9 : ((Rows.fnSieveSameRow.inPlace == Try.prog.inPlace 6)) = true := by kernel_rfl
theorem fact10 : ((Rows.fnSieveSameRow.unfollowed == Try.prog.unfollowed 6)) = true := by kernel_rfl
theorem fact11 : ((Rows.fnSieveSameRow.recurses == Try.prog.recurses 6)) = true := by kernel_rfl
theorem fact12 : ((Rows.fnSieveSameRow.named == Try.prog.varsNamed 6)) = true := by kernel_rfl
end Go.Proofs.Ytakadkhgcjndmaa.fnSieveSameC
