/-
  Closed facts of the law FnSieveEmpty, each by the kernel.
-/
import Derived.Test.YtakadkhgcjndmaaRows
import Derived.WalkKit
import Derived.ProofKit
import Derived.OpenShut
import Derived.Test.YtakadkhgcjndmaaCP
namespace Go.Proofs.Ytakadkhgcjndmaa.fnSieveEmptyC
open Go.ChangeShapes Go.WideShapes Go.ChangeAt Go.RowKit
theorem fact0 : (Rows.fnSieveEmptyRow.wf (OpenSpec.ofChange Rows.fnSieveEmptySpec)) = true := by kernel_rfl
theorem fact3 : (Try.f18.params.all (Try.prog.readableRec ·)) = true := by kernel_rfl
theorem fact4 : (namedTie Try.prog Rows.fnSieveEmptyRow.named Rows.fnSieveEmptySpec.vars) = true := by kernel_rfl
theorem fact5 : ((Rows.fnSieveEmptyRow.stops == [])) = true := by kernel_rfl
theorem fact7 : ((Rows.fnSieveEmptyRow.knobs == [])) = true := by kernel_rfl
theorem fact9 : ((Rows.fnSieveEmptyRow.inPlace == Try.prog.inPlace 18)) = true := by kernel_rfl
theorem fact10 : ((Rows.fnSieveEmptyRow.unfollowed == Try.prog.unfollowed 18)) = true := by kernel_rfl
theorem fact11 : ((Rows.fnSieveEmptyRow.recurses == Try.prog.recurses 18)) = true := by kernel_rfl
theorem fact12 : ((Rows.fnSieveEmptyRow.named == Try.prog.varsNamed 18)) = true := by kernel_rfl
end Go.Proofs.Ytakadkhgcjndmaa.fnSieveEmptyC
