/-
  Closed facts of the law FnSieveNever, each by the kernel.
-/
import Derived.Test.YtakadkhgcjndmaaRows
import Derived.WalkKit
import Derived.ProofKit
import Derived.OpenShut
import Derived.Test.YtakadkhgcjndmaaCP
namespace Go.Proofs.Ytakadkhgcjndmaa.fnSieveNeverC
open Go.ChangeShapes Go.WideShapes Go.ChangeAt Go.RowKit
theorem fact0 : (Rows.fnSieveNeverRow.wf (OpenSpec.ofChange Rows.fnSieveNeverSpec)) = true := by kernel_rfl
theorem fact3 : (Try.f3.params.all (Try.prog.readableRec ·)) = true := by kernel_rfl
theorem fact4 : (namedTie Try.prog Rows.fnSieveNeverRow.named Rows.fnSieveNeverSpec.vars) = true := by kernel_rfl
theorem fact5 : ((Rows.fnSieveNeverRow.stops == [])) = true := by kernel_rfl
theorem fact7 : ((Rows.fnSieveNeverRow.knobs == [])) = true := by kernel_rfl
theorem fact9 : ((Rows.fnSieveNeverRow.inPlace == Try.prog.inPlace 3)) = true := by kernel_rfl
theorem fact10 : ((Rows.fnSieveNeverRow.unfollowed == Try.prog.unfollowed 3)) = true := by kernel_rfl
theorem fact11 : ((Rows.fnSieveNeverRow.recurses == Try.prog.recurses 3)) = true := by kernel_rfl
theorem fact12 : ((Rows.fnSieveNeverRow.named == Try.prog.varsNamed 3)) = true := by kernel_rfl
end Go.Proofs.Ytakadkhgcjndmaa.fnSieveNeverC
