/-
  Closed facts of the law FnSieveExact, each by the kernel.
-/
import Derived.Test.YtakadkhgcjndmaaRows
import Derived.WalkKit
import Derived.ProofKit
import Derived.OpenShut
import Derived.Test.YtakadkhgcjndmaaCP
namespace Go.Proofs.Ytakadkhgcjndmaa.fnSieveExactC
open Go.ChangeShapes Go.WideShapes Go.ChangeAt Go.RowKit
theorem fact0 : (Rows.fnSieveExactRow.wf (OpenSpec.ofChange Rows.fnSieveExactSpec)) = true := by kernel_rfl
theorem fact3 : (Try.f10.params.all (Try.prog.readableRec ·)) = true := by kernel_rfl
theorem fact4 : (namedTie Try.prog Rows.fnSieveExactRow.named Rows.fnSieveExactSpec.vars) = true := by kernel_rfl
theorem fact5 : ((Rows.fnSieveExactRow.stops == [])) = true := by kernel_rfl
theorem fact7 : ((Rows.fnSieveExactRow.knobs == [])) = true := by kernel_rfl
theorem fact9 : ((Rows.fnSieveExactRow.inPlace == Try.prog.inPlace 10)) = true := by kernel_rfl
theorem fact10 : ((Rows.fnSieveExactRow.unfollowed == Try.prog.unfollowed 10)) = true := by kernel_rfl
theorem fact11 : ((Rows.fnSieveExactRow.recurses == Try.prog.recurses 10)) = true := by kernel_rfl
theorem fact12 : ((Rows.fnSieveExactRow.named == Try.prog.varsNamed 10)) = true := by kernel_rfl
end Go.Proofs.Ytakadkhgcjndmaa.fnSieveExactC
