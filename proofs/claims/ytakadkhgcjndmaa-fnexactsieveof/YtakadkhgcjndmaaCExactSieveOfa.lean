/-
  Closed facts of the law FnExactSieveOf, each by the kernel.
-/
import Derived.Test.YtakadkhgcjndmaaRows
import Derived.WalkKit
import Derived.ProofKit
import Derived.OpenShut
import Derived.Test.YtakadkhgcjndmaaCP
namespace Go.Proofs.Ytakadkhgcjndmaa.fnExactSieveOfC
open Go.ChangeShapes Go.WideShapes Go.ChangeAt Go.RowKit
theorem fact0 : (Rows.fnExactSieveOfRow.wf (OpenSpec.ofChange Rows.fnExactSieveOfSpec)) = true := by kernel_rfl
theorem fact3 : (Try.f21.params.all (Try.prog.readableRec ·)) = true := by kernel_rfl
theorem fact4 : (namedTie Try.prog Rows.fnExactSieveOfRow.named Rows.fnExactSieveOfSpec.vars) = true := by kernel_rfl
theorem fact5 : ((Rows.fnExactSieveOfRow.stops == [])) = true := by kernel_rfl
theorem fact7 : ((Rows.fnExactSieveOfRow.knobs == [])) = true := by kernel_rfl
theorem fact9 : ((Rows.fnExactSieveOfRow.inPlace == Try.prog.inPlace 21)) = true := by kernel_rfl
theorem fact10 : ((Rows.fnExactSieveOfRow.unfollowed == Try.prog.unfollowed 21)) = true := by kernel_rfl
theorem fact11 : ((Rows.fnExactSieveOfRow.recurses == Try.prog.recurses 21)) = true := by kernel_rfl
theorem fact12 : ((Rows.fnExactSieveOfRow.named == Try.prog.varsNamed 21)) = true := by kernel_rfl
end Go.Proofs.Ytakadkhgcjndmaa.fnExactSieveOfC
