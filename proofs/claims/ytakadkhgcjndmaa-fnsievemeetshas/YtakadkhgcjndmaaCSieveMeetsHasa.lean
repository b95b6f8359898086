/-
  Closed facts of the law FnSieveMeetsHas, each by the kernel.
-/
import Derived.Test.YtakadkhgcjndmaaRows
import Derived.WalkKit
import Derived.ProofKit
import Derived.OpenShut
import Derived.Test.YtakadkhgcjndmaaCP
namespace Go.Proofs.Ytakadkhgcjndmaa.fnSieveMeetsHasC
open Go.ChangeShapes Go.WideShapes Go.ChangeAt Go.RowKit
theorem fact0 : (Rows.fnSieveMeetsHasRow.wf (OpenSpec.ofChange Rows.fnSieveMeetsHasSpec)) = true := by kernel_rfl
theorem fact3 : (Try.f13.params.all (Try.prog.readableRec ·)) = true := by kernel_rfl
theorem fact4 : (namedTie Try.prog Rows.fnSieveMeetsHasRow.named Rows.fnSieveMeetsHasSpec.vars) = true := by kernel_rfl
theorem fact5 : ((Rows.fnSieveMeetsHasRow.stops == [])) = true := by kernel_rfl
theorem fact7 : ((Rows.fnSieveMeetsHasRow.knobs == [])) = true := by kernel_rfl
theorem fact9 : ((Rows.fnSieveMeetsHasRow.inPlace == Try.prog.inPlace 13)) = true := by kernel_rfl
theorem fact10 : ((Rows.fnSieveMeetsHasRow.unfollowed == Try.prog.unfollowed 13)) = true := by kernel_rfl
theorem fact11 : ((Rows.fnSieveMeetsHasRow.recurses == Try.prog.recurses 13)) = true := by kernel_rfl
theorem fact12 : ((Rows.fnSieveMeetsHasRow.named == Try.prog.varsNamed 13)) = true := by kernel_rfl
end Go.Proofs.Ytakadkhgcjndmaa.fnSieveMeetsHasC
