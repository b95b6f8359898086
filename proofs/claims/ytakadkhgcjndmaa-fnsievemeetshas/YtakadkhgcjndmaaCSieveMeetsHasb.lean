/-
  Closed facts of the law FnSieveMeetsHas, each by the kernel.
-/
import Derived.Test.YtakadkhgcjndmaaRows
import Derived.WalkKit
import Derived.ProofKit
import Derived.OpenShut
import Derived.Test.YtakadkhgcjndmaaCP
namespace Go.Proofs.Ytakadkhgcjndmaa.fnSieveMeetsHasC
open Go.ChangeShapes Go.WideShapes Go.ChangeAt Go.RowKit
theorem fact13 : ((Rows.fnSieveMeetsHasRow.maps == (Try.f13.params.toList ++ Rows.fnSieveMeetsHasSpec.plain.varTypes Try.prog).any (Try.prog.mapsRec ·))) = true := by kernel_rfl
theorem fact14 : ((Rows.fnSieveMeetsHasRow.ifaces == (Try.f13.params.toList ++ Rows.fnSieveMeetsHasSpec.plain.varTypes Try.prog).any (Try.prog.ifacesRec ·))) = true := by kernel_rfl
theorem fact15 : ((Rows.fnSieveMeetsHasRow.mapsOut == Try.prog.mapsAmong Try.f13.resultTypes.toList)) = true := by kernel_rfl
theorem fact16 : ((Rows.fnSieveMeetsHasRow.loops == (Try.f13.params.toList ++ Rows.fnSieveMeetsHasSpec.plain.varTypes Try.prog).any (Try.prog.loopsFrom ·))) = true := by kernel_rfl
theorem fact17 : ((Rows.fnSieveMeetsHasRow.wideKeys == (Try.f13.params.toList ++ Rows.fnSieveMeetsHasSpec.plain.varTypes Try.prog ++ Try.f13.resultTypes.toList).any (Try.prog.wideKeysFrom ·))) = true := by kernel_rfl
theorem fact18 : (Rows.fnSieveMeetsHasSpec.vars.all (Try.prog.varReadable ·)) = true := by kernel_rfl
theorem fact19 : (Try.f13.resultTypes.all (fun t => Try.prog.readableRec t && decide (t < Try.prog.types.size))) = true := by kernel_rfl
theorem fact20 : ((Rows.fnSieveMeetsHasRow.ifacesOut == Try.f13.resultTypes.toList.any (Try.prog.ifacesRec ·))) = true := by kernel_rfl
theorem fact21 : ((Rows.fnSieveMeetsHasRow.loopsOut == Try.f13.resultTypes.toList.any (Try.prog.loopsFrom ·))) = true := by kernel_rfl
end Go.Proofs.Ytakadkhgcjndmaa.fnSieveMeetsHasC
