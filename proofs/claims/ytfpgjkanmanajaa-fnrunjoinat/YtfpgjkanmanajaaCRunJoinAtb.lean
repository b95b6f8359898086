/-
  Closed facts of the law FnRunJoinAt, each by the kernel.
-/
import Derived.Test.YtfpgjkanmanajaaRows
import Derived.WalkKit
import Derived.ProofKit
import Derived.OpenShut
import Derived.Test.YtfpgjkanmanajaaCP
namespace Go.Proofs.Ytfpgjkanmanajaa.fnRunJoinAtC
open Go.ChangeShapes Go.WideShapes Go.ChangeAt Go.RowKit
theorem fact13 : ((Rows.fnRunJoinAtRow.maps == (Try.f6.params.toList ++ Rows.fnRunJoinAtSpec.plain.varTypes Try.prog).any (Try.prog.mapsRec ·))) = true := by kernel_rfl
theorem fact14 : ((Rows.fnRunJoinAtRow.ifaces == (Try.f6.params.toList ++ Rows.fnRunJoinAtSpec.plain.varTypes Try.prog).any (Try.prog.ifacesRec ·))) = true := by kernel_rfl
theorem fact15 : ((Rows.fnRunJoinAtRow.mapsOut == Try.prog.mapsAmong Try.f6.resultTypes.toList)) = true := by kernel_rfl
theorem fact16 : ((Rows.fnRunJoinAtRow.loops == (Try.f6.params.toList ++ Rows.fnRunJoinAtSpec.plain.varTypes Try.prog).any (Try.prog.loopsFrom ·))) = true := by kernel_rfl
theorem fact17 : ((Rows.fnRunJoinAtRow.wideKeys == (Try.f6.params.toList ++ Rows.fnRunJoinAtSpec.plain.varTypes Try.prog ++ Try.f6.resultTypes.toList).any (Try.prog.wideKeysFrom ·))) = true := by kernel_rfl
theorem fact18 : (Rows.fnRunJoinAtSpec.vars.all (Try.prog.varReadable ·)) = true := by kernel_rfl
theorem fact19 : (Try.f6.resultTypes.all (fun t => Try.prog.readableRec t && decide (t < Try.prog.types.size))) = true := by kernel_rfl
theorem fact20 : ((Rows.fnRunJoinAtRow.ifacesOut == Try.f6.resultTypes.toList.any (Try.prog.ifacesRec ·))) = true := by kernel_rfl
theorem fact21 : ((Rows.fnRunJoinAtRow.loopsOut == Try.f6.resultTypes.toList.any (Try.prog.loopsFrom ·))) = true := by kernel_rfl
end Go.Proofs.Ytfpgjkanmanajaa.fnRunJoinAtC
