/-
  Closed facts of the law FnSieveGap, each by the kernel.
-/
import Derived.Test.YtakadkhgcjndmaaRows
import Derived.WalkKit
import Derived.ProofKit
import Derived.OpenShut
import Derived.Test.YtakadkhgcjndmaaCP
namespace Go.Proofs.Ytakadkhgcjndmaa.fnSieveGapC
open Go.ChangeShapes Go.WideShapes Go.ChangeAt Go.RowKit
theorem fact0 : (Rows.fnSieveGapRow.wf (OpenSpec.ofChange Rows.fnSieveGapSpec)) = true := by kernel_rfl
theorem fact3 : (Try.f20.params.all (Try.prog.readableRec ·)) = true := by kernel_rfl
theorem fact4 : (namedTie Try.prog Rows.fnSieveGapRow.named Rows.fnSieveGapSpec.vars) = true := by kernel_rfl
theorem fact5 : ((Rows.fnSieveGapRow.stops == [])) = true := by kernel_rfl
theorem fact7 : ((Rows.fnSieveGapRow.knobs == [])) = true := by kernel_rfl
theorem fact9 : ((Rows.fnSieveGapRow.inPlace == Try.prog.inPlace 20)) = true := by kernel_rfl
theorem fact10 : ((Rows.fnSieveGapRow.unfollowed == Try.prog.unfollowed 20)) = true := by kernel_rfl
theorem fact11 : ((Rows.fnSieveGapRow.recurses == Try.prog.recurses 20)) = true := by kernel_rfl
theorem fact12 : ((Rows.fnSieveGapRow.named == Try.prog.varsNamed 20)) = true := by kernel_rfl
end Go.Proofs.Ytakadkhgcjndmaa.fnSieveGapC
