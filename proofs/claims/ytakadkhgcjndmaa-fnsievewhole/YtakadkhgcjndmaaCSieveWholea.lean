/-
  Closed facts of the law FnSieveWhole, each by the kernel.
-/
import Derived.Test.YtakadkhgcjndmaaRows
import Derived.WalkKit
import Derived.ProofKit
import Derived.OpenShut
import Derived.Test.YtakadkhgcjndmaaCP
namespace Go.Proofs.Ytakadkhgcjndmaa.fnSieveWholeC
open Go.ChangeShapes Go.WideShapes Go.ChangeAt Go.RowKit
theorem fact0 : (Rows.fnSieveWholeRow.wf (OpenSpec.ofChange Rows.fnSieveWholeSpec)) = true := by kernel_rfl
theorem fact3 : (Try.f9.params.all (Try.prog.readableRec ·)) = true := by kernel_rfl
theorem fact4 : (namedTie Try.prog Rows.fnSieveWholeRow.named Rows.fnSieveWholeSpec.vars) = true := by kernel_rfl
theorem fact5 : ((Rows.fnSieveWholeRow.stops == [])) = true := by kernel_rfl
theorem fact7 : ((Rows.fnSieveWholeRow.knobs == [])) = true := by kernel_rfl
theorem fact9 : ((Rows.fnSieveWholeRow.inPlace == Try.prog.inPlace 9)) = true := by kernel_rfl
theorem fact10 : ((Rows.fnSieveWholeRow.unfollowed == Try.prog.unfollowed 9)) = true := by kernel_rfl
theorem fact11 : ((Rows.fnSieveWholeRow.recurses == Try.prog.recurses 9)) = true := by kernel_rfl
theorem fact12 : ((Rows.fnSieveWholeRow.named == Try.prog.varsNamed 9)) = true := by kernel_rfl
end Go.Proofs.Ytakadkhgcjndmaa.fnSieveWholeC
