/-
  Closed facts of the law FnSieveMeets, each by the kernel.
-/
import Derived.Test.YtakadkhgcjndmaaRows
import Derived.WalkKit
import Derived.ProofKit
import Derived.OpenShut
import Derived.Test.YtakadkhgcjndmaaCP
namespace Go.Proofs.Ytakadkhgcjndmaa.fnSieveMeetsC
open Go.ChangeShapes Go.WideShapes Go.ChangeAt Go.RowKit
theorem fact0 : (Rows.fnSieveMeetsRow.wf (OpenSpec.ofChange Rows.fnSieveMeetsSpec)) = true := by kernel_rfl
theorem fact3 : (Try.f12.params.all (Try.prog.readableRec ·)) = true := by kernel_rfl
theorem fact4 : (namedTie Try.prog Rows.fnSieveMeetsRow.named Rows.fnSieveMeetsSpec.vars) = true := by kernel_rfl
theorem fact5 : ((Rows.fnSieveMeetsRow.stops == [])) = true := by kernel_rfl
theorem fact7 : ((Rows.fnSieveMeetsRow.knobs == [])) = true := by kernel_rfl
theorem fact9 : ((Rows.fnSieveMeetsRow.inPlace == Try.prog.inPlace 12)) = true := by kernel_rfl
theorem fact10 : ((Rows.fnSieveMeetsRow.unfollowed == Try.prog.unfollowed 12)) = true := by kernel_rfl
theorem fact11 : ((Rows.fnSieveMeetsRow.recurses == Try.prog.recurses 12)) = true := by kernel_rfl
theorem fact12 : ((Rows.fnSieveMeetsRow.named == Try.prog.varsNamed 12)) = true := by kernel_rfl
end Go.Proofs.Ytakadkhgcjndmaa.fnSieveMeetsC
