/-
  Closed facts of the law FnExactSieveMeets, each by the kernel.
-/
import Derived.Test.YtakadkhgcjndmaaRows
import Derived.WalkKit
import Derived.ProofKit
import Derived.OpenShut
import Derived.Test.YtakadkhgcjndmaaCP
namespace Go.Proofs.Ytakadkhgcjndmaa.fnExactSieveMeetsC
open Go.ChangeShapes Go.WideShapes Go.ChangeAt Go.RowKit
theorem fact0 : (Rows.fnExactSieveMeetsRow.wf (OpenSpec.ofChange Rows.fnExactSieveMeetsSpec)) = true := by kernel_rfl
theorem fact3 : (Try.f25.params.all (Try.prog.readableRec ·)) = true := by kernel_rfl
theorem fact4 : (namedTie Try.prog Rows.fnExactSieveMeetsRow.named Rows.fnExactSieveMeetsSpec.vars) = true := by kernel_rfl
theorem fact5 : ((Rows.fnExactSieveMeetsRow.stops == [])) = true := by kernel_rfl
theorem fact7 : ((Rows.fnExactSieveMeetsRow.knobs == [])) = true := by kernel_rfl
theorem fact9 : ((Rows.fnExactSieveMeetsRow.inPlace == Try.prog.inPlace 25)) = true := by kernel_rfl
theorem fact10 : ((Rows.fnExactSieveMeetsRow.unfollowed == Try.prog.unfollowed 25)) = true := by kernel_rfl
theorem fact11 : ((Rows.fnExactSieveMeetsRow.recurses == Try.prog.recurses 25)) = true := by kernel_rfl
theorem fact12 : ((Rows.fnExactSieveMeetsRow.named == Try.prog.varsNamed 25)) = true := by kernel_rfl
end Go.Proofs.Ytakadkhgcjndmaa.fnExactSieveMeetsC
