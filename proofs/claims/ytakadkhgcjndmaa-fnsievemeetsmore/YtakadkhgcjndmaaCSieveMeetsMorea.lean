/-
  Closed facts of the law FnSieveMeetsMore, each by the kernel.
-/
import Derived.Test.YtakadkhgcjndmaaRows
import Derived.WalkKit
import Derived.ProofKit
import Derived.OpenShut
import Derived.Test.YtakadkhgcjndmaaCP
namespace Go.Proofs.Ytakadkhgcjndmaa.fnSieveMeetsMoreC
open Go.ChangeShapes Go.WideShapes Go.ChangeAt Go.RowKit
theorem fact0 : (Rows.fnSieveMeetsMoreRow.wf (OpenSpec.ofChange Rows.fnSieveMeetsMoreSpec)) = true := by kernel_rfl
theorem fact3 : (Try.f14.params.all (Try.prog.readableRec ·)) = true := by kernel_rfl
theorem fact4 : (namedTie Try.prog Rows.fnSieveMeetsMoreRow.named Rows.fnSieveMeetsMoreSpec.vars) = true := by kernel_rfl
theorem fact5 : ((Rows.fnSieveMeetsMoreRow.stops == [])) = true := by kernel_rfl
theorem fact7 : ((Rows.fnSieveMeetsMoreRow.knobs == [])) = true := by kernel_rfl
theorem fact9 : ((Rows.fnSieveMeetsMoreRow.inPlace == Try.prog.inPlace 14)) = true := by kernel_rfl
theorem fact10 : ((Rows.fnSieveMeetsMoreRow.unfollowed == Try.prog.unfollowed 14)) = true := by kernel_rfl
theorem fact11 : ((Rows.fnSieveMeetsMoreRow.recurses == Try.prog.recurses 14)) = true := by kernel_rfl
theorem fact12 : ((Rows.fnSieveMeetsMoreRow.named == Try.prog.varsNamed 14)) = true := by kernel_rfl
end Go.Proofs.Ytakadkhgcjndmaa.fnSieveMeetsMoreC
