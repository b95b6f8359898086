/-
  Closed facts of the law FnSieveMeetsHas, each by the kernel.
-/
import Derived.Test.YtakadkhgcjndmaaRows
import Derived.WalkKit
import Derived.ProofKit
import Derived.OpenShut
import Derived.Test.YtakadkhgcjndmaaCP
namespace Go.Proofs.Ytakadkhgcjndmaa.fnSieveMeetsHasC
open Go.ChangeShapes Go.WideShapes Go.ChangeAt Go.RowKit
theorem fact22 : ((Rows.fnSieveMeetsHasRow.plainKeys == Try.prog.plainKeys)) = true := by kernel_rfl
theorem fact23 : (Rows.fnSieveMeetsHasRow.shortTexts.isNone) = true := by kernel_rfl
theorem fact26 : ((Rows.fnSieveMeetsHasRow.lifted == Try.prog.liftsFinal)) = true := by rw [CP.liftsF]; kernel_rfl
theorem fact27 : ((Try.prog.make == some Rows.fnSieveMeetsHasRow.make)) = true := by rw [CP.make_]; kernel_rfl
theorem fact28 : ((Rows.fnSieveMeetsHasRow.kinds == (if Rows.fnSieveMeetsHasRow.domain.isEmpty then [] else Try.f13.params.toList.map fun t => match Try.prog.underlying t with | some (.int k) => some k | _ => none))) = true := by kernel_rfl
theorem fact29 : ((Rows.fnSieveMeetsHasRow.pinned == Rows.fnSieveMeetsHasRow.pinnedBy)) = true := by kernel_rfl
theorem fact30 : ((Rows.fnSieveMeetsHasRow.veiled == (Try.f13.params.toList ++ Rows.fnSieveMeetsHasSpec.plain.varTypes Try.prog ++ Try.f13.resultTypes.toList).any (Try.prog.veiledRec ·))) = true := by kernel_rfl
theorem fact31 : (Rows.fnSieveMeetsHasRow.veiledFits Try.prog Try.f13.params.toList (Try.f13.params.toList ++ Rows.fnSieveMeetsHasSpec.plain.varTypes Try.prog ++ Try.f13.resultTypes.toList)) = true := by kernel_rfl
end Go.Proofs.Ytakadkhgcjndmaa.fnSieveMeetsHasC
