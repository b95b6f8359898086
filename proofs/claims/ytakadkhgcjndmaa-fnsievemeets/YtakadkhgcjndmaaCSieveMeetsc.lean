/-
  Closed facts of the law FnSieveMeets, each by the kernel.
-/
import Derived.Test.YtakadkhgcjndmaaRows
import Derived.WalkKit
import Derived.ProofKit
import Derived.OpenShut
import Derived.Test.YtakadkhgcjndmaaCP
namespace Go.Proofs.Ytakadkhgcjndmaa.fnSieveMeetsC
open Go.ChangeShapes Go.WideShapes Go.ChangeAt Go.RowKit
theorem fact22 : ((Rows.fnSieveMeetsRow.plainKeys == Try.prog.plainKeys)) = true := by kernel_rfl
theorem fact23 : (Rows.fnSieveMeetsRow.shortTexts.isNone) = true := by kernel_rfl
theorem fact26 : ((Rows.fnSieveMeetsRow.lifted == Try.prog.liftsFinal)) = true := by rw [CP.liftsF]; kernel_rfl
theorem fact27 : ((Try.prog.make == some Rows.fnSieveMeetsRow.make)) = true := by rw [CP.make_]; kernel_rfl
theorem fact28 : ((Rows.fnSieveMeetsRow.kinds == (if Rows.fnSieveMeetsRow.domain.isEmpty then [] else Try.f12.params.toList.map fun t => match Try.prog.underlying t with | some (.int k) => some k | _ => none))) = true := by kernel_rfl
theorem fact29 : ((Rows.fnSieveMeetsRow.pinned == Rows.fnSieveMeetsRow.pinnedBy)) = true := by kernel_rfl
theorem fact30 : ((Rows.fnSieveMeetsRow.veiled == (Try.f12.params.toList ++ Rows.fnSieveMeetsSpec.plain.varTypes Try.prog ++ Try.f12.resultTypes.toList).any (Try.prog.veiledRec ·))) = true := by kernel_rfl
theorem fact31 : (Rows.fnSieveMeetsRow.veiledFits Try.prog Try.f12.params.toList (Try.f12.params.toList ++ Rows.fnSieveMeetsSpec.plain.varTypes Try.prog ++ Try.f12.resultTypes.toList)) = true := by kernel_rfl
end Go.Proofs.Ytakadkhgcjndmaa.fnSieveMeetsC
