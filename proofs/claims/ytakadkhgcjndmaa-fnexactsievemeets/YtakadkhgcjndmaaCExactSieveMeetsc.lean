/-
  Closed facts of the law FnExactSieveMeets, each by the kernel.
-/
import Derived.Test.YtakadkhgcjndmaaRows
import Derived.WalkKit
import Derived.ProofKit
import Derived.OpenShut
import Derived.Test.YtakadkhgcjndmaaCP
namespace Go.Proofs.Ytakadkhgcjndmaa.fnExactSieveMeetsC
open Go.ChangeShapes Go.WideShapes Go.ChangeAt Go.RowKit
theorem fact22 : ((Rows.fnExactSieveMeetsRow.plainKeys == Try.prog.plainKeys)) = true := by kernel_rfl
theorem fact23 : (Rows.fnExactSieveMeetsRow.shortTexts.isNone) = true := by kernel_rfl
theorem fact26 : ((Rows.fnExactSieveMeetsRow.lifted == Try.prog.liftsFinal)) = true := by rw [CP.liftsF]; kernel_rfl
theorem fact27 : ((Try.prog.make == some Rows.fnExactSieveMeetsRow.make)) = true := by rw [CP.make_]; kernel_rfl
theorem fact28 : ((Rows.fnExactSieveMeetsRow.kinds == (if Rows.fnExactSieveMeetsRow.domain.isEmpty then [] else Try.f25.params.toList.map fun t => match Try.prog.underlying t with | some (.int k) => some k | _ => none))) = true := by kernel_rfl
theorem fact29 : ((Rows.fnExactSieveMeetsRow.pinned == Rows.fnExactSieveMeetsRow.pinnedBy)) = true := by kernel_rfl
theorem fact30 : ((Rows.fnExactSieveMeetsRow.veiled == (Try.f25.params.toList ++ Rows.fnExactSieveMeetsSpec.plain.varTypes Try.prog ++ Try.f25.resultTypes.toList).any (Try.prog.veiledRec ·))) = true := by kernel_rfl
theorem fact31 : (Rows.fnExactSieveMeetsRow.veiledFits Try.prog Try.f25.params.toList (Try.f25.params.toList ++ Rows.fnExactSieveMeetsSpec.plain.varTypes Try.prog ++ Try.f25.resultTypes.toList)) = true := by kernel_rfl
end Go.Proofs.Ytakadkhgcjndmaa.fnExactSieveMeetsC
