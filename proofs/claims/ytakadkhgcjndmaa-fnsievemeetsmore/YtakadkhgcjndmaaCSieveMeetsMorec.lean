/-
  Closed facts of the law FnSieveMeetsMore, each by the kernel.
-/
import Derived.Test.YtakadkhgcjndmaaRows
import Derived.WalkKit
import Derived.ProofKit
import Derived.OpenShut
import Derived.Test.YtakadkhgcjndmaaCP
namespace Go.Proofs.Ytakadkhgcjndmaa.fnSieveMeetsMoreC
open Go.ChangeShapes Go.WideShapes Go.ChangeAt Go.RowKit
theorem fact22 : ((Rows.fnSieveMeetsMoreRow.plainKeys == Try.prog.plainKeys)) = true := by kernel_rfl
theorem fact23 : (Rows.fnSieveMeetsMoreRow.shortTexts.isNone) = true := by kernel_rfl
theorem fact26 : ((Rows.fnSieveMeetsMoreRow.lifted == Try.prog.liftsFinal)) = true := by rw [CP.liftsF]; kernel_rfl
theorem fact27 : ((Try.prog.make == some Rows.fnSieveMeetsMoreRow.make)) = true := by rw [CP.make_]; kernel_rfl
theorem fact28 : ((Rows.fnSieveMeetsMoreRow.kinds == (if Rows.fnSieveMeetsMoreRow.domain.isEmpty then [] else Try.f14.params.toList.map fun t => match Try.prog.underlying t with | some (.int k) => some k | _ => none))) = true := by kernel_rfl
theorem fact29 : ((Rows.fnSieveMeetsMoreRow.pinned == Rows.fnSieveMeetsMoreRow.pinnedBy)) = true := by kernel_rfl
theorem fact30 : ((Rows.fnSieveMeetsMoreRow.veiled == (Try.f14.params.toList ++ Rows.fnSieveMeetsMoreSpec.plain.varTypes Try.prog ++ Try.f14.resultTypes.toList).any (Try.prog.veiledRec ·))) = true := by kernel_rfl
theorem fact31 : (Rows.fnSieveMeetsMoreRow.veiledFits Try.prog Try.f14.params.toList (Try.f14.params.toList ++ Rows.fnSieveMeetsMoreSpec.plain.varTypes Try.prog ++ Try.f14.resultTypes.toList)) = true := by kernel_rfl
end Go.Proofs.Ytakadkhgcjndmaa.fnSieveMeetsMoreC
