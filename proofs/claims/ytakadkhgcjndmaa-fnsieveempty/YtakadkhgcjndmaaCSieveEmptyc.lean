/-
  Closed facts of the law FnSieveEmpty, each by the kernel.
-/
import Derived.Test.YtakadkhgcjndmaaRows
import Derived.WalkKit
import Derived.ProofKit
import Derived.OpenShut
import Derived.Test.YtakadkhgcjndmaaCP
namespace Go.Proofs.Ytakadkhgcjndmaa.fnSieveEmptyC
open Go.ChangeShapes Go.WideShapes Go.ChangeAt Go.RowKit
theorem fact22 : ((Rows.fnSieveEmptyRow.plainKeys == Try.prog.plainKeys)) = true := by kernel_rfl
theorem fact23 : (Rows.fnSieveEmptyRow.shortTexts.isNone) = true := by kernel_rfl
theorem fact26 : ((Rows.fnSieveEmptyRow.lifted == Try.prog.liftsFinal)) = true := by rw [CP.liftsF]; kernel_rfl
theorem fact27 : ((Try.prog.make == some Rows.fnSieveEmptyRow.make)) = true := by rw [CP.make_]; kernel_rfl
theorem fact28 : ((Rows.fnSieveEmptyRow.kinds == (if Rows.fnSieveEmptyRow.domain.isEmpty then [] else Try.f18.params.toList.map fun t => match Try.prog.underlying t with | some (.int k) => some k | _ => none))) = true := by kernel_rfl
theorem fact29 : ((Rows.fnSieveEmptyRow.pinned == Rows.fnSieveEmptyRow.pinnedBy)) = true := by kernel_rfl
theorem fact30 : ((Rows.fnSieveEmptyRow.veiled == (Try.f18.params.toList ++ Rows.fnSieveEmptySpec.plain.varTypes Try.prog ++ Try.f18.resultTypes.toList).any (Try.prog.veiledRec ·))) = true := by kernel_rfl
theorem fact31 : (Rows.fnSieveEmptyRow.veiledFits Try.prog Try.f18.params.toList (Try.f18.params.toList ++ Rows.fnSieveEmptySpec.plain.varTypes Try.prog ++ Try.f18.resultTypes.toList)) = true := by kernel_rfl
end Go.Proofs.Ytakadkhgcjndmaa.fnSieveEmptyC
