/-
  Closed facts of the law FnSieveNever, each by the kernel.
-/
import Derived.Test.YtakadkhgcjndmaaRows
import Derived.WalkKit
import Derived.ProofKit
import Derived.OpenShut
import Derived.Test.YtakadkhgcjndmaaCP
namespace Go.Proofs.Ytakadkhgcjndmaa.fnSieveNeverC
open Go.ChangeShapes Go.WideShapes Go.ChangeAt Go.RowKit
theorem fact22 : ((Rows.fnSieveNeverRow.plainKeys == Try.prog.plainKeys)) = true := by kernel_rfl
theorem fact23 : (Rows.fnSieveNeverRow.shortTexts.isNone) = true := by kernel_rfl
theorem fact26 : ((Rows.fnSieveNeverRow.lifted == Try.prog.liftsFinal)) = true := by rw [CP.liftsF]; kernel_rfl
theorem fact27 : ((Try.prog.make == some Rows.fnSieveNeverRow.make)) = true := by rw [CP.make_]; kernel_rfl
theorem fact28 : ((Rows.fnSieveNeverRow.kinds == (if Rows.fnSieveNeverRow.domain.isEmpty then [] else Try.f3.params.toList.map fun t => match Try.prog.underlying t with | some (.int k) => some k | _ => none))) = true := by kernel_rfl
theorem fact29 : ((Rows.fnSieveNeverRow.pinned == Rows.fnSieveNeverRow.pinnedBy)) = true := by kernel_rfl
theorem fact30 : ((Rows.fnSieveNeverRow.veiled == (Try.f3.params.toList ++ Rows.fnSieveNeverSpec.plain.varTypes Try.prog ++ Try.f3.resultTypes.toList).any (Try.prog.veiledRec ·))) = true := by kernel_rfl
theorem fact31 : (Rows.fnSieveNeverRow.veiledFits Try.prog Try.f3.params.toList (Try.f3.params.toList ++ Rows.fnSieveNeverSpec.plain.varTypes Try.prog ++ Try.f3.resultTypes.toList)) = true := by kernel_rfl
end Go.Proofs.Ytakadkhgcjndmaa.fnSieveNeverC
