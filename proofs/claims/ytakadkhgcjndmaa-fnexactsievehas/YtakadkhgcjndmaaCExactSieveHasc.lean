/-
  Closed facts of the law FnExactSieveHas, each by the kernel.
-/
import Derived.Test.YtakadkhgcjndmaaRows
import Derived.WalkKit
import Derived.ProofKit
import Derived.OpenShut
import Derived.Test.YtakadkhgcjndmaaCP
namespace Go.Proofs.Ytakadkhgcjndmaa.fnExactSieveHasC
open Go.ChangeShapes Go.WideShapes Go.ChangeAt Go.RowKit
theorem fact22 : ((Rows.fnExactSieveHasRow.plainKeys == Try.prog.plainKeys)) = true := by kernel_rfl
theorem fact23 : (Rows.fnExactSieveHasRow.shortTexts.isNone) = true := by kernel_rfl
theorem fact26 : ((Rows.fnExactSieveHasRow.lifted == Try.prog.liftsFinal)) = true := by rw [CP.liftsF]; kernel_rfl
theorem fact27 : ((Try.prog.make == some Rows.fnExactSieveHasRow.make)) = true := by rw [CP.make_]; kernel_rfl
theorem fact28 : ((Rows.fnExactSieveHasRow.kinds == (if Rows.fnExactSieveHasRow.domain.isEmpty then [] else Try.f24.params.toList.map fun t => match Try.prog.underlying t with | some (.int k) => some k | _ => none))) = true := by kernel_rfl
theorem fact29 : ((Rows.fnExactSieveHasRow.pinned == Rows.fnExactSieveHasRow.pinnedBy)) = true := by kernel_rfl
theorem fact30 : ((Rows.fnExactSieveHasRow.veiled == (Try.f24.params.toList ++ Rows.fnExactSieveHasSpec.plain.varTypes Try.prog ++ Try.f24.resultTypes.toList).any (Try.prog.veiledRec ·))) = true := by kernel_rfl
theorem fact31 : (Rows.fnExactSieveHasRow.veiledFits Try.prog Try.f24.params.toList (Try.f24.params.toList ++ Rows.fnExactSieveHasSpec.plain.varTypes Try.prog ++ Try.f24.resultTypes.toList)) = true := by kernel_rfl
end Go.Proofs.Ytakadkhgcjndmaa.fnExactSieveHasC
