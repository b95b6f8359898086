/-
  Closed facts of the law FnExactSieveHeads, each by the kernel.
-/
import Derived.Test.YtakadkhgcjndmaaRows
import Derived.WalkKit
import Derived.ProofKit
import Derived.OpenShut
import Derived.Test.YtakadkhgcjndmaaCP
namespace Go.Proofs.Ytakadkhgcjndmaa.fnExactSieveHeadsC
open Go.ChangeShapes Go.WideShapes Go.ChangeAt Go.RowKit
theorem fact22 : ((Rows.fnExactSieveHeadsRow.plainKeys == Try.prog.plainKeys)) = true := by kernel_rfl
theorem fact23 : (Rows.fnExactSieveHeadsRow.shortTexts.isNone) = true := by kernel_rfl
theorem fact26 : ((Rows.fnExactSieveHeadsRow.lifted == Try.prog.liftsFinal)) = true := by rw [CP.liftsF]; kernel_rfl
theorem fact27 : ((Try.prog.make == some Rows.fnExactSieveHeadsRow.make)) = true := by rw [CP.make_]; kernel_rfl
theorem fact28 : ((Rows.fnExactSieveHeadsRow.kinds == (if Rows.fnExactSieveHeadsRow.domain.isEmpty then [] else Try.f23.params.toList.map fun t => match Try.prog.underlying t with | some (.int k) => some k | _ => none))) = true := by kernel_rfl
theorem fact29 : ((Rows.fnExactSieveHeadsRow.pinned == Rows.fnExactSieveHeadsRow.pinnedBy)) = true := by kernel_rfl
theorem fact30 : ((Rows.fnExactSieveHeadsRow.veiled == (Try.f23.params.toList ++ Rows.fnExactSieveHeadsSpec.plain.varTypes Try.prog ++ Try.f23.resultTypes.toList).any (Try.prog.veiledRec ·))) = true := by kernel_rfl
theorem fact31 : (Rows.fnExactSieveHeadsRow.veiledFits Try.prog Try.f23.params.toList (Try.f23.params.toList ++ Rows.fnExactSieveHeadsSpec.plain.varTypes Try.prog ++ Try.f23.resultTypes.toList)) = true := by kernel_rfl
end Go.Proofs.Ytakadkhgcjndmaa.fnExactSieveHeadsC
