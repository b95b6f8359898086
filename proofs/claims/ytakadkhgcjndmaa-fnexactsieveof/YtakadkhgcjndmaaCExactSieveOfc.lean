/-
  Closed facts of the law FnExactSieveOf, each by the kernel.
-/
import Derived.Test.YtakadkhgcjndmaaRows
import Derived.WalkKit
import Derived.ProofKit
import Derived.OpenShut
import Derived.Test.YtakadkhgcjndmaaCP
namespace Go.Proofs.Ytakadkhgcjndmaa.fnExactSieveOfC
open Go.ChangeShapes Go.WideShapes Go.ChangeAt Go.RowKit
theorem fact22 : ((Rows.fnExactSieveOfRow.plainKeys == Try.prog.plainKeys)) = true := by kernel_rfl
theorem fact23 : (Rows.fnExactSieveOfRow.shortTexts.isNone) = true := by kernel_rfl
theorem fact26 : ((Rows.fnExactSieveOfRow.lifted == Try.prog.liftsFinal)) = true := by rw [CP.liftsF]; kernel_rfl
theorem fact27 : ((Try.prog.make == some Rows.fnExactSieveOfRow.make)) = true := by rw [CP.make_]; kernel_rfl
theorem fact28 : ((Rows.fnExactSieveOfRow.kinds == (if Rows.fnExactSieveOfRow.domain.isEmpty then [] else Try.f21.params.toList.map fun t => match Try.prog.underlying t with | some (.int k) => some k | _ => none))) = true := by kernel_rfl
theorem fact29 : ((Rows.fnExactSieveOfRow.pinned == Rows.fnExactSieveOfRow.pinnedBy)) = true := by kernel_rfl
theorem fact30 : ((Rows.fnExactSieveOfRow.veiled == (Try.f21.params.toList ++ Rows.fnExactSieveOfSpec.plain.varTypes Try.prog ++ Try.f21.resultTypes.toList).any (Try.prog.veiledRec ·))) = true := by kernel_rfl
theorem fact31 : (Rows.fnExactSieveOfRow.veiledFits Try.prog Try.f21.params.toList (Try.f21.params.toList ++ Rows.fnExactSieveOfSpec.plain.varTypes Try.prog ++ Try.f21.resultTypes.toList)) = true := by kernel_rfl
end Go.Proofs.Ytakadkhgcjndmaa.fnExactSieveOfC
