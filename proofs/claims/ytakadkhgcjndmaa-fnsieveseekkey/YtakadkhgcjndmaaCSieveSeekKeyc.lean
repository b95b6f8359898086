/-
  Closed facts of the law FnSieveSeekKey, each by the kernel.
-/
import Derived.Test.YtakadkhgcjndmaaRows
import Derived.WalkKit
import Derived.ProofKit
import Derived.OpenShut
import Derived.Test.YtakadkhgcjndmaaCP
namespace Go.Proofs.Ytakadkhgcjndmaa.fnSieveSeekKeyC
open Go.ChangeShapes Go.WideShapes Go.ChangeAt Go.RowKit
theorem fact22 : ((Rows.fnSieveSeekKeyRow.plainKeys == Try.prog.plainKeys)) = true := by kernel_rfl
theorem fact23 : (Rows.fnSieveSeekKeyRow.shortTexts.isNone) = true := by kernel_rfl
theorem fact26 : ((Rows.fnSieveSeekKeyRow.lifted == Try.prog.liftsFinal)) = true := by rw [CP.liftsF]; kernel_rfl
theorem fact27 : ((Try.prog.make == some Rows.fnSieveSeekKeyRow.make)) = true := by rw [CP.make_]; kernel_rfl
theorem fact28 : ((Rows.fnSieveSeekKeyRow.kinds == (if Rows.fnSieveSeekKeyRow.domain.isEmpty then [] else Try.f16.params.toList.map fun t => match Try.prog.underlying t with | some (.int k) => some k | _ => none))) = true := by kernel_rfl
theorem fact29 : ((Rows.fnSieveSeekKeyRow.pinned == Rows.fnSieveSeekKeyRow.pinnedBy)) = true := by kernel_rfl
theorem fact30 : ((Rows.fnSieveSeekKeyRow.veiled == (Try.f16.params.toList ++ Rows.fnSieveSeekKeySpec.plain.varTypes Try.prog ++ Try.f16.resultTypes.toList).any (Try.prog.veiledRec ·))) = true := by kernel_rfl
theorem fact31 : (Rows.fnSieveSeekKeyRow.veiledFits Try.prog Try.f16.params.toList (Try.f16.params.toList ++ Rows.fnSieveSeekKeySpec.plain.varTypes Try.prog ++ Try.f16.resultTypes.toList)) = true := by kernel_rfl
end Go.Proofs.Ytakadkhgcjndmaa.fnSieveSeekKeyC
