/-
  Closed facts of the law FnSieveKeep, each by the kernel.
-/
import Derived.Test.YtakadkhgcjndmaaRows
import Derived.WalkKit
import Derived.ProofKit
import Derived.OpenShut
import Derived.Test.YtakadkhgcjndmaaCP
namespace Go.Proofs.Ytakadkhgcjndmaa.fnSieveKeepC
open Go.ChangeShapes Go.WideShapes Go.ChangeAt Go.RowKit
theorem fact22 : ((Rows.fnSieveKeepRow.plainKeys == Try.prog.plainKeys)) = true := by kernel_rfl
theorem fact23 : (Rows.fnSieveKeepRow.shortTexts.isNone) = true := by kernel_rfl
theorem fact26 : ((Rows.fnSieveKeepRow.lifted == Try.prog.liftsFinal)) = true := by rw [CP.liftsF]; kernel_rfl
theorem fact27 : ((Try.prog.make == some Rows.fnSieveKeepRow.make)) = true := by rw [CP.make_]; kernel_rfl
theorem fact28 : ((Rows.fnSieveKeepRow.kinds == (if Rows.fnSieveKeepRow.domain.isEmpty then [] else Try.f11.params.toList.map fun t => match Try.prog.underlying t with | some (.int k) => some k | _ => none))) = true := by kernel_rfl
theorem fact29 : ((Rows.fnSieveKeepRow.pinned == Rows.fnSieveKeepRow.pinnedBy)) = true := by kernel_rfl
theorem fact30 : ((Rows.fnSieveKeepRow.veiled == (Try.f11.params.toList ++ Rows.fnSieveKeepSpec.plain.varTypes Try.prog ++ Try.f11.resultTypes.toList).any (Try.prog.veiledRec ·))) = true := by kernel_rfl
theorem fact31 : (Rows.fnSieveKeepRow.veiledFits Try.prog Try.f11.params.toList (Try.f11.params.toList ++ Rows.fnSieveKeepSpec.plain.varTypes Try.prog ++ Try.f11.resultTypes.toList)) = true := by kernel_rfl
end Go.Proofs.Ytakadkhgcjndmaa.fnSieveKeepC
