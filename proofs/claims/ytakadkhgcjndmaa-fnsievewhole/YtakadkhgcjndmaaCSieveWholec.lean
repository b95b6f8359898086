/-
  Closed facts of the law FnSieveWhole, each by the kernel.
-/
import Derived.Test.YtakadkhgcjndmaaRows
import Derived.WalkKit
import Derived.ProofKit
import Derived.OpenShut
import Derived.Test.YtakadkhgcjndmaaCP
namespace Go.Proofs.Ytakadkhgcjndmaa.fnSieveWholeC
open Go.ChangeShapes Go.WideShapes Go.ChangeAt Go.RowKit
theorem fact22 : ((Rows.fnSieveWholeRow.plainKeys == Try.prog.plainKeys)) = true := by kernel_rfl
theorem fact23 : (Rows.fnSieveWholeRow.shortTexts.isNone) = true := by kernel_rfl
theorem fact26 : ((Rows.fnSieveWholeRow.lifted == Try.prog.liftsFinal)) = true := by rw [CP.liftsF]; kernel_rfl
theorem fact27 : ((Try.prog.make == some Rows.fnSieveWholeRow.make)) = true := by rw [CP.make_]; kernel_rfl
theorem fact28 : ((Rows.fnSieveWholeRow.kinds == (if Rows.fnSieveWholeRow.domain.isEmpty then [] else Try.f9.params.toList.map fun t => match Try.prog.underlying t with | some (.int k) => some k | _ => none))) = true := by kernel_rfl
theorem fact29 : ((Rows.fnSieveWholeRow.pinned == Rows.fnSieveWholeRow.pinnedBy)) = true := by kernel_rfl
theorem fact30 : ((Rows.fnSieveWholeRow.veiled == (Try.f9.params.toList ++ Rows.fnSieveWholeSpec.plain.varTypes Try.prog ++ Try.f9.resultTypes.toList).any (Try.prog.veiledRec ·))) = true := by kernel_rfl
theorem fact31 : (Rows.fnSieveWholeRow.veiledFits Try.prog Try.f9.params.toList (Try.f9.params.toList ++ Rows.fnSieveWholeSpec.plain.varTypes Try.prog ++ Try.f9.resultTypes.toList)) = true := by kernel_rfl
end Go.Proofs.Ytakadkhgcjndmaa.fnSieveWholeC
