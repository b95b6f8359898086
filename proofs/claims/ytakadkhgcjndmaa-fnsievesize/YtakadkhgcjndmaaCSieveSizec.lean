/-
  Closed facts of the law FnSieveSize, each by the kernel.
-/
import Derived.Test.YtakadkhgcjndmaaRows
import Derived.WalkKit
import Derived.ProofKit
import Derived.OpenShut
import Derived.Test.YtakadkhgcjndmaaCP
namespace Go.Proofs.Ytakadkhgcjndmaa.fnSieveSizeC
open Go.ChangeShapes Go.WideShapes Go.ChangeAt Go.RowKit
theorem fact22 : ((Rows.fnSieveSizeRow.plainKeys == Try.prog.plainKeys)) = true := by kernel_rfl
theorem fact23 : (Rows.fnSieveSizeRow.shortTexts.isNone) = true := by kernel_rfl
theorem fact26 : ((Rows.fnSieveSizeRow.lifted == Try.prog.liftsFinal)) = true := by rw [CP.liftsF]; kernel_rfl
theorem fact27 : ((Try.prog.make == some Rows.fnSieveSizeRow.make)) = true := by rw [CP.make_]; kernel_rfl
theorem fact28 : ((Rows.fnSieveSizeRow.kinds == (if Rows.fnSieveSizeRow.domain.isEmpty then [] else Try.f17.params.toList.map fun t => match Try.prog.underlying t with | some (.int k) => some k | _ => none))) = true := by kernel_rfl
theorem fact29 : ((Rows.fnSieveSizeRow.pinned == Rows.fnSieveSizeRow.pinnedBy)) = true := by kernel_rfl
theorem fact30 : ((Rows.fnSieveSizeRow.veiled == (Try.f17.params.toList ++ Rows.fnSieveSizeSpec.plain.varTypes Try.prog ++ Try.f17.resultTypes.toList).any (Try.prog.veiledRec ·))) = true := by kernel_rfl
theorem fact31 : (Rows.fnSieveSizeRow.veiledFits Try.prog Try.f17.params.toList (Try.f17.params.toList ++ Rows.fnSieveSizeSpec.plain.varTypes Try.prog ++ Try.f17.resultTypes.toList)) = true := by kernel_rfl
end Go.Proofs.Ytakadkhgcjndmaa.fnSieveSizeC
