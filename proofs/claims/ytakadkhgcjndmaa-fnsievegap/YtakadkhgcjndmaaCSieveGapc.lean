/-
  Closed facts of the law FnSieveGap, each by the kernel.
-/
import Derived.Test.YtakadkhgcjndmaaRows
import Derived.WalkKit
import Derived.ProofKit
import Derived.OpenShut
import Derived.Test.YtakadkhgcjndmaaCP
namespace Go.Proofs.Ytakadkhgcjndmaa.fnSieveGapC
open Go.ChangeShapes Go.WideShapes Go.ChangeAt Go.RowKit
theorem fact22 : ((Rows.fnSieveGapRow.plainKeys == Try.prog.plainKeys)) = true := by kernel_rfl
theorem fact23 : (Rows.fnSieveGapRow.shortTexts.isNone) = true := by kernel_rfl
theorem fact26 : ((Rows.fnSieveGapRow.lifted == Try.prog.liftsFinal)) = true := by rw [CP.liftsF]; kernel_rfl
theorem fact27 : ((Try.prog.make == some Rows.fnSieveGapRow.make)) = true := by rw [CP.make_]; kernel_rfl
theorem fact28 : ((Rows.fnSieveGapRow.kinds == (if Rows.fnSieveGapRow.domain.isEmpty then [] else Try.f20.params.toList.map fun t => match Try.prog.underlying t with | some (.int k) => some k | _ => none))) = true := by kernel_rfl
theorem fact29 : ((Rows.fnSieveGapRow.pinned == Rows.fnSieveGapRow.pinnedBy)) = true := by kernel_rfl
theorem fact30 : ((Rows.fnSieveGapRow.veiled == (Try.f20.params.toList ++ Rows.fnSieveGapSpec.plain.varTypes Try.prog ++ Try.f20.resultTypes.toList).any (Try.prog.veiledRec ·))) = true := by kernel_rfl
theorem fact31 : (Rows.fnSieveGapRow.veiledFits Try.prog Try.f20.params.toList (Try.f20.params.toList ++ Rows.fnSieveGapSpec.plain.varTypes Try.prog ++ Try.f20.resultTypes.toList)) = true := by kernel_rfl
end Go.Proofs.Ytakadkhgcjndmaa.fnSieveGapC
