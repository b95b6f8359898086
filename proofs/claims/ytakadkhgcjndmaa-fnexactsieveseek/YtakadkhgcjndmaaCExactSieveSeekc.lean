/-
  Closed facts of the law FnExactSieveSeek, each by the kernel.
-/
import Derived.Test.YtakadkhgcjndmaaRows
import Derived.WalkKit
import Derived.ProofKit
import Derived.OpenShut
import Derived.Test.YtakadkhgcjndmaaCP
namespace Go.Proofs.Ytakadkhgcjndmaa.fnExactSieveSeekC
open Go.ChangeShapes Go.WideShapes Go.ChangeAt Go.RowKit
theorem fact22 : ((Rows.fnExactSieveSeekRow.plainKeys == Try.prog.plainKeys)) = true := by kernel_rfl
theorem fact23 : (Rows.fnExactSieveSeekRow.shortTexts.isNone) = true := by kernel_rfl
theorem fact26 : ((Rows.fnExactSieveSeekRow.lifted == Try.prog.liftsFinal)) = true := by rw [CP.liftsF]; kernel_rfl
theorem fact27 : ((Try.prog.make == some Rows.fnExactSieveSeekRow.make)) = true := by rw [CP.make_]; kernel_rfl
theorem fact28 : ((Rows.fnExactSieveSeekRow.kinds == (if Rows.fnExactSieveSeekRow.domain.isEmpty then [] else Try.f26.params.toList.map fun t => match Try.prog.underlying t with | some (.int k) => some k | _ => none))) = true := by kernel_rfl
theorem fact29 : ((Rows.fnExactSieveSeekRow.pinned == Rows.fnExactSieveSeekRow.pinnedBy)) = true := by kernel_rfl
theorem fact30 : ((Rows.fnExactSieveSeekRow.veiled == (Try.f26.params.toList ++ Rows.fnExactSieveSeekSpec.plain.varTypes Try.prog ++ Try.f26.resultTypes.toList).any (Try.prog.veiledRec ·))) = true := by kernel_rfl
theorem fact31 : (Rows.fnExactSieveSeekRow.veiledFits Try.prog Try.f26.params.toList (Try.f26.params.toList ++ Rows.fnExactSieveSeekSpec.plain.varTypes Try.prog ++ Try.f26.resultTypes.toList)) = true := by kernel_rfl
end Go.Proofs.Ytakadkhgcjndmaa.fnExactSieveSeekC
