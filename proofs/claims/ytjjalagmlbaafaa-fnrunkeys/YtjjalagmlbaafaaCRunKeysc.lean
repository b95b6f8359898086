/-
  Closed facts of the law FnRunKeys, each by the kernel.
-/
import Derived.Test.YtjjalagmlbaafaaRows
import Derived.WalkKit
import Derived.ProofKit
import Derived.OpenShut
import Derived.Test.YtjjalagmlbaafaaCP
namespace Go.Proofs.Ytjjalagmlbaafaa.fnRunKeysC
open Go.ChangeShapes Go.WideShapes Go.ChangeAt Go.RowKit
theorem fact22 : ((Rows.fnRunKeysRow.plainKeys == Try.prog.plainKeys)) = true := by kernel_rfl
theorem fact23 : (Rows.fnRunKeysRow.shortTexts.isNone) = true := by kernel_rfl
theorem fact26 : ((Rows.fnRunKeysRow.lifted == Try.prog.liftsFinal)) = true := by rw [CP.liftsF]; kernel_rfl
theorem fact27 : ((Try.prog.make == some Rows.fnRunKeysRow.make)) = true := by rw [CP.make_]; kernel_rfl
theorem fact28 : ((Rows.fnRunKeysRow.kinds == (if Rows.fnRunKeysRow.domain.isEmpty then [] else Try.f11.params.toList.map fun t => match Try.prog.underlying t with | some (.int k) => some k | _ => none))) = true := by kernel_rfl
theorem fact29 : ((Rows.fnRunKeysRow.pinned == Rows.fnRunKeysRow.pinnedBy)) = true := by kernel_rfl
theorem fact30 : ((Rows.fnRunKeysRow.veiled == (Try.f11.params.toList ++ Rows.fnRunKeysSpec.plain.varTypes Try.prog ++ Try.f11.resultTypes.toList).any (Try.prog.veiledRec ·))) = true := by kernel_rfl
theorem fact31 : (Rows.fnRunKeysRow.veiledFits Try.prog Try.f11.params.toList (Try.f11.params.toList ++ Rows.fnRunKeysSpec.plain.varTypes Try.prog ++ Try.f11.resultTypes.toList)) = true := by kernel_rfl
end Go.Proofs.Ytjjalagmlbaafaa.fnRunKeysC
