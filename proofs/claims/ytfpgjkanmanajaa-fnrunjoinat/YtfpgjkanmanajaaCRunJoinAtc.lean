/-
  Closed facts of the law FnRunJoinAt, each by the kernel.
-/
import Derived.Test.YtfpgjkanmanajaaRows
import Derived.WalkKit
import Derived.ProofKit
import Derived.OpenShut
import Derived.Test.YtfpgjkanmanajaaCP
namespace Go.Proofs.Ytfpgjkanmanajaa.fnRunJoinAtC
open Go.ChangeShapes Go.WideShapes Go.ChangeAt Go.RowKit
theorem fact22 : ((Rows.fnRunJoinAtRow.plainKeys == Try.prog.plainKeys)) = true := by kernel_rfl
theorem fact23 : (Rows.fnRunJoinAtRow.shortTexts.isNone) = true := by kernel_rfl
theorem fact26 : ((Rows.fnRunJoinAtRow.lifted == Try.prog.liftsFinal)) = true := by rw [CP.liftsF]; kernel_rfl
theorem fact27 : ((Try.prog.make == some Rows.fnRunJoinAtRow.make)) = true := by rw [CP.make_]; kernel_rfl
theorem fact28 : ((Rows.fnRunJoinAtRow.kinds == (if Rows.fnRunJoinAtRow.domain.isEmpty then [] else Try.f6.params.toList.map fun t => match Try.prog.underlying t with | some (.int k) => some k | _ => none))) = true := by kernel_rfl
theorem fact29 : ((Rows.fnRunJoinAtRow.pinned == Rows.fnRunJoinAtRow.pinnedBy)) = true := by kernel_rfl
theorem fact30 : ((Rows.fnRunJoinAtRow.veiled == (Try.f6.params.toList ++ Rows.fnRunJoinAtSpec.plain.varTypes Try.prog ++ Try.f6.resultTypes.toList).any (Try.prog.veiledRec ·))) = true := by kernel_rfl
theorem fact31 : (Rows.fnRunJoinAtRow.veiledFits Try.prog Try.f6.params.toList (Try.f6.params.toList ++ Rows.fnRunJoinAtSpec.plain.varTypes Try.prog ++ Try.f6.resultTypes.toList)) = true := by kernel_rfl
end Go.Proofs.Ytfpgjkanmanajaa.fnRunJoinAtC
