/-
  Closed facts of the law FnExactSieveSize, each by the kernel.
-/
import Derived.Test.YtakadkhgcjndmaaRows
import Derived.WalkKit
import Derived.ProofKit
import Derived.OpenShut
import Derived.Test.YtakadkhgcjndmaaCP
namespace Go.Proofs.Ytakadkhgcjndmaa.fnExactSieveSizeC
open Go.ChangeShapes Go.WideShapes Go.ChangeAt Go.RowKit
theorem fact0 : (Rows.fnExactSieveSizeRow.wf (OpenSpec.ofChange Rows.fnExactSieveSizeSpec)) = true := by kernel_rfl
theorem fact3 : (Try.f27.params.all (Try.prog.readableRec ·)) = true := by kernel_rfl
theorem fact4 : (namedTie Try.prog Rows.fnExactSieveSizeRow.named Rows.fnExactSieveSizeSpec.vars) = true := by kernel_rfl
theorem fact5 : ((Rows.fnExactSieveSizeRow.stops == [])) = true := by kernel_rfl
theorem fact7 : ((Rows.fnExactSieveSizeRow.knobs == [])) = true := by kernel_rfl
theorem fact9 : ((Rows.fnExactSieveSizeRow.inPlace == Try.prog.inPlace 27)) = true := by kernel_rfl
theorem fact10 : ((Rows.fnExactSieveSizeRow.unfollowed == Try.prog.unfollowed 27)) = true := by kernel_rfl
theorem fact11 : ((Rows.fnExactSieveSizeRow.recurses == Try.prog.recurses 27)) = true := by kernel_rfl
theorem fact12 : ((Rows.fnExactSieveSizeRow.named == Try.prog.varsNamed 27)) = true := by kernel_rfl
end Go.Proofs.Ytakadkhgcjndmaa.fnExactSieveSizeC
