/-
  Closed facts of the law FnSieveSize, each by the kernel.
-/
import Derived.Test.YtakadkhgcjndmaaRows
import Derived.WalkKit
import Derived.ProofKit
import Derived.OpenShut
import Derived.Test.YtakadkhgcjndmaaCP
namespace Go.Proofs.Ytakadkhgcjndmaa.fnSieveSizeC
open Go.ChangeShapes Go.WideShapes Go.ChangeAt Go.RowKit
theorem fact0 : (Rows.fnSieveSizeRow.wf (OpenSpec.ofChange Rows.fnSieveSizeSpec)) = true := by kernel_rfl
theorem fact3 : (Try.f17.params.all (Try.prog.readableRec ·)) = true := by kernel_rfl
theorem fact4 : (namedTie Try.prog Rows.fnSieveSizeRow.named Rows.fnSieveSizeSpec.vars) = true := by kernel_rfl
theorem fact5 : ((Rows.fnSieveSizeRow.stops == [])) = true := by kernel_rfl
theorem fact7 : ((Rows.fnSieveSizeRow.knobs == [])) = true := by kernel_rfl
theorem fact9 : ((Rows.fnSieveSizeRow.inPlace == Try.prog.inPlace 17)) = true := by kernel_rfl
theorem fact10 : ((Rows.fnSieveSizeRow.unfollowed == Try.prog.unfollowed 17)) = true := by kernel_rfl
theorem fact11 : ((Rows.fnSieveSizeRow.recurses == Try.prog.recurses 17)) = true := by kernel_rfl
theorem fact12 : ((Rows.fnSieveSizeRow.named == Try.prog.varsNamed 17)) = true := by kernel_rfl
end Go.Proofs.Ytakadkhgcjndmaa.fnSieveSizeC
