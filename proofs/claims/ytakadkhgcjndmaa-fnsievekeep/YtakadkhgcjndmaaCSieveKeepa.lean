/-
  Closed facts of the law FnSieveKeep, each by the kernel.
-/
import Derived.Test.YtakadkhgcjndmaaRows
import Derived.WalkKit
import Derived.ProofKit
import Derived.OpenShut
import Derived.Test.YtakadkhgcjndmaaCP
namespace Go.Proofs.Ytakadkhgcjndmaa.fnSieveKeepC
open Go.ChangeShapes Go.WideShapes Go.ChangeAt Go.RowKit
theorem fact0 : (Rows.fnSieveKeepRow.wf (OpenSpec.ofChange Rows.fnSieveKeepSpec)) = true := by kernel_rfl
theorem fact3 : (Try.f11.params.all (Try.prog.readableRec ·)) = true := by kernel_rfl
theorem fact4 : (namedTie Try.prog Rows.fnSieveKeepRow.named Rows.fnSieveKeepSpec.vars) = true := by kernel_rfl
theorem fact5 : ((Rows.fnSieveKeepRow.stops == [])) = true := by kernel_rfl
theorem fact7 : ((Rows.fnSieveKeepRow.knobs == [])) = true := by kernel_rfl
theorem fact9 : ((Rows.fnSieveKeepRow.inPlace == Try.prog.inPlace 11)) = true := by kernel_rfl
theorem fact10 : ((Rows.fnSieveKeepRow.unfollowed == Try.prog.unfollowed 11)) = true := by kernel_rfl
theorem fact11 : ((Rows.fnSieveKeepRow.recurses == Try.prog.recurses 11)) = true := by kernel_rfl
theorem fact12 : ((Rows.fnSieveKeepRow.named == Try.prog.varsNamed 11)) = true := by kernel_rfl
end Go.Proofs.Ytakadkhgcjndmaa.fnSieveKeepC
