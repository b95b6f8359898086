/-
  Closed facts of the law FnRunKeys, each by the kernel.
-/
import Derived.Test.YtjjalagmlbaafaaRows
import Derived.WalkKit
import Derived.ProofKit
import Derived.OpenShut
import Derived.Test.YtjjalagmlbaafaaCP
namespace Go.Proofs.Ytjjalagmlbaafaa.fnRunKeysC
open Go.ChangeShapes Go.WideShapes Go.ChangeAt Go.RowKit
theorem fact0 : (Rows.fnRunKeysRow.wf (OpenSpec.ofChange Rows.fnRunKeysSpec)) = true := by kernel_rfl
theorem fact3 : (Try.f11.params.all (Try.prog.readableRec ·)) = true := by kernel_rfl
theorem fact4 : (namedTie Try.prog Rows.fnRunKeysRow.named Rows.fnRunKeysSpec.vars) = true := by kernel_rfl
theorem fact5 : ((Rows.fnRunKeysRow.stops == [])) = true := by kernel_rfl
theorem fact7 : ((Rows.fnRunKeysRow.knobs == [])) = true := by kernel_rfl
theorem fact9 : ((Rows.fnRunKeysRow.inPlace == Try.prog.inPlace 11)) = true := by kernel_rfl
theorem fact10 : ((Rows.fnRunKeysRow.unfollowed == Try.prog.unfollowed 11)) = true := by kernel_rfl
theorem fact11 : ((Rows.fnRunKeysRow.recurses == Try.prog.recurses 11)) = true := by kernel_rfl
theorem fact12 : ((Rows.fnRunKeysRow.named == Try.prog.varsNamed 11)) = true := by kernel_rfl
end Go.Proofs.Ytjjalagmlbaafaa.fnRunKeysC
