/-
  Closed facts of the law FnRunTrimTop, each by the kernel.
-/
import Derived.Test.YtjjalagmlbaafaaRows
import Derived.WalkKit
import Derived.ProofKit
import Derived.OpenShut
import Derived.Test.YtjjalagmlbaafaaCP
namespace Go.Proofs.Ytjjalagmlbaafaa.fnRunTrimTopC
open Go.ChangeShapes Go.WideShapes Go.ChangeAt Go.RowKit
theorem fact0 : (Rows.fnRunTrimTopRow.wf (OpenSpec.ofChange Rows.fnRunTrimTopSpec)) = true := by kernel_rfl
theorem fact3 : (Try.f9.params.all (Try.prog.readableRec ·)) = true := by kernel_rfl
theorem fact4 : (namedTie Try.prog Rows.fnRunTrimTopRow.named Rows.fnRunTrimTopSpec.vars) = true := by kernel_rfl
theorem fact5 : ((Rows.fnRunTrimTopRow.stops == [])) = true := by kernel_rfl
theorem fact7 : ((Rows.fnRunTrimTopRow.knobs == [])) = true := by kernel_rfl
theorem fact9 : ((Rows.fnRunTrimTopRow.inPlace == Try.prog.inPlace 9)) = true := by kernel_rfl
theorem fact10 : ((Rows.fnRunTrimTopRow.unfollowed == Try.prog.unfollowed 9)) = true := by kernel_rfl
theorem fact11 : ((Rows.fnRunTrimTopRow.recurses == Try.prog.recurses 9)) = true := by kernel_rfl
theorem fact12 : ((Rows.fnRunTrimTopRow.named == Try.prog.varsNamed 9)) = true := by kernel_rfl
end Go.Proofs.Ytjjalagmlbaafaa.fnRunTrimTopC
