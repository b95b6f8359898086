/-
  Closed facts of the law FnRunTrim, each by the kernel.
-/
import Derived.Test.YtjjalagmlbaafaaRows
import Derived.WalkKit
import Derived.ProofKit
import Derived.OpenShut
import Derived.Test.YtjjalagmlbaafaaCP
namespace Go.Proofs.Ytjjalagmlbaafaa.fnRunTrimC
open Go.ChangeShapes Go.WideShapes Go.ChangeAt Go.RowKit
theorem fact0 : (Rows.fnRunTrimRow.wf (OpenSpec.ofChange Rows.fnRunTrimSpec)) = true := by kernel_rfl
theorem fact3 : (Try.f8.params.all (Try.prog.readableRec ·)) = true := by kernel_rfl
theorem fact4 : (namedTie Try.prog Rows.fnRunTrimRow.named Rows.fnRunTrimSpec.vars) = true := by kernel_rfl
theorem fact5 : ((Rows.fnRunTrimRow.stops == [])) = true := by kernel_rfl
theorem fact7 : ((Rows.fnRunTrimRow.knobs == [])) = true := by kernel_rfl
theorem fact9 : ((Rows.fnRunTrimRow.inPlace == Try.prog.inPlace 8)) = true := by kernel_rfl
theorem fact10 : ((Rows.fnRunTrimRow.unfollowed == Try.prog.unfollowed 8)) = true := by kernel_rfl
theorem fact11 : ((Rows.fnRunTrimRow.recurses == Try.prog.recurses 8)) = true := by kernel_rfl
theorem fact12 : ((Rows.fnRunTrimRow.named == Try.prog.varsNamed 8)) = true := by kernel_rfl
end Go.Proofs.Ytjjalagmlbaafaa.fnRunTrimC
