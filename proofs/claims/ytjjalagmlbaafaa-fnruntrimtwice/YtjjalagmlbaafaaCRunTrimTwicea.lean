/-
  Closed facts of the law FnRunTrimTwice, each by the kernel.
-/
import Derived.Test.YtjjalagmlbaafaaRows
import Derived.WalkKit
import Derived.ProofKit
import Derived.OpenShut
import Derived.Test.YtjjalagmlbaafaaCP
namespace Go.Proofs.Ytjjalagmlbaafaa.fnRunTrimTwiceC
open Go.ChangeShapes Go.WideShapes Go.ChangeAt Go.RowKit
theorem fact0 : (Rows.fnRunTrimTwiceRow.wf (OpenSpec.ofChange Rows.fnRunTrimTwiceSpec)) = true := by kernel_rfl
theorem fact3 : (Try.f10.params.all (Try.prog.readableRec ·)) = true := by kernel_rfl
theorem fact4 : (namedTie Try.prog Rows.fnRunTrimTwiceRow.named Rows.fnRunTrimTwiceSpec.vars) = true := by kernel_rfl
theorem fact5 : ((Rows.fnRunTrimTwiceRow.stops == [])) = true := by kernel_rfl
theorem fact7 : ((Rows.fnRunTrimTwiceRow.knobs == [])) = true := by kernel_rfl
theorem fact9 : ((Rows.fnRunTrimTwiceRow.inPlace == Try.prog.inPlace 10)) = true := by kernel_rfl
theorem fact10 : ((Rows.fnRunTrimTwiceRow.unfollowed == Try.prog.unfollowed 10)) = true := by kernel_rfl
theorem fact11 : ((Rows.fnRunTrimTwiceRow.recurses == Try.prog.recurses 10)) = true := by kernel_rfl
theorem fact12 : ((Rows.fnRunTrimTwiceRow.named == Try.prog.varsNamed 10)) = true := by kernel_rfl
end Go.Proofs.Ytjjalagmlbaafaa.fnRunTrimTwiceC
