/-
  Closed facts of the law FnExactRunTrim, each by the kernel.
-/
import Derived.Test.YtjjalagmlbaafaaRows
import Derived.WalkKit
import Derived.ProofKit
import Derived.OpenShut
import Derived.Test.YtjjalagmlbaafaaCP
namespace Go.Proofs.Ytjjalagmlbaafaa.fnExactRunTrimC
open Go.ChangeShapes Go.WideShapes Go.ChangeAt Go.RowKit
theorem fact0 : (Rows.fnExactRunTrimRow.wf (OpenSpec.ofChange Rows.fnExactRunTrimSpec)) = true := by kernel_rfl
theorem fact3 : (Try.f19.params.all (Try.prog.readableRec ·)) = true := by kernel_rfl
theorem fact4 : (namedTie Try.prog Rows.fnExactRunTrimRow.named Rows.fnExactRunTrimSpec.vars) = true := by kernel_rfl
theorem fact5 : ((Rows.fnExactRunTrimRow.stops == [])) = true := by kernel_rfl
theorem fact7 : ((Rows.fnExactRunTrimRow.knobs == [])) = true := by kernel_rfl
theorem fact9 : ((Rows.fnExactRunTrimRow.inPlace == Try.prog.inPlace 19)) = true := by kernel_rfl
theorem fact10 : ((Rows.fnExactRunTrimRow.unfollowed == Try.prog.unfollowed 19)) = true := by kernel_rfl
theorem fact11 : ((Rows.fnExactRunTrimRow.recurses == Try.prog.recurses 19)) = true := by kernel_rfl
theorem fact12 : ((Rows.fnExactRunTrimRow.named == Try.prog.varsNamed 19)) = true := by kernel_rfl
end Go.Proofs.Ytjjalagmlbaafaa.fnExactRunTrimC
