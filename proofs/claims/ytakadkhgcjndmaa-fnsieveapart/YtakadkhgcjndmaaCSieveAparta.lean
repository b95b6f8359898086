/-
  Closed facts of the law FnSieveApart, each by the kernel.
-/
import Derived.Test.YtakadkhgcjndmaaRows
import Derived.WalkKit
import Derived.ProofKit
import Derived.OpenShut
import Derived.Test.YtakadkhgcjndmaaCP
namespace Go.Proofs.Ytakadkhgcjndmaa.fnSieveApartC
open Go.ChangeShapes Go.WideShapes Go.ChangeAt Go.RowKit
theorem fact0 : (Rows.fnSieveApartRow.wf (OpenSpec.ofChange Rows.fnSieveApartSpec)) = true := by kernel_rfl
theorem fact3 : (Try.f5.params.all (Try.prog.readableRec ·)) = true := by kernel_rfl
theorem fact4 : (namedTie Try.prog Rows.fnSieveApartRow.named Rows.fnSieveApartSpec.vars) = true := by kernel_rfl
theorem fact5 : ((Rows.fnSieveApartRow.stops == [])) = true := by kernel_rfl
theorem fact7 : ((Rows.fnSieveApartRow.knobs == [])) = true := by kernel_rfl
theorem fact9 : ((Rows.fnSieveApartRow.inPlace == Try.prog.inPlace 5)) = true := by kernel_rfl
theorem fact10 : ((Rows.fnSieveApartRow.unfollowed == Try.prog.unfollowed 5)) = true := by kernel_rfl
theorem fact11 : ((Rows.fnSieveApartRow.recurses == Try.prog.recurses 5)) = true := by kernel_rfl
theorem fact12 : ((Rows.fnSieveApartRow.named == Try.prog.varsNamed 5)) = true := by kernel_rfl
end Go.Proofs.Ytakadkhgcjndmaa.fnSieveApartC
