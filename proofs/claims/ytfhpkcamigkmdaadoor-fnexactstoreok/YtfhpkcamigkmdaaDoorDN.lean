/-
  What the listed variable gives a walk: the program's error that there is no room; and that the program's own start meets the condition.
-/
import Derived.Test.YtfhpkcamigkmdaaDoorQP
import Derived.Test.YtfhpkcamigkmdaaDoorRows
import Derived.LaidMore
import Derived.Stop.LaidErr
import Derived.OpenShut
import Derived.Stop.Joined
import Derived.Lay
namespace Go.Proofs.YtfhpkcamigkmdaaDoor.W
open Go.ChangeShapes Go.WideShapes Go.ChangeAt Go.RowKit

def laid1 : List (String × DataW Unit) := [("loop.example/temse/impl.errNoRoom", Rows.laid_loop_example_temse_impl_errNoRoom)]
theorem gNo : Tryd.prog.globalNamed "loop.example/temse/impl.errNoRoom" = some 0 := by kernel_rfl
theorem tNo : (Tryd.prog.globals[0]?).map (·.type) = some 53 := by kernel_rfl
theorem cErrN : Tryd.prog.cellsOf 170 = 1 := by kernel_rfl
theorem cStrN : Tryd.prog.cellsOf 9 = 1 := by kernel_rfl
theorem starN : ("*errors.errorString" : String) = "*" ++ "errors.errorString" := by decide
theorem rowErrN (u : TypeId) (h : Tryd.prog.typeName? 3 u = some "*errors.errorString") : u = 153 :=
  typeName_ptr_named (nm := "errors.errorString") (by rw [← starN]; kernel_rfl) (by kernel_rfl) (by decide) u (by rw [← starN]; exact h)
theorem of_laid1 {W : World} (h : laidMetH Tryd.prog laid1 W) : NoRoom W := by
  rw [MakeChecks.laidMetH_plain _ _ _ (by kernel_rfl)] at h
  obtain ⟨a1, s1, hv1, -, -, -⟩ := laid_sentinel h gNo tNo Tryd.underlying53 rowErrN Tryd.underlying153 Tryd.underlying170 rfl rfl Tryd.underlying9 cErrN cStrN
  have := World.var?_cell gNo hv1 0
  exact ⟨_, _, by simpa using this⟩
set_option maxRecDepth 100000 in
theorem door1 (os : Os) (args : Array Value) : laidMetH Tryd.prog laid1 ((World.doorLaid Tryd.prog 400 os).forCall (fun _ _ => 0) ⟨#[], args, []⟩).memory :=
  laidMetH_of_parts3 (fuel := 8) (laidMet_of_run' 8 (by kernel_rfl) (by kernel_rfl)) (by kernel_rfl) (by kernel_rfl)

end Go.Proofs.YtfhpkcamigkmdaaDoor.W
