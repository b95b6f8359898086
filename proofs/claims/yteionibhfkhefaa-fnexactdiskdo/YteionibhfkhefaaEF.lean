/-
  Entries of the call's own are marked: whatever is written into them, nothing else is turned.
-/
import Derived.Test.YteionibhfkhefaaE8
import Derived.Test.YteionibhfkhefaaJ3
namespace Go.Proofs.Yteionibhfkhefaa.W
open Go.RowKit K R

theorem rowSome {cs : List Value} {i : Nat} (h : i < cs.length) : ∃ u, cs[i]? = some u := ⟨cs[i], List.getElem?_eq_getElem h⟩
theorem ret_int2 {x y : Int} (h : x = y) : Ending.returned (.int .i64 x) = Ending.returned (.int .i64 y) := by rw [h]
end Go.Proofs.Yteionibhfkhefaa.W
