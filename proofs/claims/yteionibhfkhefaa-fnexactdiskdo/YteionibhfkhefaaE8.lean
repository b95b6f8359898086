/-
  A slice of entries that came in, handed on: a copy in new memory.
-/
import Derived.Test.YteionibhfkhefaaE7
import Derived.OwnWalk
import Derived.Laws.OwnMore
namespace Go.Proofs.Yteionibhfkhefaa.W
open Go.RowKit K R

theorem made_E (n : Nat) : (madeCells #[.string ⟨#[]⟩, .int .i64 0, .bool false, .int .i64 0] (n * 4)).toList = cellsE (List.replicate n blankE) := by
  apply List.ext_getElem?
  intro m
  by_cases hm : m < n * 4
  · have hi : m / 4 < (List.replicate n blankE).length := by rw [List.length_replicate]; omega
    have hr := cellsE_at hi (m % 4) (by omega)
    rw [show m / 4 * 4 + m % 4 = m by omega, List.getElem_replicate] at hr
    rw [hr]
    unfold madeCells
    simp only [Array.toList_map, List.getElem?_map, Array.toList_range, List.getElem?_range hm, Option.map_some]
    have h4 : m % 4 = 0 ∨ m % 4 = 1 ∨ m % 4 = 2 ∨ m % 4 = 3 := by omega
    show some ((#[Value.string ⟨#[]⟩, .int .i64 0, .bool false, .int .i64 0] : Array Value)[m % 4]!) = _
    rcases h4 with h | h | h | h <;> rw [h] <;> rfl
  · rw [List.getElem?_eq_none (by rw [Array.length_toList, size_madeCells]; omega), List.getElem?_eq_none (by rw [cellsE_len, List.length_replicate]; omega)]
theorem rowBelow {E : TypeId} {sz : Nat} {w w' : World} {base n : Nat} {v : Value} {cs : List Value} (h : w.ownsRow base E sz v n cs) (hb : Below w.heap.size w w') : w'.ownsRow base E sz v n cs := by
  refine ⟨h.1, ?_⟩
  rcases h.2 with hn | ⟨g, cap, cur, hv, hbg, hg, rest⟩
  · exact .inl hn
  · exact .inr ⟨g, cap, cur, hv, hbg, by rw [hb.block g (Array.getElem?_eq_some_iff.1 hg).1]; exact hg, rest⟩
end Go.Proofs.Yteionibhfkhefaa.W
