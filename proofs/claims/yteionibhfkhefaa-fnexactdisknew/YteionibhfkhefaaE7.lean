/-
  Entries in memory of the call's own; entries that came in, handed on: a copy in new memory.
-/
import Derived.Test.YteionibhfkhefaaE6
import Derived.Laws.CopyOwn
namespace Go.Proofs.Yteionibhfkhefaa.W
open Go.RowKit K R

theorem two_below' (w : World) (o o2 : Obj) : Below w.heap.size w ((w.alloc o).alloc o2) := ((Below.refl _ _).alloc (Nat.le_refl _) _).alloc (by simp) _
/-- the cells of an entry -/
def enC (e : En) : List Value := [.string e.key, .int .i64 e.val, .bool e.gone, .int .i64 e.time]
def cellsE (l : List En) : List Value := l.flatMap enC
theorem cellsE_len (l : List En) : (cellsE l).length = l.length * 4 := by
  unfold cellsE
  induction l with
  | nil => rfl
  | cons e t ih => rw [List.flatMap_cons, List.length_append, ih, List.length_cons]; show 4 + t.length * 4 = _; omega
theorem cellsE_split {l : List En} {i : Nat} (h : i < l.length) : cellsE l = cellsE (l.take i) ++ (enC l[i] ++ cellsE (l.drop (i + 1))) := by
  have e : l = l.take i ++ l[i] :: l.drop (i + 1) := by rw [List.getElem_cons_drop, List.take_append_drop]
  conv => lhs; rw [e]
  unfold cellsE
  rw [List.flatMap_append, List.flatMap_cons]
theorem cellsE_at {l : List En} {i : Nat} (h : i < l.length) (j : Nat) (hj : j < 4) : (cellsE l)[i * 4 + j]? = (enC l[i])[j]? := by
  have hl : (cellsE (l.take i)).length = i * 4 := by rw [cellsE_len, List.length_take, Nat.min_eq_left (by omega)]
  rw [cellsE_split h, List.getElem?_append_right (by omega), hl, Nat.add_sub_cancel_left, List.getElem?_append_left (by show j < 4; exact hj)]
theorem cellsE_set {l : List En} {i : Nat} (h : i < l.length) (e : En) :
    ((((cellsE l).set (i * 4) (.string e.key)).set (i * 4 + 1) (.int .i64 e.val)).set (i * 4 + 2) (.bool e.gone)).set (i * 4 + 3) (.int .i64 e.time) = cellsE (l.set i e) := by
  have hl : (cellsE (l.take i)).length = i * 4 := by rw [cellsE_len, List.length_take, Nat.min_eq_left (by omega)]
  have h2 : cellsE (l.set i e) = cellsE (l.take i) ++ (enC e ++ cellsE (l.drop (i + 1))) := by
    rw [cellsE_split (by rw [List.length_set]; exact h), List.take_set, List.set_eq_of_length_le (by rw [List.length_take]; omega), List.drop_set, if_pos (by omega)]
    simp
  rw [h2, cellsE_split h]
  rw [List.set_append_right _ _ (by omega), List.set_append_right _ _ (by omega), List.set_append_right _ _ (by omega), List.set_append_right _ _ (by omega), hl]
  simp only [Nat.sub_self, Nat.add_sub_cancel_left]
  unfold enC
  rfl
theorem rowSet {E : TypeId} {sz : Nat} {w : World} {base g n c : Nat} {cs : List Value} (h : w.ownsRow base E sz (.slice (some ⟨g, 0, none⟩) n c) n cs) (i : Nat) (x : Value) :
    (w.setCell ⟨g, i, none⟩ x).ownsRow base E sz (.slice (some ⟨g, 0, none⟩) n c) n (cs.set i x) := by
  refine ⟨by rw [List.length_set]; exact h.1, ?_⟩
  rcases h.2 with ⟨hv, _⟩ | ⟨g', cap, cur, hv, hb, hg, hc, hm, hs, ht⟩
  · injection hv with e; cases e
  · injection hv with e1 e2 e3
    injection e1 with e1
    injection e1 with e1
    subst e1 e3
    refine .inr ⟨g, c, cur.setIfInBounds i x, rfl, hb, heap_setCell_same _ _ _ _ _ _ hg, hc, hm, by simpa using hs, ?_⟩
    rw [Array.toList_setIfInBounds, List.take_set, ht]
theorem rowFree {E : TypeId} {sz : Nat} {w : World} {base g n c : Nat} {cs : List Value} (h : w.ownsRow base E sz (.slice (some ⟨g, 0, none⟩) n c) n cs) (i : Nat) : w.frozen? ⟨g, i, none⟩ = false := by
  rcases h.2 with ⟨hv, _⟩ | ⟨g', cap, cur, hv, hb, hg, _⟩
  · injection hv with e; cases e
  · injection hv with e1
    injection e1 with e1
    injection e1 with e1
    subst e1
    exact frozen_of_row _ _ _ _ _ hg
theorem rowGet {E : TypeId} {sz : Nat} {w : World} {base g n c : Nat} {cs : List Value} (h : w.ownsRow base E sz (.slice (some ⟨g, 0, none⟩) n c) n cs) {i : Nat} {u : Value} (hi : cs[i]? = some u) : w.cell? ⟨g, i, none⟩ = some u := by
  have := h.cells (g := g) rfl i u hi
  have hadd : (⟨g, 0, none⟩ : Addr).add i = ⟨g, 0 + i, none⟩ := by unfold Addr.add; split <;> simp_all
  rw [hadd, Nat.zero_add] at this
  exact this
def blankE : En := ⟨⟨#[]⟩, 0, false, 0⟩
theorem copyE_step {l : List En} {k : Nat} (h : k < l.length) : (l.take k ++ List.replicate (l.length - k) blankE).set k l[k] = l.take (k + 1) ++ List.replicate (l.length - (k + 1)) blankE := by
  have hl : (l.take k).length = k := by rw [List.length_take]; omega
  rw [show l.length - k = (l.length - (k + 1)) + 1 by omega, List.replicate_succ, List.set_append_right _ _ (by omega), hl, Nat.sub_self, List.set_cons_zero, List.take_succ_eq_append_getElem h, List.append_assoc]
  rfl

end Go.Proofs.Yteionibhfkhefaa.W
