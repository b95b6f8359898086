/-
  What a turn of the loop's own record leaves: KpM.
-/
import Derived.Test.YtfpgjkanmanajaaGG
import Derived.RangeFuncFrom
namespace Go.Proofs.Ytfpgjkanmanajaa.W
open Go.RowKit K R

theorem kpM_b {B : Nat} {w : World} (hB : B < w.heap.size) (W : World) (l : Nat) (o o' : Obj) (hl : w.heap.size ≤ l) (h : W.heap[l]? = some o) (ho : o.isCells = false) (hw : o.isWalk = false) : KpM B W (W.putObj l o') := by
  have hg := grownBy_putObj' W l o'
  have hll := lt_heap h
  have hc : (W.putObj l o').cell? ⟨B, 0, none⟩ = W.cell? ⟨B, 0, none⟩ := World.cell?_of_block (hg.block B (by omega) (by intro e; injection e; omega))
  have e : rowAt (W.putObj l o') B = rowAt W B := by unfold rowAt; rw [hc]
  refine ⟨belowK_b (w := w) (Nat.le_of_lt hB) W l o o' hl h ho hw, fun k cs t fr hk _ _ => ?_, fun r hr => .inl (by rw [← e]; exact hr), fun hlt r hr => ?_⟩
  · have hne : k ≠ l := fun e2 => by
      subst e2
      rw [h] at hk
      injection hk with hk
      subst hk
      cases ho
    exact (hg.block k (lt_heap hk) (fun e2 => hne (by injection e2))).trans hk
  · rw [e] at hr
    exact Nat.lt_of_lt_of_le (hlt r hr) hg.size
theorem kpM_t {B : Nat} {X Y Z : World} (h : KpM B X Y) (h2 : KpM B Y Z) : KpM B X Z := h.trans h2
/-- an append to the row that the box names, and the box's new slice: a round of RunJoin keeps KpM -/
theorem kpM_app {B : Nat} {W w1 : World} {v v' : Value} {A' : Addr} {n' c' : Nat} (hg : W.grownBy w1 v.ownBlock) (hB : ∀ r, v.ownBlock = some r → B < r) (hBW : B < W.heap.size)
    (hrow : ∀ r, v.ownBlock = some r → rowAt W B = some r) (hv' : v' = .slice (some A') n' c') (hnew : v.ownBlock = some A'.block ∨ W.heap.size ≤ A'.block) (hlt : A'.block < w1.heap.size) (hfree : ∃ cs t, w1.heap[B]? = some (.cells cs t (0, 0)) ∧ 0 < cs.size) :
    KpM B W (w1.setCell ⟨B, 0, none⟩ v') := by
  have hb : Below B W w1 := (Below.refl B W).grown hg (Nat.le_of_lt hBW) (fun k hk => Nat.le_of_lt (hB k hk))
  obtain ⟨cs, t, hcs, hpos⟩ := hfree
  have hblk : (w1.setCell ⟨B, 0, none⟩ v').heap[B]? = some (.cells (cs.setIfInBounds 0 v') t (0, 0)) := heap_setCell_same w1 B 0 _ _ v' hcs
  have hra : rowAt (w1.setCell ⟨B, 0, none⟩ v') B = some A'.block := by
    unfold rowAt
    rw [cell_of_row _ _ _ _ _ _ hblk]
    simp [hpos, hv']
  have hsz : (w1.setCell ⟨B, 0, none⟩ v').heap.size = w1.heap.size := by simp [World.setCell]
  refine ⟨hb.setCell (p := ⟨B, 0, none⟩) (Nat.le_refl _) _, fun k cs' t' fr' hk hkB hkr => ?_, fun r hr => ?_, fun _ r hr => ?_⟩
  · rw [heap_setCell_other _ _ _ _ (by show k ≠ B; exact hkB)]
    exact (hg.block k (lt_heap hk) (fun e => hkr (hrow k e.symm))).trans hk
  · rw [hra] at hr
    injection hr with hr
    subst hr
    rcases hnew with h | h
    · exact .inl (hrow _ h)
    · exact .inr h
  · rw [hra] at hr
    injection hr with hr
    subst hr
    rw [hsz]
    exact hlt

end Go.Proofs.Ytfpgjkanmanajaa.W
