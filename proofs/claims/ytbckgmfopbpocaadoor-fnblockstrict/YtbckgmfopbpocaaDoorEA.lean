/-
  What was put last, as the model looks for it.
-/
import Derived.Test.YtbckgmfopbpocaaDoorE2
import Derived.Test.YtbckgmfopbpocaaDoorE7
namespace Go.Proofs.YtbckgmfopbpocaaDoor.W
open Go.RowKit K R

theorem ret_two {fn : Func} {p u : Tmp} {ty : TypeId} (h : fn.results = #[.cell p ty, .tmp u]) (tmps : Array Value) (w : World) (g : Nat) (cs : Array Value) (x : Value)
    (hp : tmps.getD p undef = .pointer (some ⟨g, 0, none⟩)) (hx : tmps.getD u undef = x) (hl : (loadVar ty ⟨g, 0, none⟩).run Tryd.prog w = .ok (.agg cs) w) :
    (results fn tmps).run Tryd.prog w = .ok (.tuple #[.agg cs, x]) w := by
  rw [results_cell_tmp h, hp, hx]
  simp [asAddr, Result.andThen, hl]
theorem load_entry {w : World} {g : Nat} {x0 x1 x2 x3 : Value} (hg : w.heap[g]? = some (.cells #[x0, x1, x2, x3] 43 (0, 0))) : (loadVar 43 ⟨g, 0, none⟩).run Tryd.prog w = .ok (.agg #[x0, x1, x2, x3]) w :=
  run_loadVar_row w g _ _ _ (0, 0) _ hg Tryd.underlying43 rfl entry_size
theorem box_four {wr : World} {g : Nat} {y0 y1 y2 y3 : Value} (hb : wr.heap[g]? = some (.cells #[y0, y1, y2, y3] 43 (0, 0))) (x0 x1 x2 x3 : Value) :
    ((((wr.setCell ⟨g, 0, none⟩ x0).setCell ⟨g, 1, none⟩ x1).setCell ⟨g, 2, none⟩ x2).setCell ⟨g, 3, none⟩ x3).heap[g]? = some (.cells #[x0, x1, x2, x3] 43 (0, 0)) := by
  have h0 := heap_setCell_same wr g 0 _ _ x0 hb
  have h1 := heap_setCell_same _ g 1 _ _ x1 h0
  have h2 := heap_setCell_same _ g 2 _ _ x2 h1
  exact heap_setCell_same _ g 3 _ _ x3 h2
/-- an entry or none, as Go hands it back -/
def atE (o : Option En) : En := o.getD blankE
def atV (o : Option En) : Value := .tuple #[.agg #[.string (atE o).key, .int .i64 (atE o).val, .bool (atE o).gone, .int .i64 (atE o).time], .bool o.isSome]
/-- none of the first entries is it -/
def noAt (l : List En) (kk : ByteArray) (t : Int) (k : Nat) : Prop := ∀ i (h : i < l.length), i < k → (eqs l[i].key kk && decide (l[i].time ≤ t)) = false
theorem noAt_zero (l : List En) (kk : ByteArray) (t : Int) : noAt l kk t 0 := fun i _ h => by omega
theorem noAt_succ {l : List En} {kk : ByteArray} {t : Int} {k : Nat} (h : k < l.length) (hn : noAt l kk t k) (e : (eqs l[k].key kk && decide (l[k].time ≤ t)) = false) : noAt l kk t (k + 1) := fun i hi h1 => by
  by_cases hik : i = k
  · subst hik; exact e
  · exact hn i hi (by omega)
theorem at_hit : ∀ {l : List En} {kk : ByteArray} {t : Int} {k : Nat} (h : k < l.length), noAt l kk t k → (eqs l[k].key kk && decide (l[k].time ≤ t)) = true → atL l kk t = some l[k]
  | a :: l, kk, t, 0, h, _, e => by
    unfold atL
    rw [List.find?_cons]
    simp only [List.getElem_cons_zero] at e
    rw [e]; rfl
  | a :: l, kk, t, k + 1, h, hn, e => by
    have h0 := hn 0 (by simp) (by omega)
    simp only [List.getElem_cons_zero] at h0
    unfold atL
    rw [List.find?_cons, h0]
    simp only [List.getElem_cons_succ] at e ⊢
    exact at_hit (by simp at h; omega) (fun i hi h1 => by have := hn (i + 1) (by simp; omega) (by omega); simpa using this) e
theorem at_miss {l : List En} {kk : ByteArray} {t : Int} (hn : noAt l kk t l.length) : atL l kk t = none := by
  unfold atL
  rw [List.find?_eq_none]
  intro x hx
  obtain ⟨i, hi, rfl⟩ := List.getElem_of_mem hx
  rw [hn i hi hi]
  decide

end Go.Proofs.YtbckgmfopbpocaaDoor.W
