/-
  The library's slices.Insert at strings, as the program calls it (one string, laid in a block of its own), over a slice of the call's own: the slice behind it holds the string at its place, and nothing below 'base' has turned.
-/
import Derived.Test.YtjjalagmlbaafaaJ2
import Derived.Test.YtjjalagmlbaafaaI2
import Derived.Shelf.Spec.SlicesInsertGrow
namespace Go.Proofs.Ytjjalagmlbaafaa.K

/-- a string laid in at place p -/
def insAt (l : List ByteArray) (p : Nat) (s : ByteArray) : List ByteArray := l.take p ++ s :: l.drop p
theorem insAt_len {l : List ByteArray} {p : Nat} {s : ByteArray} (hp : p ≤ l.length) : (insAt l p s).length = l.length + 1 := by
  unfold insAt; rw [List.length_append, List.length_take, List.length_cons, List.length_drop]; omega
theorem insAt_end (l : List ByteArray) (s : ByteArray) : insAt l l.length s = l ++ [s] := by
  unfold insAt; rw [List.take_of_length_le (Nat.le_refl _), List.drop_of_length_le (Nat.le_refl _)]
theorem insAt_lo {l : List ByteArray} {p j : Nat} {s : ByteArray} (hp : p ≤ l.length) (hj : j < p) (h : j < (insAt l p s).length) : (insAt l p s)[j] = l[j] := by
  have h' : j < (l.take p ++ s :: l.drop p).length := h
  have e : (insAt l p s)[j] = (l.take p ++ s :: l.drop p)[j]'h' := rfl
  refine e.trans ?_
  rw [List.getElem_append_left (by rw [List.length_take]; omega), List.getElem_take]
theorem insAt_eq {l : List ByteArray} {p : Nat} {s : ByteArray} (hp : p ≤ l.length) (h : p < (insAt l p s).length) : (insAt l p s)[p] = s := by
  have h' : p < (l.take p ++ s :: l.drop p).length := h
  have e : (insAt l p s)[p] = (l.take p ++ s :: l.drop p)[p]'h' := rfl
  refine e.trans ?_
  rw [List.getElem_append_right (by rw [List.length_take]; omega)]
  have : p - (l.take p).length = 0 := by rw [List.length_take]; omega
  simp only [this, List.getElem_cons_zero]
theorem insAt_hi {l : List ByteArray} {p j : Nat} {s : ByteArray} (hp : p ≤ l.length) (hj : p < j) (h : j < (insAt l p s).length) (h2 : j - 1 < l.length) : (insAt l p s)[j] = l[j - 1] := by
  have h' : j < (l.take p ++ s :: l.drop p).length := h
  have e : (insAt l p s)[j] = (l.take p ++ s :: l.drop p)[j]'h' := rfl
  refine e.trans ?_
  rw [List.getElem_append_right (by rw [List.length_take]; omega)]
  obtain ⟨i, hi⟩ : ∃ i, j - (l.take p).length = i + 1 := ⟨j - p - 1, by rw [List.length_take]; omega⟩
  have h3 : i = j - 1 - p := by rw [List.length_take] at hi; omega
  simp only [hi, List.getElem_cons_succ, List.getElem_drop]
  congr 1
  omega
/-- the place that the search finds is where a key is put -/
theorem put_at {l : List ByteArray} {p : Nat} {s : ByteArray} (ha : atK l s p) (hn : inL l s = false) : put l s = insAt l p s := by
  unfold put
  have hn' : l.any (eqs · s) = false := hn
  rw [if_neg (by rw [hn']; simp)]
  have hd : doneP (l.take p) s = false := by
    unfold doneP
    rw [List.any_eq_false]
    intro x hx
    obtain ⟨i, hi, rfl⟩ := List.mem_iff_getElem.mp hx
    rw [List.length_take] at hi
    rw [List.getElem_take]
    have := lt_asymm (ha.1 i (by omega) (by omega))
    rw [this]; simp
  have h := ins_not_done hd (l.drop p)
  rw [List.take_append_drop] at h
  rw [h]
  unfold insAt
  congr 1
  cases e : l.drop p with
  | nil => rfl
  | cons x t =>
    have hp : p < l.length := by
      rcases Nat.lt_or_ge p l.length with h1 | h1
      · exact h1
      · rw [List.drop_of_length_le h1] at e; cases e
    have hx : x = l[p] := by
      rw [List.drop_eq_getElem_cons hp] at e
      injection e with e1 _
      exact e1.symm
    subst hx
    have h1 := ha.2 p hp (Nat.le_refl _)
    have h2 : l[p] ≠ s := fun e2 => by
      have : s ∈ l := e2 ▸ List.getElem_mem hp
      rw [← inL_iff, hn] at this; cases this
    unfold ins
    rw [if_pos (lt_of_not h1 h2)]

end Go.Proofs.Ytjjalagmlbaafaa.K
namespace Go.Proofs.Ytjjalagmlbaafaa.W
open Go.RowKit K

def ren22 : Go.Shelf.Ren := ⟨fun | 22 => 92 | 29 => 98 | 30 => 99 | 36 => 103 | 17 => 104 | n => n, fun | 24 => 43 | 9 => 9 | 3 => 3 | 4 => 4 | 0 => 0 | n => n, fun | n => n⟩
/-- the library's text of slices.Insert is the one that its contract speaks of -/
theorem lays22 : Go.Proofs.Lays2.n22 Try.prog ren22 := {
  mixed := by kernel_rfl
  f17 := Try.func104.trans (congrArg some (by kernel_rfl))
  f22 := Try.func92.trans (congrArg some (by kernel_rfl))
  f29 := Try.func98.trans (congrArg some (by kernel_rfl))
  f30 := Try.func99.trans (congrArg some (by kernel_rfl))
  f36 := Try.func103.trans (congrArg some (by kernel_rfl))
  t0 := Try.underlying0
  a0 := Try.isAgg0
  z0 := Try.sizeOf0
  v0 := Try.zeroValue0
  t3 := Try.underlying3
  a3 := Try.isAgg3
  z3 := Try.sizeOf3
  v3 := Try.zeroValue3
  t4 := Try.underlying4
  a4 := Try.isAgg4
  z4 := Try.sizeOf4
  v4 := Try.zeroValue4
  t9 := Try.underlying9
  a9 := Try.isAgg9
  z9 := Try.sizeOf9
  v9 := Try.zeroValue9
  t24 := Try.underlying43
  a24 := Try.isAgg43
  z24 := Try.sizeOf43
  v24 := Try.zeroValue43
  i9 := by kernel_rfl }

/-- a slice of the call's own holds r; nothing below 'base' has turned -/
def InsR (w : World) (base : Nat) (r : List ByteArray) (e : Ending) (w' : World) : Prop := ∃ v', e = .returned v' ∧ Own w' base v' r ∧ Below base w w'

theorem own_of_row {w : World} {base g c : Nat} {f : Nat → Value} {l : List ByteArray} (h : w.rowIs g 9 c f) (hb : base ≤ g) (hn : l.length ≤ c) (hm : c ≤ maxLen) (hf : ∀ j (hj : j < l.length), f j = .string l[j]) :
    Own w base (.slice (some ⟨g, 0, none⟩) l.length c) l := by
  obtain ⟨cur, hg, hs, hc⟩ := h
  refine ⟨by simp, .inr ⟨g, c, cur, rfl, hb, hg, hn, hm, by omega, ?_⟩⟩
  apply List.ext_getElem?
  intro j
  rw [Nat.mul_one, List.getElem?_take, List.getElem?_map]
  by_cases hj : j < l.length
  · rw [if_pos hj, List.getElem?_eq_getElem hj]
    have := hc j (by omega)
    rw [hf j hj] at this
    simpa using this
  · rw [if_neg hj, List.getElem?_eq_none (by omega)]; rfl

theorem map_get {l : List ByteArray} {j : Nat} {v : Value} (h : (l.map Value.string)[j]? = some v) : ∃ h2 : j < l.length, v = .string l[j] := by
  rw [List.getElem?_map] at h
  by_cases hj : j < l.length
  · rw [List.getElem?_eq_getElem hj] at h
    simp at h
    exact ⟨hj, h.symm⟩
  · rw [List.getElem?_eq_none (by omega)] at h; simp at h
theorem one_get {s : ByteArray} {j : Nat} {v : Value} (h : [Value.string s][j]? = some v) : j = 0 ∧ v = .string s := by
  match j, h with
  | 0, h => simp at h; exact ⟨rfl, h.symm⟩
  | j + 1, h => simp at h
theorem one_cells (l : List ByteArray) : ∀ v ∈ l.map Value.string, v.oneCell' = true := by
  intro v hv
  obtain ⟨x, _, rfl⟩ := List.mem_map.mp hv
  rfl
theorem one_cell1 (s : ByteArray) : ∀ v ∈ [Value.string s], v.oneCell' = true := by
  intro v hv
  simp at hv
  subst hv; rfl
/-- what lies in the row behind both copies -/
theorem laid_at {l : List ByteArray} {p : Nat} {s : ByteArray} {f g : Nat → Value} (hp : p ≤ l.length) (hlo : ∀ j (h : j < l.length), j < p → f j = .string l[j])
    (h1 : ∀ j, j < p → g j = f j) (h2 : g p = .string s) (h3 : ∀ j (h : j - 1 < l.length), p < j → g j = .string l[j - 1]) :
    ∀ j (hj : j < (insAt l p s).length), g j = .string (insAt l p s)[j] := by
  intro j hj
  have hl := insAt_len (s := s) hp
  rcases Nat.lt_trichotomy j p with e | e | e
  · rw [insAt_lo hp e, h1 j e, hlo j (by omega) e]
  · subst e; rw [insAt_eq hp, h2]
  · rw [insAt_hi hp e hj (by omega), h3 j (by omega) e]
theorem drop_get {l : List ByteArray} {p j : Nat} (hj : p < j) (h : j - 1 < l.length) : ((l.map Value.string).drop p)[j - (p + 1)]?.getD default = .string l[j - 1] := by
  rw [List.getElem?_drop, show p + (j - (p + 1)) = j - 1 by omega, List.getElem?_map, List.getElem?_eq_getElem h]; rfl

/-- room for one more, not at the end -/
theorem insShift (w : World) (base g c p : Nat) (cur : Array Value) (l : List ByteArray) (s : ByteArray) (hg : w.heap[g]? = some (.cells cur 9 (0, 0))) (hbg : base ≤ g) (hc : l.length + 1 ≤ c) (hm : c ≤ maxLen)
    (hs : cur.size = c) (ht : cur.toList.take l.length = l.map Value.string) (hp : p < l.length) :
    Calls Try.prog 92 #[.slice (some ⟨g, 0, none⟩) l.length c, .int .i64 p, .slice (some ⟨w.heap.size, 0, none⟩) 1 1] (w.alloc (.cells #[.string s] 9)) (InsR w base (insAt l p s)) := by
  have hgl : g < w.heap.size := (Array.getElem?_eq_some_iff.1 hg).1
  have row : (w.alloc (.cells #[.string s] 9)).rowIs g 9 c (fun j => cur[j]?.getD default) :=
    World.rowIs.alloc ⟨cur, hg, hs, fun i hi => by rw [Array.getElem?_eq_getElem (by omega)]; rfl⟩ _
  have row1 : (w.alloc (.cells #[.string s] 9)).rowIs w.heap.size 9 1 (fun _ => .string s) := World.rowIs_alloc w #[.string s] 9 (fun _ => .string s) (fun i hi => by
    obtain rfl : i = 0 := by simp at hi; omega
    rfl)
  have hcur : ∀ j (h : j < l.length), cur[j]?.getD default = .string l[j] := fun j h => by
    have h1 : (cur.toList.take l.length)[j]? = (l.map Value.string)[j]? := by rw [ht]
    rw [List.getElem?_take, if_pos h, List.getElem?_map, List.getElem?_eq_getElem h] at h1
    have h2 : cur[j]? = some (.string l[j]) := by simpa using h1
    rw [h2]; rfl
  refine Calls.mono (Any2.slices_Insert_string_shift lays22 g 0 l.length c p w.heap.size 0 1 1 (l.map Value.string) [.string s] (w.alloc (.cells #[.string s] 9)) hp (by omega) hc (by unfold maxLen at hm; omega) (by omega) (by simp) rfl
    (fun j v hv => by
      obtain ⟨h2, rfl⟩ := map_get hv
      rw [Nat.zero_add, row.cell (by omega), hcur j h2])
    (fun j hj => by rw [Nat.zero_add, row.cell (by omega)]; rfl) (fun j hj => row.frozen _)
    (fun j v hv => by
      obtain ⟨rfl, rfl⟩ := one_get hv
      exact row1.cell (by omega))
    (one_cells l) (one_cell1 s) 9 9 1 c (by
      unfold World.shape?; rw [heap_alloc_new]; rfl) (by
      unfold World.shape?
      obtain ⟨cur2, hg2, hs2, -⟩ := row
      rw [hg2]; simp only [hs2]) (by omega) (row1.frozen _) (row1.frozen _)) ?_
  rintro e w' ⟨rfl, rfl⟩
  have r1 := rowIs_setCells ((l.map Value.string).drop p) (0 + (p + 1)) _ _ row.drew
  have r2 := rowIs_setCells [.string s] (0 + p) _ _ r1
  refine ⟨_, rfl, ?_, ?_⟩
  · have := own_of_row (base := base) (l := insAt l p s) r2 hbg (by rw [insAt_len (by omega)]; exact hc) hm ?_
    · rw [insAt_len (by omega)] at this; exact this
    · refine laid_at (f := fun j => cur[j]?.getD default) (by omega) (fun j h _ => hcur j h) (fun j hj => ?_) ?_ (fun j h hj => ?_)
      · simp only [Nat.zero_add]
        rw [if_neg (by omega), if_neg (by omega)]
      · simp only [Nat.zero_add]
        rw [if_pos (by simp), Nat.sub_self]; rfl
      · simp only [Nat.zero_add]
        rw [if_neg (by simp; omega), if_pos (by rw [List.length_drop, List.length_map]; omega)]
        exact drop_get hj h
  · exact below_setCells hbg _ _ _ (below_setCells hbg _ _ _ (below_drewN ((Below.refl base w).alloc (by omega) _) 1))

/-- no room, not at the end: a new row -/
theorem insGrow (w : World) (base g c p : Nat) (cur : Array Value) (l : List ByteArray) (s : ByteArray) (hg : w.heap[g]? = some (.cells cur 9 (0, 0))) (hbs : base ≤ w.heap.size) (hnc : l.length ≤ c) (hc : c < l.length + 1) (hn : l.length ≤ 1000000000000)
    (hs : cur.size = c) (ht : cur.toList.take l.length = l.map Value.string) (hp : p < l.length) :
    Calls Try.prog 92 #[.slice (some ⟨g, 0, none⟩) l.length c, .int .i64 p, .slice (some ⟨w.heap.size, 0, none⟩) 1 1] (w.alloc (.cells #[.string s] 9)) (InsR w base (insAt l p s)) := by
  have hgl : g < w.heap.size := (Array.getElem?_eq_some_iff.1 hg).1
  have row : (w.alloc (.cells #[.string s] 9)).rowIs g 9 c (fun j => cur[j]?.getD default) :=
    World.rowIs.alloc ⟨cur, hg, hs, fun i hi => by rw [Array.getElem?_eq_getElem (by omega)]; rfl⟩ _
  have row1 : (w.alloc (.cells #[.string s] 9)).rowIs w.heap.size 9 1 (fun _ => .string s) := World.rowIs_alloc w #[.string s] 9 (fun _ => .string s) (fun i hi => by
    obtain rfl : i = 0 := by simp at hi; omega
    rfl)
  have hcur : ∀ j (h : j < l.length), cur[j]?.getD default = .string l[j] := fun j h => by
    have h1 : (cur.toList.take l.length)[j]? = (l.map Value.string)[j]? := by rw [ht]
    rw [List.getElem?_take, if_pos h, List.getElem?_map, List.getElem?_eq_getElem h] at h1
    have h2 : cur[j]? = some (.string l[j]) := by simpa using h1
    rw [h2]; rfl
  refine Calls.mono (Any2.slices_Insert_string_grow lays22 g 0 l.length c p w.heap.size 0 1 1 (l.map Value.string) [.string s] (w.alloc (.cells #[.string s] 9)) hp (by omega) hnc hc (by omega) (by simp) rfl
    (fun j v hv => by
      obtain ⟨h2, rfl⟩ := map_get hv
      rw [Nat.zero_add, row.cell (by omega), hcur j h2])
    (fun j v hv => by
      obtain ⟨rfl, rfl⟩ := one_get hv
      exact row1.cell (by omega))
    (one_cells l) (one_cell1 s)) ?_
  generalize hG : grownCap (w.alloc (.cells #[.string s] 9)) (l.length + 1) c (ren22.t 9) = G
  have hGn : l.length + 1 ≤ G := by rw [← hG]; exact grownCap_ge _ _ _ _
  have hGm : G ≤ maxLen := by rw [← hG]; exact grownCap_le_maxLen _ _ _ _ (by unfold maxLen; omega)
  generalize hR : (List.take p (List.map Value.string l)).toArray ++ Builtin.zeroCells (Value.string ⟨#[]⟩).cells (l.length + 1 - p) ++ Builtin.zeroCells (Value.string ⟨#[]⟩).cells (G - (l.length + 1)) = R
  have hRs : R.size = G := by
    rw [← hR]
    simp [Builtin.zeroCells, Value.cells]
    omega
  have hRc : ∀ j (h : j < l.length), j < p → R[j]?.getD default = .string l[j] := fun j h hj => by
    rw [← hR, Array.append_assoc, Array.getElem?_append_left (by simp; omega)]
    simp [hj, h]
  rintro e w' ⟨rfl, rfl⟩
  have hsz : (w.alloc (.cells #[.string s] 9)).heap.size = w.heap.size + 1 := by simp
  have r0 : ((w.alloc (.cells #[.string s] 9)).alloc (.cells R (ren22.t 9))).rowIs (w.alloc (.cells #[.string s] 9)).heap.size 9 R.size (fun j => R[j]?.getD default) :=
    World.rowIs_alloc _ R 9 _ (fun i hi => by rw [Array.getElem?_eq_getElem hi]; rfl)
  rw [hRs] at r0
  have r1 := rowIs_setCells [.string s] p _ _ r0.drew
  have r2 := rowIs_setCells ((l.map Value.string).drop p) (p + 1) _ _ r1.drew
  refine ⟨_, rfl, ?_, ?_⟩
  · have := own_of_row (base := base) (l := insAt l p s) r2 (by omega) (by rw [insAt_len (by omega)]; exact hGn) hGm ?_
    · rw [insAt_len (by omega)] at this; exact this
    · refine laid_at (f := fun j => R[j]?.getD default) (by omega) hRc (fun j hj => ?_) ?_ (fun j h hj => ?_)
      · rw [if_neg (by omega), if_neg (by omega)]
      · rw [if_neg (by omega), if_pos (by simp), Nat.sub_self]; rfl
      · rw [if_pos (by rw [List.length_drop, List.length_map]; omega)]
        exact drop_get hj h
  · refine below_setCells (by omega) _ _ _ (below_drewN (n := 1) (below_setCells (by omega) _ _ _ (below_drewN (n := 1) ?_)))
    exact ((Below.refl base w).alloc hbs _).alloc (by omega) _

set_option maxHeartbeats 1000000 in
/-- at the end -/
theorem insEnd (w : World) (base : Nat) (v : Value) (l : List ByteArray) (s : ByteArray) (ho : Own w base v l) (hbs : base ≤ w.heap.size) (hn : l.length ≤ 1000000000000) :
    Calls Try.prog 92 #[v, .int .i64 l.length, .slice (some ⟨w.heap.size, 0, none⟩) 1 1] (w.alloc (.cells #[.string s] 9)) (InsR w base (insAt l l.length s)) := by
  rw [insAt_end]
  have HO := Lib.hid ho
  rcases ho.2 with ⟨rfl, h0⟩ | ⟨g, cap, cur, rfl, hb, hg, hc, hm, hs, ht⟩
  · have : l = [] := List.eq_nil_of_length_eq_zero h0
    subst this
    go_enter Try.func92, Try.ntmps92
    go_wp2_with (at_builtin; refine app_str rfl (.tmp 23) (.tmp 24) rfl _ base _ [] rfl (HO.out.alloc _) w.heap.size 1 _ rfl (cell_new _ _ _) (by simp) (le_alloc hbs _) ?_; intro g cap w1 ho1 hg1)
    have HO1 := Lib.hid ho1
    have HB1 := Lib.hid (Below.app ((Below.refl base w).alloc hbs _) (HO.out.alloc _) (Nat.le_refl _) hg1 (le_alloc hbs _))
    clear ho1 hg1
    go_wp2
    go_ret
    exact ⟨_, rfl, HO1.out, HB1.out⟩
  · have hcl : (l.length : Int) ≤ (cap : Int) := by omega
    unfold maxLen at hm
    clear hg hs ht
    go_enter Try.func92, Try.ntmps92
    go_wp2_with (at_builtin; refine app_str rfl (.tmp 23) (.tmp 24) rfl _ base _ l rfl (HO.out.alloc _) w.heap.size 1 _ rfl (cell_new _ _ _) (by omega) (le_alloc hbs _) ?_; intro g2 cap2 w1 ho1 hg1)
    all_goals
      have HO1 := Lib.hid ho1
      have HB1 := Lib.hid (Below.app ((Below.refl base w).alloc hbs _) (HO.out.alloc _) (Nat.le_refl _) hg1 (le_alloc hbs _))
      clear ho1 hg1
      go_wp2
      go_ret
      exact ⟨_, rfl, HO1.out, HB1.out⟩

theorem insertI (w : World) (base : Nat) (v : Value) (l : List ByteArray) (s : ByteArray) (p : Nat) (ho : Own w base v l) (hbs : base ≤ w.heap.size) (hn : l.length ≤ 1000000000000) (hp : p ≤ l.length) :
    Calls Try.prog 92 #[v, .int .i64 p, .slice (some ⟨w.heap.size, 0, none⟩) 1 1] (w.alloc (.cells #[.string s] 9)) (InsR w base (insAt l p s)) := by
  rcases (by omega : p = l.length ∨ p < l.length) with rfl | hlt
  · exact insEnd w base v l s ho hbs hn
  · rcases ho.2 with ⟨rfl, h0⟩ | ⟨g, cap, cur, rfl, hb, hg, hc, hm, hs, ht⟩
    · omega
    · rw [Nat.mul_one] at hs ht
      by_cases hr : l.length + 1 ≤ cap
      · exact insShift w base g cap p cur l s hg hb hr hm hs ht hlt
      · exact insGrow w base g cap p cur l s hg hbs hc (by omega) hn hs ht hlt

end Go.Proofs.Ytjjalagmlbaafaa.W
