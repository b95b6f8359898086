/-
  Whether an entry can be found, as the model says it.
  The size of entries that came in, as an exact law reckons it.
  Entries in memory of the call's own; entries that came in, handed on: a copy in new memory.
  What was put last, as the model looks for it.
  Contracts of the model's l12Size, l12Times and l12Newest.
  Contract of the model's l12Newest.
  Stores in memory: levels (slices of slices of entries), filters of levels, and a store's six parts; what keeps them.
  The size of a store that came in, as the exact laws reckon it: of its entries, levels, filters and times, from any number left.
  A slice of entries that came in, handed on: a copy in new memory.
-/
import Derived.Test.YtfhpkcamigkmdaaDoorED
import Derived.Test.YtfhpkcamigkmdaaDoorZAA
import Derived.Test.YtfhpkcamigkmdaaDoorE2
import Derived.Test.YtfhpkcamigkmdaaDoorJ3
import Derived.Laws.CopyOwn
import Derived.OwnWalk
import Derived.Laws.OwnMore
namespace Go.Proofs.YtfhpkcamigkmdaaDoor.W
open Go.RowKit K R

/-- a slice of numbers reads as l, in blocks below B -/
structure Nums (w : World) (B : Nat) (A : Option Addr) (n : Nat) (l : List Int) : Prop where
  len : l.length = n
  cell : ∀ i (h : i < l.length), ∃ b off : Nat, A = some ⟨b, off, none⟩ ∧ b < B ∧ w.cell? ⟨b, off + i, none⟩ = some (.int .i64 l[i])
theorem Nums.below {w w' : World} {B B' n : Nat} {A : Option Addr} {l : List Int} (h : Nums w B A n l) (hb : Below B' w w') (hB : B ≤ B') : Nums w' B A n l :=
  ⟨h.len, fun i hi => by
    obtain ⟨b, off, hA, hlt, c0⟩ := h.cell i hi
    exact ⟨b, off, hA, hlt, (hb.cell (p := ⟨b, off + i, none⟩) (Nat.lt_of_lt_of_le hlt hB)).trans c0⟩⟩
end Go.Proofs.YtfhpkcamigkmdaaDoor.W
namespace Go.Proofs.YtfhpkcamigkmdaaDoor.W
open Go.RowKit K R

theorem i64_z (a : Int) (h1 : -9223372036854775808 ≤ a) (h2 : a ≤ 9223372036854775807) : IntKind.i64.wrap a = a := IntWalk.i64_in _ ⟨by omega, by omega⟩
set_option maxHeartbeats 2000000 in
theorem szEn (k : ByteArray) (v : Int) (g : Bool) (t : Int) (x : Int) (w : World) (hx0 : 0 ≤ x) (hx1 : x ≤ 1048576) (hk : k.size ≤ maxLen) :
    Calls Tryd.prog 50 #[.agg #[.string k, .int .i64 v, .bool g, .int .i64 t], .int .i64 x] w fun e w' => e = .returned (.int .i64 (if x - k.size < 0 then -1 else x - k.size)) ∧ Below w.heap.size w w' := by
  unfold maxLen at hk
  obtain ⟨y, hy⟩ : ∃ y : Int, y = x - k.size := ⟨_, rfl⟩
  have hw : IntKind.i64.wrap (x - (k.size : Int)) = y := by rw [hy]; exact i64_z _ (by omega) (by omega)
  rw [← hy]
  clear hy
  by_cases h : y < 0
  · rw [if_pos h]
    go_enter Tryd.func50, Tryd.ntmps50
    go_wp2
    go_ret
    exact ⟨rfl, (Below.refl _ _).alloc (Nat.le_refl _) _⟩
  · rw [if_neg h]
    go_enter Tryd.func50, Tryd.ntmps50
    go_wp2
    go_ret
    exact ⟨rfl, (Below.refl _ _).alloc (Nat.le_refl _) _⟩

end Go.Proofs.YtfhpkcamigkmdaaDoor.W
namespace Go.Proofs.YtfhpkcamigkmdaaDoor.W
open Go.RowKit K R

theorem entry_size : (Tryd.prog.info? 83).map (·.size) = some 4 := by kernel_rfl
theorem two_below' (w : World) (o o2 : Obj) : Below w.heap.size w ((w.alloc o).alloc o2) := ((Below.refl _ _).alloc (Nat.le_refl _) _).alloc (by simp) _
set_option maxHeartbeats 2000000 in
theorem toEn (k : ByteArray) (v : Int) (g : Bool) (t : Int) (w : World) :
    Calls Tryd.prog 59 #[.agg #[.string k, .int .i64 v, .bool g, .int .i64 t]] w fun e w' => e = .returned (.agg #[.string k, .int .i64 v, .bool g, .int .i64 t]) ∧ Below w.heap.size w w' := by
  go_enter Tryd.func59, Tryd.ntmps59
  go_wp2
  refine bodyPost_ret (v := .agg #[.string k, .int .i64 v, .bool g, .int .i64 t]) ?_ rfl ⟨rfl, ?_⟩
  · refine results_cell_row rfl _ _ (w.heap.size + 1) 83 #[.string k, .int .i64 v, .bool g, .int .i64 t] (0, 0) _ rfl ?_ Tryd.underlying83 rfl entry_size
    rw [Below.heap_alloc _ _ _ (by simp)]
    have := heap_alloc_new (w.alloc (.cells #[.string k, .int .i64 v, .bool g, .int .i64 t] 88)) (.cells #[.string k, .int .i64 v, .bool g, .int .i64 t] 83)
    rw [World.size_alloc] at this
    exact this
  · exact (two_below' w _ _).alloc (by simp; omega) _

/-- the cells of an entry -/
def enC (e : En) : List Value := [.string e.key, .int .i64 e.val, .bool e.gone, .int .i64 e.time]
def cellsE (l : List En) : List Value := l.flatMap enC
theorem cellsE_len (l : List En) : (cellsE l).length = l.length * 4 := by
  unfold cellsE
  induction l with
  | nil => rfl
  | cons e t ih => rw [List.flatMap_cons, List.length_append, ih, List.length_cons]; show 4 + t.length * 4 = _; omega
theorem cellsE_split {l : List En} {i : Nat} (h : i < l.length) : cellsE l = cellsE (l.take i) ++ (enC l[i] ++ cellsE (l.drop (i + 1))) := by
  have e : l = l.take i ++ l[i] :: l.drop (i + 1) := by rw [List.getElem_cons_drop, List.take_append_drop]
  conv => lhs; rw [e]
  unfold cellsE
  rw [List.flatMap_append, List.flatMap_cons]
theorem cellsE_at {l : List En} {i : Nat} (h : i < l.length) (j : Nat) (hj : j < 4) : (cellsE l)[i * 4 + j]? = (enC l[i])[j]? := by
  have hl : (cellsE (l.take i)).length = i * 4 := by rw [cellsE_len, List.length_take, Nat.min_eq_left (by omega)]
  rw [cellsE_split h, List.getElem?_append_right (by omega), hl, Nat.add_sub_cancel_left, List.getElem?_append_left (by show j < 4; exact hj)]
theorem cellsE_set {l : List En} {i : Nat} (h : i < l.length) (e : En) :
    ((((cellsE l).set (i * 4) (.string e.key)).set (i * 4 + 1) (.int .i64 e.val)).set (i * 4 + 2) (.bool e.gone)).set (i * 4 + 3) (.int .i64 e.time) = cellsE (l.set i e) := by
  have hl : (cellsE (l.take i)).length = i * 4 := by rw [cellsE_len, List.length_take, Nat.min_eq_left (by omega)]
  have h2 : cellsE (l.set i e) = cellsE (l.take i) ++ (enC e ++ cellsE (l.drop (i + 1))) := by
    rw [cellsE_split (by rw [List.length_set]; exact h), List.take_set, List.set_eq_of_length_le (by rw [List.length_take]; omega), List.drop_set, if_pos (by omega)]
    simp
  rw [h2, cellsE_split h]
  rw [List.set_append_right _ _ (by omega), List.set_append_right _ _ (by omega), List.set_append_right _ _ (by omega), List.set_append_right _ _ (by omega), hl]
  simp only [Nat.sub_self, Nat.add_sub_cancel_left]
  unfold enC
  rfl
/-- the slice v holds the entries l, in a row of the call's own, from block 'base' on -/
abbrev OwnE (w : World) (base : Nat) (v : Value) (l : List En) : Prop := w.ownsRow base 83 4 v l.length (cellsE l)
theorem rowSet {E : TypeId} {sz : Nat} {w : World} {base g n c : Nat} {cs : List Value} (h : w.ownsRow base E sz (.slice (some ⟨g, 0, none⟩) n c) n cs) (i : Nat) (x : Value) :
    (w.setCell ⟨g, i, none⟩ x).ownsRow base E sz (.slice (some ⟨g, 0, none⟩) n c) n (cs.set i x) := by
  refine ⟨by rw [List.length_set]; exact h.1, ?_⟩
  rcases h.2 with ⟨hv, _⟩ | ⟨g', cap, cur, hv, hb, hg, hc, hm, hs, ht⟩
  · injection hv with e; cases e
  · injection hv with e1 e2 e3
    injection e1 with e1
    injection e1 with e1
    subst e1 e3
    refine .inr ⟨g, c, cur.setIfInBounds i x, rfl, hb, heap_setCell_same _ _ _ _ _ _ hg, hc, hm, by simpa using hs, ?_⟩
    rw [Array.toList_setIfInBounds, List.take_set, ht]
theorem rowFree {E : TypeId} {sz : Nat} {w : World} {base g n c : Nat} {cs : List Value} (h : w.ownsRow base E sz (.slice (some ⟨g, 0, none⟩) n c) n cs) (i : Nat) : w.frozen? ⟨g, i, none⟩ = false := by
  rcases h.2 with ⟨hv, _⟩ | ⟨g', cap, cur, hv, hb, hg, _⟩
  · injection hv with e; cases e
  · injection hv with e1
    injection e1 with e1
    injection e1 with e1
    subst e1
    exact frozen_of_row _ _ _ _ _ hg
theorem rowGet {E : TypeId} {sz : Nat} {w : World} {base g n c : Nat} {cs : List Value} (h : w.ownsRow base E sz (.slice (some ⟨g, 0, none⟩) n c) n cs) {i : Nat} {u : Value} (hi : cs[i]? = some u) : w.cell? ⟨g, i, none⟩ = some u := by
  have := h.cells (g := g) rfl i u hi
  have hadd : (⟨g, 0, none⟩ : Addr).add i = ⟨g, 0 + i, none⟩ := by unfold Addr.add; split <;> simp_all
  rw [hadd, Nat.zero_add] at this
  exact this
theorem OwnE.ents {w : World} {base g n c : Nat} {l : List En} (h : w.ownsRow base 83 4 (.slice (some ⟨g, 0, none⟩) n c) n (cellsE l)) (hn : l.length = n) : Ents w w.heap.size (some ⟨g, 0, none⟩) n l :=
  ⟨hn, fun i hi => by
    have hlt := (World.ownsRow.lt h g rfl).2
    refine ⟨g, 0, rfl, hlt, ?_, ?_, ?_, ?_⟩
    · rw [Nat.zero_add]; exact rowGet h (by rw [show i * 4 = i * 4 + 0 from rfl, cellsE_at hi 0 (by omega)]; rfl)
    · rw [Nat.zero_add]; exact rowGet h (by rw [cellsE_at hi 1 (by omega)]; rfl)
    · rw [Nat.zero_add]; exact rowGet h (by rw [cellsE_at hi 2 (by omega)]; rfl)
    · rw [Nat.zero_add]; exact rowGet h (by rw [cellsE_at hi 3 (by omega)]; rfl)⟩
def blankE : En := ⟨⟨#[]⟩, 0, false, 0⟩
theorem copyE_step {l : List En} {k : Nat} (h : k < l.length) : (l.take k ++ List.replicate (l.length - k) blankE).set k l[k] = l.take (k + 1) ++ List.replicate (l.length - (k + 1)) blankE := by
  have hl : (l.take k).length = k := by rw [List.length_take]; omega
  rw [show l.length - k = (l.length - (k + 1)) + 1 by omega, List.replicate_succ, List.set_append_right _ _ (by omega), hl, Nat.sub_self, List.set_cons_zero, List.take_succ_eq_append_getElem h, List.append_assoc]
  rfl

end Go.Proofs.YtfhpkcamigkmdaaDoor.W
namespace Go.Proofs.YtfhpkcamigkmdaaDoor.W
open Go.RowKit K R

theorem ret_two {fn : Func} {p u : Tmp} {ty : TypeId} (h : fn.results = #[.cell p ty, .tmp u]) (tmps : Array Value) (w : World) (g : Nat) (cs : Array Value) (x : Value)
    (hp : tmps.getD p undef = .pointer (some ⟨g, 0, none⟩)) (hx : tmps.getD u undef = x) (hl : (loadVar ty ⟨g, 0, none⟩).run Tryd.prog w = .ok (.agg cs) w) :
    (results fn tmps).run Tryd.prog w = .ok (.tuple #[.agg cs, x]) w := by
  rw [results_cell_tmp h, hp, hx]
  simp [asAddr, Result.andThen, hl]
theorem load_entry {w : World} {g : Nat} {x0 x1 x2 x3 : Value} (hg : w.heap[g]? = some (.cells #[x0, x1, x2, x3] 83 (0, 0))) : (loadVar 83 ⟨g, 0, none⟩).run Tryd.prog w = .ok (.agg #[x0, x1, x2, x3]) w :=
  run_loadVar_row w g _ _ _ (0, 0) _ hg Tryd.underlying83 rfl entry_size
/-- an entry or none, as Go hands it back -/
def atE (o : Option En) : En := o.getD blankE
def atV (o : Option En) : Value := .tuple #[.agg #[.string (atE o).key, .int .i64 (atE o).val, .bool (atE o).gone, .int .i64 (atE o).time], .bool o.isSome]
/-- none of the first entries is it -/
def noAt (l : List En) (kk : ByteArray) (t : Int) (k : Nat) : Prop := ∀ i (h : i < l.length), i < k → (eqs l[i].key kk && decide (l[i].time ≤ t)) = false
theorem noAt_zero (l : List En) (kk : ByteArray) (t : Int) : noAt l kk t 0 := fun i _ h => by omega
theorem noAt_succ {l : List En} {kk : ByteArray} {t : Int} {k : Nat} (h : k < l.length) (hn : noAt l kk t k) (e : (eqs l[k].key kk && decide (l[k].time ≤ t)) = false) : noAt l kk t (k + 1) := fun i hi h1 => by
  by_cases hik : i = k
  · subst hik; exact e
  · exact hn i hi (by omega)
theorem at_hit : ∀ {l : List En} {kk : ByteArray} {t : Int} {k : Nat} (h : k < l.length), noAt l kk t k → (eqs l[k].key kk && decide (l[k].time ≤ t)) = true → atL l kk t = some l[k]
  | a :: l, kk, t, 0, h, _, e => by
    unfold atL
    rw [List.find?_cons]
    simp only [List.getElem_cons_zero] at e
    rw [e]; rfl
  | a :: l, kk, t, k + 1, h, hn, e => by
    have h0 := hn 0 (by simp) (by omega)
    simp only [List.getElem_cons_zero] at h0
    unfold atL
    rw [List.find?_cons, h0]
    simp only [List.getElem_cons_succ] at e ⊢
    exact at_hit (by simp at h; omega) (fun i hi h1 => by have := hn (i + 1) (by simp; omega) (by omega); simpa using this) e
theorem at_miss {l : List En} {kk : ByteArray} {t : Int} (hn : noAt l kk t l.length) : atL l kk t = none := by
  unfold atL
  rw [List.find?_eq_none]
  intro x hx
  obtain ⟨i, hi, rfl⟩ := List.getElem_of_mem hx
  rw [hn i hi hi]
  decide

set_option maxHeartbeats 4000000 in
theorem atS (w : World) (B n c : Nat) (A : Option Addr) (l : List En) (kk : ByteArray) (t : Int) (hr : Ents w B A n l) (hB : B ≤ w.heap.size) (hn : n ≤ maxLen) :
    Calls Tryd.prog 58 #[.slice A n c, .string kk, .int .i64 t] w fun e w' => e = .returned (atV (atL l kk t)) ∧ Below w.heap.size w w' := by
  have hlen := hr.len
  subst hlen
  unfold maxLen at hn
  have HR := Lib.hid hr
  clear hr
  go_enter Tryd.func58, Tryd.ntmps58
  go_wp2_with fail
  go_loopw [8] (fun i wr => ∃ k : Nat, k ≤ l.length ∧ i = .int .i64 (k : Nat) ∧ noAt l kk t k ∧ wr = w.alloc (.cells #[.string ⟨#[]⟩, .int .i64 0, .bool false, .int .i64 0] 83)) (fun i _ => l.length - (intOf i).toNat)
  case atStart => exact ⟨0, Nat.zero_le _, rfl, noAt_zero l kk t, rfl⟩
  case round =>
    obtain ⟨k, hk, rfl, hno, rfl⟩ := hrel
    have HN := Lib.hid hno
    clear hno
    by_cases hlt : k < l.length
    · have hbw : Below w.heap.size w (w.alloc (.cells #[.string ⟨#[]⟩, .int .i64 0, .bool false, .int .i64 0] 83)) := (Below.refl _ _).alloc (Nat.le_refl _) _
      obtain ⟨kb, ko, hA, hkb, c0, c1, c2, c3⟩ := (HR.out.below hbw hB).cell k hlt
      subst hA
      obtain ⟨x0, h0⟩ : ∃ y, y = l[k].key := ⟨_, rfl⟩
      obtain ⟨x1, h1⟩ : ∃ y, y = l[k].val := ⟨_, rfl⟩
      obtain ⟨x2, h2⟩ : ∃ y, y = l[k].gone := ⟨_, rfl⟩
      obtain ⟨x3, h3⟩ : ∃ y, y = l[k].time := ⟨_, rfl⟩
      rw [← h0] at c0
      rw [← h1] at c1
      rw [← h2] at c2
      rw [← h3] at c3
      have z0 : (0 : Int) ≤ (k : Int) := by omega
      have z1 : (k : Int) < (l.length : Int) := by omega
      have HE := Lib.hid (show l[k] = ⟨x0, x1, x2, x3⟩ by rw [h0, h1, h2, h3])
      have hkbw : ¬ kb = w.heap.size := by omega
      clear h0 h1 h2 h3 hbw
      rcases Bool.eq_false_or_eq_true (x0.toList == kk.toList) with hq | hq
      · by_cases ht : x3 ≤ t
        · have HH := Lib.hid (at_hit hlt HN.out (by rw [HE.out, Bool.and_eq_true, decide_eq_true_iff]; exact ⟨hq, ht⟩))
          go_wp2
          refine bodyPost_ret (v := .tuple #[.agg #[.string x0, .int .i64 x1, .bool x2, .int .i64 x3], .bool true]) ?_ rfl ⟨?_, ?_⟩
          · exact ret_two rfl _ _ w.heap.size _ _ rfl rfl (load_entry (heap_alloc_new _ _))
          · rw [HH.out, HE.out]; rfl
          · exact (Below.refl _ _).alloc (Nat.le_refl _) _
        · have HM := Lib.hid (noAt_succ hlt HN.out (by rw [HE.out, Bool.and_eq_false_iff]; exact .inr (decide_eq_false ht)))
          go_wp2
          go_roundw
          case rel => exact ⟨k + 1, by omega, by go_num, HM.out, by first | rfl | trivial⟩
          case measure => simp [intOf]; omega
      · have HM := Lib.hid (noAt_succ hlt HN.out (by rw [HE.out, Bool.and_eq_false_iff]; exact .inl hq))
        go_wp2
        go_roundw
        case rel => exact ⟨k + 1, by omega, by go_num, HM.out, by first | rfl | trivial⟩
        case measure => simp [intOf]; omega
    · have hke : k = l.length := by omega
      subst hke
      have HM := Lib.hid (at_miss HN.out)
      go_wp2
      refine bodyPost_ret (v := .tuple #[.agg #[.string ⟨#[]⟩, .int .i64 0, .bool false, .int .i64 0], .bool false]) ?_ rfl ⟨?_, ?_⟩
      · exact ret_two rfl _ _ w.heap.size _ _ rfl rfl (load_entry (heap_alloc_new _ _))
      · rw [HM.out]; rfl
      · exact (Below.refl _ _).alloc (Nat.le_refl _) _

end Go.Proofs.YtfhpkcamigkmdaaDoor.W
namespace Go.Proofs.YtfhpkcamigkmdaaDoor.W
open Go.RowKit K R

theorem sizeL (n : Int) (w : World) (h0 : 0 ≤ n) (h1 : n ≤ 1000) :
    Calls Tryd.prog 54 #[.int .i64 n] w fun e w' => e = .returned (.int .i64 (8 * (n + 1))) ∧ w = w' := by
  go_enter Tryd.func54, Tryd.ntmps54
  go_wp2
  go_ret
  exact ⟨ret_int (by omega), rfl⟩

set_option maxHeartbeats 4000000 in
theorem timesS (w : World) (B n c : Nat) (A : Option Addr) (l : List Int) (now : Int) (hr : Nums w B A n l) (hB : B ≤ w.heap.size) (hn : n ≤ maxLen) :
    Calls Tryd.prog 33 #[.slice A n c, .int .i64 now] w fun e w' => e = .returned (.bool (timesB l now)) ∧ Same w w' := by
  have hlen := hr.len
  subst hlen
  unfold maxLen at hn
  have HR := Lib.hid hr
  clear hr
  go_enter Tryd.func33, Tryd.ntmps33
  go_wp2
  go_loopw [5] (fun i wr => ∃ k : Nat, k ≤ l.length ∧ i = .int .i64 k ∧ goodT l now k ∧ Same w wr) (fun i _ => l.length - (intOf i).toNat)
  case atStart => exact ⟨0, Nat.zero_le _, rfl, goodT_zero l now, Same.refl w⟩
  case round =>
    obtain ⟨k, hk, rfl, hg, hsm⟩ := hrel
    have HG := Lib.hid hg
    have HS := Lib.hid hsm
    clear hg hsm
    by_cases hlt : k < l.length
    · obtain ⟨b, off, hA, hb, hc⟩ := (HR.out.below (HS.out.below w.heap.size) hB).cell k hlt
      subst hA
      have hx0 : (0 : Int) ≤ (k : Int) := by omega
      have hx1 : (k : Int) < (l.length : Int) := by omega
      obtain ⟨x, hx⟩ : ∃ y, y = l[k] := ⟨_, rfl⟩
      rw [← hx] at hc
      have HX := Lib.hid hx
      clear hx
      rcases Bool.eq_false_or_eq_true (inB x 0 now) with hib | hib
      · have HI := Lib.hid (show 0 ≤ l[k] ∧ l[k] ≤ now by rw [← HX.out]; exact of_decide_eq_true hib)
        by_cases h0 : k = 0
        · subst h0
          rw [Nat.add_zero] at hc
          go_wp2
          go_quiet ((go_at_call 14; exact quiet_mine ((inS x 0 now _).mono fun _ _ ⟨he, hw⟩ => ⟨by rw [he, hib], hw⟩)))
          go_wp2
          go_roundw
          case rel => exact ⟨1, by omega, by go_num, goodT_succ HG.out hlt HI.out (fun j hj => by omega), HS.out.drewN _⟩
          case measure => simp [intOf]; omega
        · obtain ⟨j, hj⟩ : ∃ j, k = j + 1 := ⟨k - 1, by omega⟩
          have hjl : j < l.length := by omega
          obtain ⟨b', off', hA', _, hcj⟩ := (HR.out.below (HS.out.below w.heap.size) hB).cell j hjl
          simp only [Option.some.injEq, Addr.mk.injEq, and_true] at hA'
          obtain ⟨rfl, rfl⟩ := hA'
          obtain ⟨y, hy⟩ : ∃ y, y = l[j] := ⟨_, rfl⟩
          rw [← hy] at hcj
          have HY := Lib.hid hy
          clear hy
          have hy0 : (0 : Int) ≤ (j : Int) := by omega
          have hy1 : (j : Int) < (l.length : Int) := by omega
          have hsub : IntKind.i64.wrap ((k : Int) - 1) = (j : Int) := by rw [IntWalk.i64_in _ ⟨by omega, by omega⟩]; omega
          have hpos : 0 < k := by omega
          have HJ := Lib.hid hj
          clear hj
          by_cases hq : y < x
          · have HQ := Lib.hid (show ∀ i (hi : i + 1 = k), l[i]'(by omega) < l[k] from fun i hi => by
              have : i = j := by have := HJ.out; omega
              subst this; rw [← HX.out, ← HY.out]; exact hq)
            go_wp2
            go_quiet ((go_at_call 14; exact quiet_mine ((inS x 0 now _).mono fun _ _ ⟨he, hw⟩ => ⟨by rw [he, hib], hw⟩)))
            clear hsub
            go_wp2
            go_roundw
            case rel => exact ⟨k + 1, by omega, by go_num, goodT_succ HG.out hlt HI.out HQ.out, HS.out.drewN _⟩
            case measure => simp [intOf]; omega
          · have HQ := Lib.hid (show timesB l now = false from badT_ord HJ.out.symm hlt (by rw [← HX.out, ← HY.out]; exact hq))
            go_wp2
            go_quiet ((go_at_call 14; exact quiet_mine ((inS x 0 now _).mono fun _ _ ⟨he, hw⟩ => ⟨by rw [he, hib], hw⟩)))
            clear hsub
            go_wp2
            go_ret
            exact ⟨ret_bool HQ.out.symm, HS.out.drewN _⟩
      · have HQ := Lib.hid (show timesB l now = false from badT_in hlt (by rw [← HX.out]; exact of_decide_eq_false hib))
        go_wp2
        go_quiet ((go_at_call 14; exact quiet_mine ((inS x 0 now _).mono fun _ _ ⟨he, hw⟩ => ⟨by rw [he, hib], hw⟩)))
        go_wp2
        go_ret
        exact ⟨ret_bool HQ.out.symm, HS.out.drewN _⟩
    · have hke : k = l.length := by omega
      subst hke
      go_wp2
      go_ret
      exact ⟨ret_bool (by rw [goodT_end HG.out]; exact decide_eq_decide.mpr (by omega)), HS.out⟩

end Go.Proofs.YtfhpkcamigkmdaaDoor.W
namespace Go.Proofs.YtfhpkcamigkmdaaDoor.W
open Go.RowKit K R

/-- of the first k all are newer than what is below -/
def newT (r below : List En) (t : Int) (k : Nat) : Prop := ∀ i (h : i < r.length), i < k → newerB r[i] below t = true
theorem newT_zero (r below : List En) (t : Int) : newT r below t 0 := fun i _ h => by omega
theorem newT_succ {r below : List En} {t : Int} {k : Nat} (g : newT r below t k) (h : k < r.length) (e : newerB r[k] below t = true) : newT r below t (k + 1) := fun i hi hk => by
  rcases (by omega : i < k ∨ i = k) with q | q
  · exact g i hi q
  · subst q; exact e
theorem newT_end {r below : List En} {t : Int} (g : newT r below t r.length) : newestB r below t = true := newest_yes fun i hi => g i hi hi

set_option maxHeartbeats 8000000 in
set_option maxRecDepth 100000 in
theorem newestS (w : World) (B n c B2 n2 c2 : Nat) (A A2 : Option Addr) (l l2 : List En) (t : Int) (hr : Ents w B A n l) (hr2 : Ents w B2 A2 n2 l2) (hB : B ≤ w.heap.size) (hB2 : B2 ≤ w.heap.size) (hn : n ≤ maxLen) (hn2 : n2 ≤ maxLen) :
    Calls Tryd.prog 36 #[.slice A n c, .slice A2 n2 c2, .int .i64 t] w fun e w' => e = .returned (.bool (newestB l l2 t)) ∧ Below w.heap.size w w' := by
  have hlen := hr.len
  subst hlen
  unfold maxLen at hn
  have HR := Lib.hid hr
  have HR2 := Lib.hid hr2
  have HN2 := Lib.hid hn2
  clear hr hr2 hn2
  go_enter Tryd.func36, Tryd.ntmps36
  go_wp2_with fail
  go_loopw [7] (fun i wr => ∃ k : Nat, k ≤ l.length ∧ i = .int .i64 (k : Nat) ∧ newT l l2 t k ∧ Below w.heap.size w wr) (fun i _ => l.length - (intOf i).toNat)
  case atStart => exact ⟨0, Nat.zero_le _, rfl, newT_zero l l2 t, Below.refl _ _⟩
  case round =>
    obtain ⟨k, hk, rfl, hg, hbl⟩ := hrel
    have HBL := Lib.hid hbl
    have HG := Lib.hid hg
    have hws := hbl.size
    clear hbl hg
    by_cases hlt : k < l.length
    · obtain ⟨kb, ko, hA, hkb, c0, c1, c2', c3⟩ := (HR.out.below HBL.out hB).cell k hlt
      subst hA
      obtain ⟨x0, hx0⟩ : ∃ y, y = l[k].key := ⟨_, rfl⟩
      obtain ⟨x3, hx3⟩ : ∃ y, y = l[k].time := ⟨_, rfl⟩
      rw [← hx0] at c0
      rw [← hx3] at c3
      have z0 : (0 : Int) ≤ (k : Int) := by omega
      have z1 : (k : Int) < (l.length : Int) := by omega
      have HX0 := Lib.hid hx0
      have HX3 := Lib.hid hx3
      clear hx0 hx3 c1 c2'
      by_cases ht : x3 ≤ t
      · go_wp2_with fail
        go_at_call 58
        refine Calls.mono (atS wr B2 n2 c2 A2 l2 x0 999 (HR2.out.below HBL.out hB2) (by omega) HN2.out) ?_
        rintro e w9 ⟨rfl, b9⟩
        have hs9 := b9.size
        have d3 : w9.cell? ⟨kb, ko + k * 4 + 3, none⟩ = some (.int .i64 x3) := (b9.cell (p := ⟨kb, ko + k * 4 + 3, none⟩) (by show kb < _; omega)).trans c3
        have HB9 := Lib.hid (HBL.out.trans (b9.mono hws))
        have hk9 : ¬ kb = w9.heap.size := by omega
        clear b9 c0 c3
        have HF := Lib.hid (show ∀ (o : Obj) (m : Nat), Below w.heap.size w ((w9.alloc o).drewN m) from fun o m => below_drewN (HB9.out.alloc (by omega) o) m)
        have d3' : ∀ o, (w9.alloc o).cell? ⟨kb, ko + k * 4 + 3, none⟩ = some (.int .i64 x3) := fun o => (((Below.refl w9.heap.size w9).alloc (Nat.le_refl _) o).cell (p := ⟨kb, ko + k * 4 + 3, none⟩) (by show kb < _; omega)).trans d3
        rcases hat : atL l2 x0 999 with _ | ⟨e0, e1, e2, e3⟩
        · have HN := Lib.hid (show newerB l[k] l2 t = true by unfold newerB; rw [← HX0.out, ← HX3.out, hat]; simp; exact ht)
          clear hat
          simp only [atV, atE, Option.getD_none, Option.isSome_none, blankE]
          go_wp2
          go_quiet (fail)
          go_wp2
          go_roundw
          case rel => exact ⟨k + 1, by omega, by go_num, newT_succ HG.out hlt HN.out, HF.out _ _⟩
          case measure => simp [intOf]; omega
        · by_cases hq : e3 < x3
          · have HN := Lib.hid (show newerB l[k] l2 t = true by unfold newerB; rw [← HX0.out, ← HX3.out, hat]; simp; exact ⟨ht, hq⟩)
            clear hat
            simp only [atV, atE, Option.getD_some, Option.isSome_some]
            go_wp2
            go_quiet (fail)
            go_wp2
            go_roundw
            case rel => exact ⟨k + 1, by omega, by go_num, newT_succ HG.out hlt HN.out, HF.out _ _⟩
            case measure => simp [intOf]; omega
          · have HN := Lib.hid (show newestB l l2 t = false from newest_no hlt (by unfold newerB; rw [← HX0.out, ← HX3.out, hat]; simp; intro _; omega))
            clear hat
            simp only [atV, atE, Option.getD_some, Option.isSome_some]
            go_wp2
            go_quiet (fail)
            go_wp2
            go_ret
            exact ⟨ret_bool HN.out.symm, HF.out _ _⟩
      · have HN := Lib.hid (show newestB l l2 t = false from newest_no hlt (by unfold newerB; rw [← HX3.out, decide_eq_false ht, Bool.false_and]))
        go_wp2
        go_ret
        exact ⟨ret_bool HN.out.symm, HBL.out⟩
    · have hke : k = l.length := by omega
      subst hke
      have HN := Lib.hid (newT_end HG.out)
      go_wp2
      go_ret
      exact ⟨ret_bool HN.out.symm, HBL.out⟩

end Go.Proofs.YtfhpkcamigkmdaaDoor.W
namespace Go.Proofs.YtfhpkcamigkmdaaDoor.W
open Go.RowKit K R

theorem Strs.below' {w w' : World} {B B' n : Nat} {A : Option Addr} {l : List ByteArray} (h : Strs w B A n l) (hb : Below B' w w') (hB : B ≤ B') : Strs w' B A n l :=
  ⟨h.len, fun i hi => by
    obtain ⟨b, off, hA, hlt, c0⟩ := h.cell i hi
    exact ⟨b, off, hA, hlt, (hb.cell (p := ⟨b, off + i, none⟩) (Nat.lt_of_lt_of_le hlt hB)).trans c0⟩⟩
/-- a slice of runs reads as ls, in blocks below B -/
structure Lvls (w : World) (B : Nat) (A : Option Addr) (n : Nat) (ls : List (List En)) : Prop where
  len : ls.length = n
  cell : ∀ i (h : i < ls.length), ∃ (b off : Nat) (A' : Option Addr) (c' : Nat), A = some ⟨b, off, none⟩ ∧ b < B ∧ w.cell? ⟨b, off + i, none⟩ = some (.slice A' ls[i].length c') ∧ Ents w B A' ls[i].length ls[i] ∧ ls[i].length ≤ c' ∧ c' ≤ maxLen
theorem Lvls.below {w w' : World} {B B' n : Nat} {A : Option Addr} {ls : List (List En)} (h : Lvls w B A n ls) (hb : Below B' w w') (hB : B ≤ B') : Lvls w' B A n ls :=
  ⟨h.len, fun i hi => by
    obtain ⟨b, off, A', c', hA, hlt, c0, he, h1, h2⟩ := h.cell i hi
    exact ⟨b, off, A', c', hA, hlt, (hb.cell (p := ⟨b, off + i, none⟩) (Nat.lt_of_lt_of_le hlt hB)).trans c0, he.below hb hB, h1, h2⟩⟩
theorem Lvls.more {w : World} {B B' n : Nat} {A : Option Addr} {ls : List (List En)} (h : Lvls w B A n ls) (hB : B ≤ B') : Lvls w B' A n ls :=
  ⟨h.len, fun i hi => by
    obtain ⟨b, off, A', c', hA, hlt, c0, he, h1, h2⟩ := h.cell i hi
    exact ⟨b, off, A', c', hA, Nat.lt_of_lt_of_le hlt hB, c0, he.more hB, h1, h2⟩⟩
/-- a filter's five parts -/
structure Sf where
  letters : ByteArray
  more : ByteArray
  first : ByteArray
  rests : List ByteArray
  keep : Int
/-- a slice of filters reads as ss, in blocks below B -/
structure Svs (w : World) (B : Nat) (A : Option Addr) (n : Nat) (ss : List Sf) : Prop where
  len : ss.length = n
  cell : ∀ i (h : i < ss.length), ∃ (b off : Nat) (A' : Option Addr) (c' : Nat), A = some ⟨b, off, none⟩ ∧ b < B ∧
    w.cell? ⟨b, off + i * 5, none⟩ = some (.string ss[i].letters) ∧ w.cell? ⟨b, off + i * 5 + 1, none⟩ = some (.string ss[i].more) ∧ w.cell? ⟨b, off + i * 5 + 2, none⟩ = some (.string ss[i].first) ∧
    w.cell? ⟨b, off + i * 5 + 3, none⟩ = some (.slice A' ss[i].rests.length c') ∧ w.cell? ⟨b, off + i * 5 + 4, none⟩ = some (.int .i64 ss[i].keep) ∧ Strs w B A' ss[i].rests.length ss[i].rests ∧ ss[i].rests.length ≤ c' ∧ c' ≤ maxLen
theorem Svs.below {w w' : World} {B B' n : Nat} {A : Option Addr} {ss : List Sf} (h : Svs w B A n ss) (hb : Below B' w w') (hB : B ≤ B') : Svs w' B A n ss :=
  ⟨h.len, fun i hi => by
    obtain ⟨b, off, A', c', hA, hlt, c0, c1, c2, c3, c4, he, h1, h2⟩ := h.cell i hi
    have q := Nat.lt_of_lt_of_le hlt hB
    exact ⟨b, off, A', c', hA, hlt, (hb.cell (p := ⟨b, off + i * 5, none⟩) q).trans c0, (hb.cell (p := ⟨b, off + i * 5 + 1, none⟩) q).trans c1, (hb.cell (p := ⟨b, off + i * 5 + 2, none⟩) q).trans c2, (hb.cell (p := ⟨b, off + i * 5 + 3, none⟩) q).trans c3, (hb.cell (p := ⟨b, off + i * 5 + 4, none⟩) q).trans c4, he.below' hb hB, h1, h2⟩⟩
/-- a store: its top, levels, filters, and numbers -/
structure Sto where
  top : List En
  levels : List (List En)
  sieves : List Sf
  keep : Int
  time : Int
  times : List Int
/-- the six parts of a store's value, as Go holds them -/
def stV (A0 A1 A2 A5 : Option Addr) (c0 c1 c2 c5 : Nat) (s : Sto) : Value :=
  .agg #[.slice A0 s.top.length c0, .slice A1 s.levels.length c1, .slice A2 s.sieves.length c2, .int .i64 s.keep, .int .i64 s.time, .slice A5 s.times.length c5]
structure StM (w : World) (B : Nat) (A0 A1 A2 A5 : Option Addr) (c0 c1 c2 c5 : Nat) (s : Sto) : Prop where
  top : Ents w B A0 s.top.length s.top
  levels : Lvls w B A1 s.levels.length s.levels
  sieves : Svs w B A2 s.sieves.length s.sieves
  times : Nums w B A5 s.times.length s.times
  b0 : s.top.length ≤ c0 ∧ c0 ≤ maxLen
  b1 : s.levels.length ≤ c1 ∧ c1 ≤ maxLen
  b2 : s.sieves.length ≤ c2 ∧ c2 ≤ maxLen
  b5 : s.times.length ≤ c5 ∧ c5 ≤ maxLen
theorem StM.below {w w' : World} {B B' : Nat} {A0 A1 A2 A5 : Option Addr} {c0 c1 c2 c5 : Nat} {s : Sto} (h : StM w B A0 A1 A2 A5 c0 c1 c2 c5 s) (hb : Below B' w w') (hB : B ≤ B') : StM w' B A0 A1 A2 A5 c0 c1 c2 c5 s :=
  ⟨h.top.below hb hB, h.levels.below hb hB, h.sieves.below hb hB, h.times.below hb hB, h.b0, h.b1, h.b2, h.b5⟩
end Go.Proofs.YtfhpkcamigkmdaaDoor.W
namespace Go.Proofs.YtfhpkcamigkmdaaDoor.W
open Go.RowKit K R

/-- how much is left, or that it is too much; if something is left then P -/
def SizedX (P : Prop) (w : World) (e : Ending) (w' : World) : Prop :=
  ∃ x : Int, e = .returned (.int .i64 x) ∧ -1 ≤ x ∧ x ≤ 1048576 ∧ (0 ≤ x → P) ∧ Below w.heap.size w w'
def smallE (l : List En) : Prop := l.length ≤ 1048576 ∧ ∀ e ∈ l, e.key.size ≤ 1048576
def fitE (l : List En) : Prop := ∀ e ∈ l, e.key.size ≤ maxLen

set_option maxHeartbeats 4000000 in
theorem szEnSx (w : World) (B n c : Nat) (A : Option Addr) (l : List En) (x : Int) (hx0 : 0 ≤ x) (hx1 : x ≤ 1048576) (hr : Ents w B A n l) (hB : B ≤ w.heap.size) (hn : n ≤ maxLen) (hf : fitE l) :
    Calls Tryd.prog 29 #[.slice A n c, .int .i64 x] w (SizedX (smallE l) w) := by
  have hlen := hr.len
  subst hlen
  unfold maxLen at hn
  have HR := Lib.hid hr
  have HF := Lib.hid hf
  clear hr hf
  obtain ⟨y, hy⟩ : ∃ y : Int, y = x - (l.length : Int) := ⟨_, rfl⟩
  have hw : IntKind.i64.wrap (x - (l.length : Int)) = y := by rw [hy]; exact i64_z _ (by omega) (by omega)
  by_cases h : y < 0
  · clear hy
    go_enter Tryd.func29, Tryd.ntmps29
    go_wp2
    go_ret
    exact ⟨-1, rfl, by omega, by omega, by omega, Below.refl _ _⟩
  · have HY := Lib.hid hy
    clear hy
    go_enter Tryd.func29, Tryd.ntmps29
    go_wp2_with fail
    go_loopw [1, 5] (fun s i wr => ∃ (k : Nat) (x : Int), k ≤ l.length ∧ i = .int .i64 (k : Nat) ∧ s = .int .i64 x ∧ 0 ≤ x ∧ x ≤ 1048576 ∧ (∀ i (h : i < l.length), i < k → l[i].key.size ≤ 1048576) ∧ Below w.heap.size w wr) (fun _ i _ => l.length - (intOf i).toNat)
    case atStart => exact ⟨0, y, Nat.zero_le _, rfl, rfl, by omega, by have := HY.out; omega, fun i h1 h2 => by omega, Below.refl _ _⟩
    case round =>
      obtain ⟨k, x, hk, rfl, rfl, hx0, hx1, hsm, hbl⟩ := hrel
      have HBL := Lib.hid hbl
      have HSM := Lib.hid hsm
      clear hbl hsm
      by_cases hlt : k < l.length
      · obtain ⟨kb, ko, hA, hkb, c0, c1, c2, c3⟩ := HR.out.cell k hlt
        subst hA
        have hkb' : kb < w.heap.size := Nat.lt_of_lt_of_le hkb hB
        have r0 := (HBL.out.cell (p := ⟨kb, ko + k * 4, none⟩) hkb').trans c0
        have r1 := (HBL.out.cell (p := ⟨kb, ko + k * 4 + 1, none⟩) hkb').trans c1
        have r2 := (HBL.out.cell (p := ⟨kb, ko + k * 4 + 2, none⟩) hkb').trans c2
        have r3 := (HBL.out.cell (p := ⟨kb, ko + k * 4 + 3, none⟩) hkb').trans c3
        have hks := HF.out _ (List.getElem_mem hlt)
        obtain ⟨x0, h0⟩ : ∃ y, y = l[k].key := ⟨_, rfl⟩
        obtain ⟨x1, h1⟩ : ∃ y, y = l[k].val := ⟨_, rfl⟩
        obtain ⟨x2, h2⟩ : ∃ y, y = l[k].gone := ⟨_, rfl⟩
        obtain ⟨x3, h3⟩ : ∃ y, y = l[k].time := ⟨_, rfl⟩
        rw [← h0] at r0 hks
        rw [← h1] at r1
        rw [← h2] at r2
        rw [← h3] at r3
        have H0 := Lib.hid h0
        have z0 : (0 : Int) ≤ (k : Int) := by omega
        have z1 : (k : Int) < (l.length : Int) := by omega
        obtain ⟨u, hu⟩ : ∃ u : Int, u = if x - (x0.size : Int) < 0 then -1 else x - (x0.size : Int) := ⟨_, rfl⟩
        have HZ := Lib.hid (show ∀ W : World, Calls Tryd.prog 50 #[.agg #[.string x0, .int .i64 x1, .bool x2, .int .i64 x3], .int .i64 x] W fun e w' => e = .returned (.int .i64 u) ∧ Below W.heap.size W w' from fun W => by rw [hu]; exact szEn x0 x1 x2 x3 x W hx0 hx1 hks)
        have HU := Lib.hid hu
        clear hu h0 h1 h2 h3 c0 c1 c2 c3
        by_cases hneg : u < 0
        · go_wp2_with (go_at_call 50; refine Calls.mono (HZ.out _) ?_; rintro e w5 ⟨rfl, hb5⟩; have HB5 := Lib.hid (HBL.out.trans (hb5.mono HBL.out.size)); clear hb5)
          go_ret
          exact ⟨-1, rfl, by omega, by omega, by omega, HB5.out⟩
        · have hu2 : x0.size ≤ 1048576 ∧ u ≤ 1048576 := by
            have := HU.out
            split at this <;> omega
          go_wp2_with (go_at_call 50; refine Calls.mono (HZ.out _) ?_; rintro e w5 ⟨rfl, hb5⟩; have HB5 := Lib.hid (HBL.out.trans (hb5.mono HBL.out.size)); clear hb5)
          go_roundw
          case rel =>
            refine ⟨k + 1, u, by omega, by go_num, rfl, by omega, hu2.2, fun i hi h => ?_, HB5.out⟩
            by_cases e : i = k
            · subst e; rw [← H0.out]; exact hu2.1
            · exact HSM.out i hi (by omega)
          case measure => simp [intOf]; omega
      · have hke : k = l.length := by omega
        subst hke
        go_wp2
        go_ret
        refine ⟨x, rfl, by omega, by omega, fun _ => ⟨by have := HY.out; omega, fun e he => ?_⟩, HBL.out⟩
        obtain ⟨i, hi, rfl⟩ := List.getElem_of_mem he
        exact HSM.out i hi hi

set_option maxHeartbeats 4000000 in
theorem szEnSS (w : World) (B n c : Nat) (A : Option Addr) (ls : List (List En)) (x : Int) (hx0 : 0 ≤ x) (hx1 : x ≤ 1048576) (hr : Lvls w B A n ls) (hB : B ≤ w.heap.size) (hn : n ≤ maxLen) (hf : ∀ r ∈ ls, fitE r) :
    Calls Tryd.prog 30 #[.slice A n c, .int .i64 x] w (SizedX (ls.length ≤ 1048576 ∧ ∀ r ∈ ls, smallE r) w) := by
  have hlen := hr.len
  subst hlen
  unfold maxLen at hn
  have HR := Lib.hid hr
  have HF := Lib.hid hf
  clear hr hf
  obtain ⟨y, hy⟩ : ∃ y : Int, y = x - (ls.length : Int) := ⟨_, rfl⟩
  have hw : IntKind.i64.wrap (x - (ls.length : Int)) = y := by rw [hy]; exact i64_z _ (by omega) (by omega)
  by_cases h : y < 0
  · clear hy
    go_enter Tryd.func30, Tryd.ntmps30
    go_wp2
    go_ret
    exact ⟨-1, rfl, by omega, by omega, by omega, Below.refl _ _⟩
  · have HY := Lib.hid hy
    clear hy
    go_enter Tryd.func30, Tryd.ntmps30
    go_wp2_with fail
    go_loopw [1, 5] (fun s i wr => ∃ (k : Nat) (x : Int), k ≤ ls.length ∧ i = .int .i64 (k : Nat) ∧ s = .int .i64 x ∧ 0 ≤ x ∧ x ≤ 1048576 ∧ (∀ i (h : i < ls.length), i < k → smallE ls[i]) ∧ Below w.heap.size w wr) (fun _ i _ => ls.length - (intOf i).toNat)
    case atStart => exact ⟨0, y, Nat.zero_le _, rfl, rfl, by omega, by have := HY.out; omega, fun i h1 h2 => by omega, Below.refl _ _⟩
    case round =>
      obtain ⟨k, x, hk, rfl, rfl, hx0, hx1, hsm, hbl⟩ := hrel
      have HBL := Lib.hid hbl
      have HSM := Lib.hid hsm
      clear hbl hsm
      by_cases hlt : k < ls.length
      · obtain ⟨kb, ko, A', c', hA, hkb, c0, he, hc1, hc2⟩ := (HR.out.below HBL.out hB).cell k hlt
        subst hA
        have z0 : (0 : Int) ≤ (k : Int) := by omega
        have z1 : (k : Int) < (ls.length : Int) := by omega
        obtain ⟨r, h0⟩ : ∃ y, y = ls[k] := ⟨_, rfl⟩
        have hfr := HF.out _ (List.getElem_mem hlt)
        rw [← h0] at c0 he hc1 hfr
        have H0 := Lib.hid h0
        have hsz := HBL.out.size
        have HZ := Lib.hid (szEnSx wr B r.length c' A' r x hx0 hx1 he (by omega) (by omega) hfr)
        clear h0 he hfr
        go_wp2_with fail
        go_at_call 29
        refine Calls.mono HZ.out ?_
        rintro e w5 ⟨u, rfl, hu0, hu1, hu2, hb5⟩
        have HB5 := Lib.hid (HBL.out.trans (hb5.mono HBL.out.size))
        have HU := Lib.hid hu2
        clear hb5 hu2
        by_cases hneg : u < 0
        · go_wp2
          go_ret
          exact ⟨-1, rfl, by omega, by omega, by omega, HB5.out⟩
        · go_wp2
          go_roundw
          case rel =>
            refine ⟨k + 1, u, by omega, by go_num, rfl, by omega, hu1, fun i hi h => ?_, HB5.out⟩
            by_cases e : i = k
            · subst e; rw [← H0.out]; exact HU.out (by omega)
            · exact HSM.out i hi (by omega)
          case measure => simp [intOf]; omega
      · have hke : k = ls.length := by omega
        subst hke
        go_wp2
        go_ret
        refine ⟨x, rfl, by omega, by omega, fun _ => ⟨by have := HY.out; omega, fun e he => ?_⟩, HBL.out⟩
        obtain ⟨i, hi, rfl⟩ := List.getElem_of_mem he
        exact HSM.out i hi hi

def smallS (x : Sf) : Prop := (x.letters.size ≤ 1048576 ∧ x.more.size ≤ 1048576 ∧ x.first.size ≤ 1048576) ∧ x.rests.length ≤ 1048576 ∧ ∀ s ∈ x.rests, s.size ≤ 1048576
def fitS (x : Sf) : Prop := x.letters.size ≤ maxLen ∧ x.more.size ≤ maxLen ∧ x.first.size ≤ maxLen ∧ Fit x.rests

set_option maxHeartbeats 4000000 in
theorem szSvx (w : World) (B n c : Nat) (A : Option Addr) (L M_ F : ByteArray) (keep : Int) (l : List ByteArray) (x : Int) (hx0 : 0 ≤ x) (hx1 : x ≤ 1048576) (hL : L.size ≤ maxLen) (hM : M_.size ≤ maxLen) (hF : F.size ≤ maxLen) (hr : Strs w B A n l) (hB : B ≤ w.heap.size) (hn : n ≤ maxLen) (hf : Fit l) :
    Calls Tryd.prog 51 #[.agg #[.string L, .string M_, .string F, .slice A n c, .int .i64 keep], .int .i64 x] w (SizedX ((L.size ≤ 1048576 ∧ M_.size ≤ 1048576 ∧ F.size ≤ 1048576) ∧ l.length ≤ 1048576 ∧ ∀ s ∈ l, s.size ≤ 1048576) w) := by
  unfold maxLen at hL hM hF
  obtain ⟨W0, hW0⟩ : ∃ W0, W0 = w.alloc (.cells #[.string L, .string M_, .string F, .slice A n c, .int .i64 keep] 90) := ⟨_, rfl⟩
  have hbw : Below w.heap.size w W0 := by rw [hW0]; exact (Below.refl _ _).alloc (Nat.le_refl _) _
  have HB := Lib.hid hbw
  have HSZ := Lib.hid (show ∀ x : Nat, x ≤ 1048576 → Calls Tryd.prog 72 #[.slice A n c, .int .i64 (x : Nat)] W0 (Sized x l W0) from fun x hx => sizeS W0 w.heap.size n c x A l (hr.below hbw hB |>.more hB) hn hf (by omega))
  rw [hW0] at HSZ HB
  clear hr hf hbw hW0
  obtain ⟨y1, hy1⟩ : ∃ y : Int, y = x - (L.size : Int) := ⟨_, rfl⟩
  have hw1 : IntKind.i64.wrap (x - (L.size : Int)) = y1 := by rw [hy1]; exact i64_z _ (by omega) (by omega)
  by_cases g1 : y1 < 0
  · clear hy1
    go_enter Tryd.func51, Tryd.ntmps51
    go_wp2
    go_ret
    exact ⟨-1, rfl, by omega, by omega, fun h => by omega, HB.out⟩
  obtain ⟨y2, hy2⟩ : ∃ y : Int, y = y1 - (M_.size : Int) := ⟨_, rfl⟩
  have hw2 : IntKind.i64.wrap (y1 - (M_.size : Int)) = y2 := by rw [hy2]; exact i64_z _ (by omega) (by omega)
  by_cases g2 : y2 < 0
  · clear hy1 hy2
    go_enter Tryd.func51, Tryd.ntmps51
    go_wp2
    go_ret
    exact ⟨-1, rfl, by omega, by omega, fun h => by omega, HB.out⟩
  obtain ⟨y3, hy3⟩ : ∃ y : Int, y = y2 - (F.size : Int) := ⟨_, rfl⟩
  have hw3 : IntKind.i64.wrap (y2 - (F.size : Int)) = y3 := by rw [hy3]; exact i64_z _ (by omega) (by omega)
  by_cases g3 : y3 < 0
  · clear hy1 hy2 hy3
    go_enter Tryd.func51, Tryd.ntmps51
    go_wp2
    go_ret
    exact ⟨-1, rfl, by omega, by omega, fun h => by omega, HB.out⟩
  · obtain ⟨z, hz⟩ : ∃ z : Nat, y3 = (z : Int) := ⟨y3.toNat, by omega⟩
    have hzs : z ≤ 1048576 := by omega
    have hb1 : L.size ≤ 1048576 ∧ M_.size ≤ 1048576 ∧ F.size ≤ 1048576 := by omega
    have HZ := Lib.hid (HSZ.out z hzs)
    rw [← hz] at HZ
    clear hy1 hy2 hy3 hz
    go_enter Tryd.func51, Tryd.ntmps51
    go_wp2_with fail
    go_at_call 72
    refine HZ.out.mono ?_
    rintro e w1 ⟨y, rfl, hy0, hyx, hy2, rfl⟩
    by_cases hneg : y < 0
    · clear hy2
      go_wp2
      go_ret
      exact ⟨-1, rfl, by omega, by omega, fun h => by omega, HB.out⟩
    · have hy3 := Lib.hid (hy2 (by omega))
      clear hy2
      go_wp2
      go_ret
      exact ⟨y, rfl, by omega, by omega, fun _ => ⟨hb1, by have := hy3.out.1; omega, fun s hs => by have := hy3.out.2 s hs; omega⟩, HB.out⟩

set_option maxHeartbeats 4000000 in
theorem szSvS (w : World) (B n c : Nat) (A : Option Addr) (ss : List Sf) (x : Int) (hx0 : 0 ≤ x) (hx1 : x ≤ 1048576) (hr : Svs w B A n ss) (hB : B ≤ w.heap.size) (hn : n ≤ maxLen) (hf : ∀ r ∈ ss, fitS r) :
    Calls Tryd.prog 31 #[.slice A n c, .int .i64 x] w (SizedX (ss.length ≤ 1048576 ∧ ∀ r ∈ ss, smallS r) w) := by
  have hlen := hr.len
  subst hlen
  unfold maxLen at hn
  have HR := Lib.hid hr
  have HF := Lib.hid hf
  clear hr hf
  obtain ⟨y, hy⟩ : ∃ y : Int, y = x - (ss.length : Int) := ⟨_, rfl⟩
  have hw : IntKind.i64.wrap (x - (ss.length : Int)) = y := by rw [hy]; exact i64_z _ (by omega) (by omega)
  by_cases h : y < 0
  · clear hy
    go_enter Tryd.func31, Tryd.ntmps31
    go_wp2
    go_ret
    exact ⟨-1, rfl, by omega, by omega, by omega, Below.refl _ _⟩
  · have HY := Lib.hid hy
    clear hy
    go_enter Tryd.func31, Tryd.ntmps31
    go_wp2_with fail
    go_loopw [1, 5] (fun s i wr => ∃ (k : Nat) (x : Int), k ≤ ss.length ∧ i = .int .i64 (k : Nat) ∧ s = .int .i64 x ∧ 0 ≤ x ∧ x ≤ 1048576 ∧ (∀ i (h : i < ss.length), i < k → smallS ss[i]) ∧ Below w.heap.size w wr) (fun _ i _ => ss.length - (intOf i).toNat)
    case atStart => exact ⟨0, y, Nat.zero_le _, rfl, rfl, by omega, by have := HY.out; omega, fun i h1 h2 => by omega, Below.refl _ _⟩
    case round =>
      obtain ⟨k, x, hk, rfl, rfl, hx0, hx1, hsm, hbl⟩ := hrel
      have HBL := Lib.hid hbl
      have HSM := Lib.hid hsm
      clear hbl hsm
      by_cases hlt : k < ss.length
      · obtain ⟨kb, ko, A', c', hA, hkb, c0, c1, c2, c3, c4, he, hc1, hc2⟩ := (HR.out.below HBL.out hB).cell k hlt
        subst hA
        have z0 : (0 : Int) ≤ (k : Int) := by omega
        have z1 : (k : Int) < (ss.length : Int) := by omega
        obtain ⟨r, h0⟩ : ∃ y, y = ss[k] := ⟨_, rfl⟩
        have hfr := HF.out _ (List.getElem_mem hlt)
        rw [← h0] at c0 c1 c2 c3 c4 he hc1 hfr
        have H0 := Lib.hid h0
        clear h0
        obtain ⟨L, M_, F, l, keep⟩ := r
        have hsz := HBL.out.size
        have HZ := Lib.hid (szSvx wr B l.length c' A' L M_ F keep l x hx0 hx1 hfr.1 hfr.2.1 hfr.2.2.1 he (by omega) (by simp at hc1; omega) hfr.2.2.2)
        clear he hfr hc1
        go_wp2_with fail
        go_at_call 51
        refine Calls.mono HZ.out ?_
        rintro e w5 ⟨u, rfl, hu0, hu1, hu2, hb5⟩
        have HB5 := Lib.hid (HBL.out.trans (hb5.mono HBL.out.size))
        have HU := Lib.hid hu2
        clear hb5 hu2
        by_cases hneg : u < 0
        · go_wp2
          go_ret
          exact ⟨-1, rfl, by omega, by omega, by omega, HB5.out⟩
        · go_wp2
          go_roundw
          case rel =>
            refine ⟨k + 1, u, by omega, by go_num, rfl, by omega, hu1, fun i hi h => ?_, HB5.out⟩
            by_cases e : i = k
            · subst e; rw [← H0.out]; exact HU.out (by omega)
            · exact HSM.out i hi (by omega)
          case measure => simp [intOf]; omega
      · have hke : k = ss.length := by omega
        subst hke
        go_wp2
        go_ret
        refine ⟨x, rfl, by omega, by omega, fun _ => ⟨by have := HY.out; omega, fun e he => ?_⟩, HBL.out⟩
        obtain ⟨i, hi, rfl⟩ := List.getElem_of_mem he
        exact HSM.out i hi hi

set_option maxHeartbeats 1000000 in
theorem szNx (w : World) (n c : Nat) (A : Option Addr) (x : Int) (hx0 : 0 ≤ x) (hx1 : x ≤ 1048576) (hn : n ≤ maxLen) :
    Calls Tryd.prog 32 #[.slice A n c, .int .i64 x] w (SizedX (n ≤ 1048576) w) := by
  unfold maxLen at hn
  obtain ⟨y, hy⟩ : ∃ y : Int, y = x - (n : Int) := ⟨_, rfl⟩
  have hw : IntKind.i64.wrap (x - (n : Int)) = y := by rw [hy]; exact i64_z _ (by omega) (by omega)
  by_cases h : y < 0
  · clear hy
    go_enter Tryd.func32, Tryd.ntmps32
    go_wp2
    go_ret
    exact ⟨-1, rfl, by omega, by omega, by omega, Below.refl _ _⟩
  · have HY := Lib.hid hy
    clear hy
    go_enter Tryd.func32, Tryd.ntmps32
    go_wp2
    go_ret
    have hy := HY.out
    exact ⟨y, rfl, by omega, by omega, by omega, Below.refl _ _⟩

/-- all parts of a store are small -/
def smallSt (s : Sto) : Prop := smallE s.top ∧ (s.levels.length ≤ 1048576 ∧ ∀ r ∈ s.levels, smallE r) ∧ (s.sieves.length ≤ 1048576 ∧ ∀ x ∈ s.sieves, smallS x) ∧ s.times.length ≤ 1048576
def fitSt (s : Sto) : Prop := fitE s.top ∧ (∀ r ∈ s.levels, fitE r) ∧ ∀ x ∈ s.sieves, fitS x

set_option maxHeartbeats 4000000 in
theorem szSt (w : World) (A0 A1 A2 A5 : Option Addr) (c0 c1 c2 c5 : Nat) (s : Sto) (hr : StM w w.heap.size A0 A1 A2 A5 c0 c1 c2 c5 s) (hf : fitSt s) :
    Calls Tryd.prog 10 #[stV A0 A1 A2 A5 c0 c1 c2 c5 s, .int .i64 1048576] w (SizedX (smallSt s) w) := by
  obtain ⟨top, levels, sieves, keep, time, times⟩ := s
  obtain ⟨h0, h1, h2, h5, b0, b1, b2, b5⟩ := hr
  obtain ⟨f0, f1, f2⟩ := hf
  simp only [stV] at *
  obtain ⟨W0, hW0⟩ : ∃ W0, W0 = w.alloc (.cells #[.slice A0 top.length c0, .slice A1 levels.length c1, .slice A2 sieves.length c2, .int .i64 keep, .int .i64 time, .slice A5 times.length c5] 37) := ⟨_, rfl⟩
  have hbw : Below w.heap.size w W0 := by rw [hW0]; exact (Below.refl _ _).alloc (Nat.le_refl _) _
  have hbox : W0.heap[w.heap.size]? = some (.cells #[.slice A0 top.length c0, .slice A1 levels.length c1, .slice A2 sieves.length c2, .int .i64 keep, .int .i64 time, .slice A5 times.length c5] 37 (0, 0)) := by rw [hW0]; exact heap_alloc_new _ _
  have hs0 : W0.heap.size = w.heap.size + 1 := by rw [hW0]; simp
  have HB := Lib.hid hbw
  have HX := Lib.hid hbox
  have HS := Lib.hid hs0
  have C1 := Lib.hid (szEnSx W0 w.heap.size top.length c0 A0 top 1048576 (by omega) (by omega) (h0.below hbw (Nat.le_refl _)) hbw.size (Nat.le_trans b0.1 b0.2) f0)
  have C2 := Lib.hid (show ∀ (W : World) (x : Int), Below W0.heap.size W0 W → 0 ≤ x → x ≤ 1048576 → Calls Tryd.prog 30 #[.slice A1 levels.length c1, .int .i64 x] W (SizedX (levels.length ≤ 1048576 ∧ ∀ r ∈ levels, smallE r) W) from fun W x hW h3 h4 => szEnSS W w.heap.size levels.length c1 A1 levels x h3 h4 ((h1.below hbw (Nat.le_refl _)).below (hW.mono hbw.size) (Nat.le_refl _)) (Nat.le_trans hbw.size hW.size) (Nat.le_trans b1.1 b1.2) f1)
  have C3 := Lib.hid (show ∀ (W : World) (x : Int), Below W0.heap.size W0 W → 0 ≤ x → x ≤ 1048576 → Calls Tryd.prog 31 #[.slice A2 sieves.length c2, .int .i64 x] W (SizedX (sieves.length ≤ 1048576 ∧ ∀ r ∈ sieves, smallS r) W) from fun W x hW h3 h4 => szSvS W w.heap.size sieves.length c2 A2 sieves x h3 h4 ((h2.below hbw (Nat.le_refl _)).below (hW.mono hbw.size) (Nat.le_refl _)) (Nat.le_trans hbw.size hW.size) (Nat.le_trans b2.1 b2.2) f2)
  have C4 := Lib.hid (show ∀ (W : World) (x : Int), 0 ≤ x → x ≤ 1048576 → Calls Tryd.prog 32 #[.slice A5 times.length c5, .int .i64 x] W (SizedX (times.length ≤ 1048576) W) from fun W x h3 h4 => szNx W times.length c5 A5 x h3 h4 (Nat.le_trans b5.1 b5.2))
  clear h0 h1 h2 h5 b0 b1 b2 b5 f0 f1 f2 hbw hbox hs0
  have HW0 := Lib.hid hW0
  clear hW0
  go_enter Tryd.func10, Tryd.ntmps10
  go_wp2_with fail
  rw [← HW0.out]
  go_at_call 29
  refine Calls.mono C1.out ?_
  rintro e w1 ⟨x1, rfl, p1, q1, r1, d1⟩
  have D1 := Lib.hid d1
  have R1 := Lib.hid r1
  have k1 : w1.heap[w.heap.size]? = some (.cells #[.slice A0 top.length c0, .slice A1 levels.length c1, .slice A2 sieves.length c2, .int .i64 keep, .int .i64 time, .slice A5 times.length c5] 37 (0, 0)) := by rw [D1.out.block _ (by have := HS.out; omega)]; exact HX.out
  have K1 := Lib.hid k1
  have e1 : w1.cell? ⟨w.heap.size, 1, none⟩ = some (.slice A1 levels.length c1) := by rw [cell_of_row _ _ _ _ _ _ k1]; rfl
  clear d1 r1 k1
  by_cases n1 : x1 < 0
  · go_wp2
    go_ret
    exact ⟨-1, rfl, by omega, by omega, by omega, HB.out.trans (D1.out.mono HB.out.size)⟩
  go_wp2_with fail
  go_at_call 30
  refine Calls.mono (C2.out w1 x1 D1.out (by omega) q1) ?_
  rintro e w2 ⟨x2, rfl, p2, q2, r2, d2⟩
  have D2 := Lib.hid (D1.out.trans (d2.mono D1.out.size))
  have R2 := Lib.hid r2
  have k2 : w2.heap[w.heap.size]? = some (.cells #[.slice A0 top.length c0, .slice A1 levels.length c1, .slice A2 sieves.length c2, .int .i64 keep, .int .i64 time, .slice A5 times.length c5] 37 (0, 0)) := by rw [D2.out.block _ (by have := HS.out; omega)]; exact HX.out
  have e2 : w2.cell? ⟨w.heap.size, 2, none⟩ = some (.slice A2 sieves.length c2) := by rw [cell_of_row _ _ _ _ _ _ k2]; rfl
  clear d2 r2 k2
  by_cases n2 : x2 < 0
  · go_wp2
    go_ret
    exact ⟨-1, rfl, by omega, by omega, by omega, HB.out.trans (D2.out.mono HB.out.size)⟩
  go_wp2_with fail
  go_at_call 31
  refine Calls.mono (C3.out w2 x2 D2.out (by omega) q2) ?_
  rintro e w3 ⟨x3, rfl, p3, q3, r3, d3⟩
  have D3 := Lib.hid (D2.out.trans (d3.mono D2.out.size))
  have R3 := Lib.hid r3
  have k3 : w3.heap[w.heap.size]? = some (.cells #[.slice A0 top.length c0, .slice A1 levels.length c1, .slice A2 sieves.length c2, .int .i64 keep, .int .i64 time, .slice A5 times.length c5] 37 (0, 0)) := by rw [D3.out.block _ (by have := HS.out; omega)]; exact HX.out
  have e3 : w3.cell? ⟨w.heap.size, 5, none⟩ = some (.slice A5 times.length c5) := by rw [cell_of_row _ _ _ _ _ _ k3]; rfl
  clear d3 r3 k3
  by_cases n3 : x3 < 0
  · go_wp2
    go_ret
    exact ⟨-1, rfl, by omega, by omega, by omega, HB.out.trans (D3.out.mono HB.out.size)⟩
  go_wp2_with fail
  go_at_call 32
  refine Calls.mono (C4.out w3 x3 (by omega) q3) ?_
  rintro e w4 ⟨x4, rfl, p4, q4, r4, d4⟩
  have D4 := Lib.hid (D3.out.trans (d4.mono D3.out.size))
  have R4 := Lib.hid r4
  clear d4 r4
  by_cases n4 : x4 < 0
  · go_wp2
    go_ret
    exact ⟨-1, rfl, by omega, by omega, by omega, HB.out.trans (D4.out.mono HB.out.size)⟩
  · go_wp2
    go_ret
    exact ⟨x4, rfl, by omega, by omega, fun _ => ⟨R1.out (by omega), R2.out (by omega), R3.out (by omega), R4.out (by omega)⟩, HB.out.trans (D4.out.mono HB.out.size)⟩

end Go.Proofs.YtfhpkcamigkmdaaDoor.W
namespace Go.Proofs.YtfhpkcamigkmdaaDoor.W
open Go.RowKit K R

theorem ent_info : (Tryd.prog.info? 83).map (fun i => (i.zero, i.size, i.bytes)) = some (some (.agg #[.string ⟨#[]⟩, .int .i64 0, .bool false, .int .i64 0]), 4, 40) := by kernel_rfl
theorem made_E (n : Nat) : (madeCells #[.string ⟨#[]⟩, .int .i64 0, .bool false, .int .i64 0] (n * 4)).toList = cellsE (List.replicate n blankE) := by
  apply List.ext_getElem?
  intro m
  by_cases hm : m < n * 4
  · have hi : m / 4 < (List.replicate n blankE).length := by rw [List.length_replicate]; omega
    have hr := cellsE_at hi (m % 4) (by omega)
    rw [show m / 4 * 4 + m % 4 = m by omega, List.getElem_replicate] at hr
    rw [hr]
    unfold madeCells
    simp only [Array.toList_map, List.getElem?_map, Array.toList_range, List.getElem?_range hm, Option.map_some]
    have h4 : m % 4 = 0 ∨ m % 4 = 1 ∨ m % 4 = 2 ∨ m % 4 = 3 := by omega
    show some ((#[Value.string ⟨#[]⟩, .int .i64 0, .bool false, .int .i64 0] : Array Value)[m % 4]!) = _
    rcases h4 with h | h | h | h <;> rw [h] <;> rfl
  · rw [List.getElem?_eq_none (by rw [Array.length_toList, size_madeCells]; omega), List.getElem?_eq_none (by rw [cellsE_len, List.length_replicate]; omega)]
theorem rowBelow {E : TypeId} {sz : Nat} {w w' : World} {base n : Nat} {v : Value} {cs : List Value} (h : w.ownsRow base E sz v n cs) (hb : Below w.heap.size w w') : w'.ownsRow base E sz v n cs := by
  refine ⟨h.1, ?_⟩
  rcases h.2 with hn | ⟨g, cap, cur, hv, hbg, hg, rest⟩
  · exact .inl hn
  · exact .inr ⟨g, cap, cur, hv, hbg, by rw [hb.block g (Array.getElem?_eq_some_iff.1 hg).1]; exact hg, rest⟩
/-- a new slice of entries -/
def NewE (w : World) (l : List En) (e : Ending) (w' : World) : Prop := ∃ g c, e = .returned (.slice (some ⟨g, 0, none⟩) l.length c) ∧ w'.ownsRow w.heap.size 83 4 (.slice (some ⟨g, 0, none⟩) l.length c) l.length (cellsE l) ∧ Below w.heap.size w w'

set_option maxHeartbeats 4000000 in
theorem copyE (w : World) (B n c : Nat) (A : Option Addr) (l : List En) (hr : Ents w B A n l) (hB : B ≤ w.heap.size) (hn : n ≤ 1048576) :
    Calls Tryd.prog 37 #[.slice A n c] w (NewE w l) := by
  have hlen := hr.len
  subst hlen
  have HR := Lib.hid hr
  clear hr
  obtain ⟨i0, hi, hz0, hz1, hz2⟩ := info_parts ent_info
  go_enter Tryd.func37, Tryd.ntmps37
  go_wp2_with (at_make; refine wpList_make_full w rfl (.tmp 6) (.tmp 6) 22 rfl w.heap.size 83 i0 (.agg #[.string ⟨#[]⟩, .int .i64 0, .bool false, .int .i64 0]) 4 Tryd.underlying22 hi hz0 hz1 .i64 .i64 _ _ l.length rfl rfl rfl rfl (by rw [hz2]; omega) (by unfold maxLen; omega) (Nat.le_refl _) ?_; intro w1 ho1 hg1)
  have HO1 := Lib.hid (show w1.ownsRow w.heap.size 83 4 (.slice (some ⟨w.heap.size, 0, none⟩) l.length l.length) l.length (cellsE (List.replicate l.length blankE)) by rw [← made_E]; exact ho1)
  have HB1 := Lib.hid ((Below.refl w.heap.size w).grown hg1 (Nat.le_refl _) (fun k e => by cases e))
  clear ho1 hg1 hi hz0 hz1 hz2
  go_wp2_with fail
  go_loopw [4] (fun i wr => ∃ k : Nat, k ≤ l.length ∧ i = .int .i64 (k : Nat) ∧ wr.ownsRow w.heap.size 83 4 (.slice (some ⟨w.heap.size, 0, none⟩) l.length l.length) l.length (cellsE (l.take k ++ List.replicate (l.length - k) blankE)) ∧ Below w.heap.size w wr) (fun i _ => l.length - (intOf i).toNat)
  case atStart => exact ⟨0, Nat.zero_le _, rfl, by simpa using HO1.out, HB1.out⟩
  case round =>
    obtain ⟨k, hk, rfl, ho, hb⟩ := hrel
    have HO := Lib.hid ho
    have HB := Lib.hid hb
    clear ho hb HO1 HB1
    by_cases hlt : k < l.length
    · obtain ⟨kb, ko, hA, hbB, c0, c1, c2, c3⟩ := (HR.out.below HB.out hB).cell k hlt
      subst hA
      obtain ⟨x0, h0⟩ : ∃ y, y = l[k].key := ⟨_, rfl⟩
      obtain ⟨x1, h1⟩ : ∃ y, y = l[k].val := ⟨_, rfl⟩
      obtain ⟨x2, h2⟩ : ∃ y, y = l[k].gone := ⟨_, rfl⟩
      obtain ⟨x3, h3⟩ : ∃ y, y = l[k].time := ⟨_, rfl⟩
      rw [← h0] at c0
      rw [← h1] at c1
      rw [← h2] at c2
      rw [← h3] at c3
      have z0 : (0 : Int) ≤ (k : Int) := by omega
      have z1 : (k : Int) < (l.length : Int) := by omega
      have hwlt := (World.ownsRow.lt HO.out w.heap.size rfl).2
      have HT := Lib.hid (show Calls Tryd.prog 59 #[.agg #[.string x0, .int .i64 x1, .bool x2, .int .i64 x3]] wr fun e w' => e = .returned (.agg #[.string x0, .int .i64 x1, .bool x2, .int .i64 x3]) ∧ Below wr.heap.size wr w' from toEn x0 x1 x2 x3 wr)
      have HE := Lib.hid (show l[k] = ⟨x0, x1, x2, x3⟩ by rw [h0, h1, h2, h3])
      clear h0 h1 h2 h3
      go_wp2_with fail
      go_at_call 59
      refine HT.out.mono ?_
      rintro e w5 ⟨rfl, hb5⟩
      have HO5 := Lib.hid (rowBelow HO.out hb5)
      have HB5 := Lib.hid (HB.out.trans (hb5.mono HB.out.size))
      have hll : k < (l.take k ++ List.replicate (l.length - k) blankE).length := by rw [List.length_append, List.length_take, List.length_replicate]; omega
      clear hb5
      have q0 := rowGet HO5.out (i := k * 4) (by rw [show k * 4 = k * 4 + 0 from rfl, cellsE_at hll 0 (by omega)]; rfl)
      have q1 := rowGet HO5.out (i := k * 4 + 1) (by rw [cellsE_at hll 1 (by omega)]; rfl)
      have q2 := rowGet HO5.out (i := k * 4 + 2) (by rw [cellsE_at hll 2 (by omega)]; rfl)
      have q3 := rowGet HO5.out (i := k * 4 + 3) (by rw [cellsE_at hll 3 (by omega)]; rfl)
      have f0 := rowFree HO5.out (k * 4)
      have f1 := rowFree HO5.out (k * 4 + 1)
      have f2 := rowFree HO5.out (k * 4 + 2)
      have f3 := rowFree HO5.out (k * 4 + 3)
      have hst := cellsE_set hll ⟨x0, x1, x2, x3⟩
      rw [← HE.out, copyE_step hlt, HE.out] at hst
      have HST := Lib.hid hst
      clear hst c0 c1 c2 c3
      go_wp2
      go_roundw
      case rel =>
        refine ⟨k + 1, by omega, by go_num, ?_, (((HB5.out.setCell (p := ⟨w.heap.size, k * 4, none⟩) (Nat.le_refl _) _).setCell (p := ⟨w.heap.size, k * 4 + 1, none⟩) (Nat.le_refl _) _).setCell (p := ⟨w.heap.size, k * 4 + 2, none⟩) (Nat.le_refl _) _).setCell (p := ⟨w.heap.size, k * 4 + 3, none⟩) (Nat.le_refl _) _⟩
        rw [← HST.out]
        exact rowSet (rowSet (rowSet (rowSet HO5.out (k * 4) _) (k * 4 + 1) _) (k * 4 + 2) _) (k * 4 + 3) _
      case measure => simp [intOf]; omega
    · have hke : k = l.length := by omega
      subst hke
      go_wp2
      go_ret
      exact ⟨_, _, rfl, by simpa using HO.out, HB.out⟩

end Go.Proofs.YtfhpkcamigkmdaaDoor.W
