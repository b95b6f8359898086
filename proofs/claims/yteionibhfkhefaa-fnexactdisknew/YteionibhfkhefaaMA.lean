/-
  Writes of blocks in memory: the cells of a write, a slice of writes; their size, a copy of them in new memory, and marks, as an exact law reckons them.
-/
import Derived.Test.YteionibhfkhefaaJ3
import Derived.Test.YteionibhfkhefaaE8
import Derived.Test.YteionibhfkhefaaEF
namespace Go.Proofs.Yteionibhfkhefaa.W
open Go.RowKit K R

/-- a write: of which block, and what -/
structure Mv where
  pos : Int
  text : ByteArray
/-- a slice of writes reads as l, in blocks below B -/
structure Movs (w : World) (B : Nat) (A : Option Addr) (n : Nat) (l : List Mv) : Prop where
  len : l.length = n
  cell : ∀ i (h : i < l.length), ∃ b off : Nat, A = some ⟨b, off, none⟩ ∧ b < B ∧ w.cell? ⟨b, off + i * 2, none⟩ = some (.int .i64 l[i].pos) ∧ w.cell? ⟨b, off + i * 2 + 1, none⟩ = some (.string l[i].text)
theorem Movs.below {w w' : World} {B B' n : Nat} {A : Option Addr} {l : List Mv} (h : Movs w B A n l) (hb : Below B' w w') (hB : B ≤ B') : Movs w' B A n l :=
  ⟨h.len, fun i hi => by
    obtain ⟨b, off, hA, hlt, c0, c1⟩ := h.cell i hi
    have hlt' : b < B' := Nat.lt_of_lt_of_le hlt hB
    exact ⟨b, off, hA, hlt, (hb.cell (p := ⟨b, off + i * 2, none⟩) hlt').trans c0, (hb.cell (p := ⟨b, off + i * 2 + 1, none⟩) hlt').trans c1⟩⟩
theorem Movs.more {w : World} {B B' n : Nat} {A : Option Addr} {l : List Mv} (h : Movs w B A n l) (hB : B ≤ B') : Movs w B' A n l :=
  ⟨h.len, fun i hi => by
    obtain ⟨b, off, hA, hlt, r⟩ := h.cell i hi
    exact ⟨b, off, hA, Nat.lt_of_lt_of_le hlt hB, r⟩⟩

set_option maxHeartbeats 2000000 in
theorem szMv (p : Int) (k : ByteArray) (x : Int) (w : World) (hx0 : 0 ≤ x) (hx1 : x ≤ 1048576) (hk : k.size ≤ maxLen) :
    Calls Try.prog 19 #[.agg #[.int .i64 p, .string k], .int .i64 x] w fun e w' => e = .returned (.int .i64 (if x - k.size < 0 then -1 else x - k.size)) ∧ Below w.heap.size w w' := by
  unfold maxLen at hk
  obtain ⟨y, hy⟩ : ∃ y : Int, y = x - k.size := ⟨_, rfl⟩
  have hw : IntKind.i64.wrap (x - (k.size : Int)) = y := by rw [hy]; exact i64_z _ (by omega) (by omega)
  rw [← hy]
  clear hy
  by_cases h : y < 0
  · rw [if_pos h]
    go_enter Try.func19, Try.ntmps19
    go_wp2
    go_ret
    exact ⟨rfl, (Below.refl _ _).alloc (Nat.le_refl _) _⟩
  · rw [if_neg h]
    go_enter Try.func19, Try.ntmps19
    go_wp2
    go_ret
    exact ⟨rfl, (Below.refl _ _).alloc (Nat.le_refl _) _⟩

/-- how much is left, or that it is too much -/
def SizedM (l : List Mv) (w : World) (e : Ending) (w' : World) : Prop :=
  ∃ x : Int, e = .returned (.int .i64 x) ∧ -1 ≤ x ∧ x ≤ 1048576 ∧ (0 ≤ x → l.length ≤ 1048576 ∧ ∀ e ∈ l, e.text.size ≤ 1048576) ∧ Below w.heap.size w w'

set_option maxHeartbeats 4000000 in
theorem szMvS (w : World) (B n c : Nat) (A : Option Addr) (l : List Mv) (x : Int) (hx0 : 0 ≤ x) (hx1 : x ≤ 1048576) (hr : Movs w B A n l) (hB : B ≤ w.heap.size) (hn : n ≤ maxLen) (hf : ∀ e ∈ l, e.text.size ≤ maxLen) :
    Calls Try.prog 11 #[.slice A n c, .int .i64 x] w (SizedM l w) := by
  have hlen := hr.len
  subst hlen
  unfold maxLen at hn
  have HR := Lib.hid hr
  have HF := Lib.hid hf
  clear hr hf
  obtain ⟨y, hy⟩ : ∃ y : Int, y = x - (l.length : Int) := ⟨_, rfl⟩
  have hw : IntKind.i64.wrap (x - (l.length : Int)) = y := by rw [hy]; exact i64_z _ (by omega) (by omega)
  by_cases h : y < 0
  · clear hy
    go_enter Try.func11, Try.ntmps11
    go_wp2
    go_ret
    exact ⟨-1, rfl, by omega, by omega, by omega, Below.refl _ _⟩
  · have HY := Lib.hid hy
    clear hy
    go_enter Try.func11, Try.ntmps11
    go_wp2_with fail
    go_loopw [1, 5] (fun s i wr => ∃ (k : Nat) (x : Int), k ≤ l.length ∧ i = .int .i64 (k : Nat) ∧ s = .int .i64 x ∧ 0 ≤ x ∧ x ≤ 1048576 ∧ (∀ i (h : i < l.length), i < k → l[i].text.size ≤ 1048576) ∧ Below w.heap.size w wr) (fun _ i _ => l.length - (intOf i).toNat)
    case atStart => exact ⟨0, y, Nat.zero_le _, rfl, rfl, by omega, by have := HY.out; omega, fun i h1 h2 => by omega, Below.refl _ _⟩
    case round =>
      obtain ⟨k, x, hk, rfl, rfl, hx0, hx1, hsm, hbl⟩ := hrel
      have HBL := Lib.hid hbl
      have HSM := Lib.hid hsm
      clear hbl hsm
      by_cases hlt : k < l.length
      · obtain ⟨kb, ko, hA, hkb, c0, c1⟩ := HR.out.cell k hlt
        subst hA
        have hkb' : kb < w.heap.size := Nat.lt_of_lt_of_le hkb hB
        have r0 := (HBL.out.cell (p := ⟨kb, ko + k * 2, none⟩) hkb').trans c0
        have r1 := (HBL.out.cell (p := ⟨kb, ko + k * 2 + 1, none⟩) hkb').trans c1
        have hks := HF.out _ (List.getElem_mem hlt)
        obtain ⟨x0, h0⟩ : ∃ y, y = l[k].pos := ⟨_, rfl⟩
        obtain ⟨x1, h1⟩ : ∃ y, y = l[k].text := ⟨_, rfl⟩
        rw [← h0] at r0
        rw [← h1] at r1 hks
        have H1 := Lib.hid h1
        have z0 : (0 : Int) ≤ (k : Int) := by omega
        have z1 : (k : Int) < (l.length : Int) := by omega
        obtain ⟨u, hu⟩ : ∃ u : Int, u = if x - (x1.size : Int) < 0 then -1 else x - (x1.size : Int) := ⟨_, rfl⟩
        have HZ := Lib.hid (show ∀ W : World, Calls Try.prog 19 #[.agg #[.int .i64 x0, .string x1], .int .i64 x] W fun e w' => e = .returned (.int .i64 u) ∧ Below W.heap.size W w' from fun W => by rw [hu]; exact szMv x0 x1 x W hx0 hx1 hks)
        have HU := Lib.hid hu
        clear hu h0 h1 c0 c1
        by_cases hneg : u < 0
        · go_wp2_with (go_at_call 19; refine Calls.mono (HZ.out _) ?_; rintro e w5 ⟨rfl, hb5⟩; have HB5 := Lib.hid (HBL.out.trans (hb5.mono HBL.out.size)); clear hb5)
          go_ret
          exact ⟨-1, rfl, by omega, by omega, by omega, HB5.out⟩
        · have hu2 : x1.size ≤ 1048576 ∧ u ≤ 1048576 := by
            have := HU.out
            split at this <;> omega
          go_wp2_with (go_at_call 19; refine Calls.mono (HZ.out _) ?_; rintro e w5 ⟨rfl, hb5⟩; have HB5 := Lib.hid (HBL.out.trans (hb5.mono HBL.out.size)); clear hb5)
          go_roundw
          case rel =>
            refine ⟨k + 1, u, by omega, by go_num, rfl, by omega, hu2.2, fun i hi h => ?_, HB5.out⟩
            by_cases e : i = k
            · subst e; rw [← H1.out]; exact hu2.1
            · exact HSM.out i hi (by omega)
          case measure => simp [intOf]; omega
      · have hke : k = l.length := by omega
        subst hke
        go_wp2
        go_ret
        refine ⟨x, rfl, by omega, by omega, fun _ => ⟨by have := HY.out; omega, fun e he => ?_⟩, HBL.out⟩
        obtain ⟨i, hi, rfl⟩ := List.getElem_of_mem he
        exact HSM.out i hi hi

theorem move_size : (Try.prog.info? 40).map (·.size) = some 2 := by kernel_rfl
set_option maxHeartbeats 2000000 in
theorem toMv (p : Int) (k : ByteArray) (w : World) :
    Calls Try.prog 21 #[.agg #[.int .i64 p, .string k]] w fun e w' => e = .returned (.agg #[.int .i64 p, .string k]) ∧ Below w.heap.size w w' := by
  go_enter Try.func21, Try.ntmps21
  go_wp2
  refine bodyPost_ret (v := .agg #[.int .i64 p, .string k]) ?_ rfl ⟨rfl, ?_⟩
  · refine results_cell_row rfl _ _ (w.heap.size + 1) 40 #[.int .i64 p, .string k] (0, 0) _ rfl ?_ Try.underlying40 rfl move_size
    rw [Below.heap_alloc _ _ _ (by simp)]
    have := heap_alloc_new (w.alloc (.cells #[.int .i64 p, .string k] 39)) (.cells #[.int .i64 p, .string k] 40)
    rw [World.size_alloc] at this
    exact this
  · exact (two_below' w _ _).alloc (by simp; omega) _

/-- the cells of a write -/
def mvC (e : Mv) : List Value := [.int .i64 e.pos, .string e.text]
def cellsM (l : List Mv) : List Value := l.flatMap mvC
theorem cellsM_len (l : List Mv) : (cellsM l).length = l.length * 2 := by
  unfold cellsM
  induction l with
  | nil => rfl
  | cons e t ih => rw [List.flatMap_cons, List.length_append, ih, List.length_cons]; show 2 + t.length * 2 = _; omega
theorem cellsM_split {l : List Mv} {i : Nat} (h : i < l.length) : cellsM l = cellsM (l.take i) ++ (mvC l[i] ++ cellsM (l.drop (i + 1))) := by
  have e : l = l.take i ++ l[i] :: l.drop (i + 1) := by rw [List.getElem_cons_drop, List.take_append_drop]
  conv => lhs; rw [e]
  unfold cellsM
  rw [List.flatMap_append, List.flatMap_cons]
theorem cellsM_at {l : List Mv} {i : Nat} (h : i < l.length) (j : Nat) (hj : j < 2) : (cellsM l)[i * 2 + j]? = (mvC l[i])[j]? := by
  have hl : (cellsM (l.take i)).length = i * 2 := by rw [cellsM_len, List.length_take, Nat.min_eq_left (by omega)]
  rw [cellsM_split h, List.getElem?_append_right (by omega), hl, Nat.add_sub_cancel_left, List.getElem?_append_left (by show j < 2; exact hj)]
theorem cellsM_set {l : List Mv} {i : Nat} (h : i < l.length) (e : Mv) :
    (((cellsM l).set (i * 2) (.int .i64 e.pos)).set (i * 2 + 1) (.string e.text)) = cellsM (l.set i e) := by
  have hl : (cellsM (l.take i)).length = i * 2 := by rw [cellsM_len, List.length_take, Nat.min_eq_left (by omega)]
  have h2 : cellsM (l.set i e) = cellsM (l.take i) ++ (mvC e ++ cellsM (l.drop (i + 1))) := by
    rw [cellsM_split (by rw [List.length_set]; exact h), List.take_set, List.set_eq_of_length_le (by rw [List.length_take]; omega), List.drop_set, if_pos (by omega)]
    simp
  rw [h2, cellsM_split h]
  rw [List.set_append_right _ _ (by omega), List.set_append_right _ _ (by omega), hl]
  simp only [Nat.sub_self, Nat.add_sub_cancel_left]
  unfold mvC
  rfl
/-- the slice v holds the writes l, in a row of the call's own, from block 'base' on -/
abbrev OwnM (w : World) (base : Nat) (v : Value) (l : List Mv) : Prop := w.ownsRow base 40 2 v l.length (cellsM l)
theorem OwnM.movs {w : World} {base g n c : Nat} {l : List Mv} (h : w.ownsRow base 40 2 (.slice (some ⟨g, 0, none⟩) n c) n (cellsM l)) (hn : l.length = n) : Movs w w.heap.size (some ⟨g, 0, none⟩) n l :=
  ⟨hn, fun i hi => by
    have hlt := (World.ownsRow.lt h g rfl).2
    refine ⟨g, 0, rfl, hlt, ?_, ?_⟩
    · rw [Nat.zero_add]; exact rowGet h (by rw [show i * 2 = i * 2 + 0 from rfl, cellsM_at hi 0 (by omega)]; rfl)
    · rw [Nat.zero_add]; exact rowGet h (by rw [cellsM_at hi 1 (by omega)]; rfl)⟩
def blankM : Mv := ⟨0, ⟨#[]⟩⟩
theorem copyM_step {l : List Mv} {k : Nat} (h : k < l.length) : (l.take k ++ List.replicate (l.length - k) blankM).set k l[k] = l.take (k + 1) ++ List.replicate (l.length - (k + 1)) blankM := by
  have hl : (l.take k).length = k := by rw [List.length_take]; omega
  rw [show l.length - k = (l.length - (k + 1)) + 1 by omega, List.replicate_succ, List.set_append_right _ _ (by omega), hl, Nat.sub_self, List.set_cons_zero, List.take_succ_eq_append_getElem h, List.append_assoc]
  rfl
theorem mov_info : (Try.prog.info? 40).map (fun i => (i.zero, i.size, i.bytes)) = some (some (.agg #[.int .i64 0, .string ⟨#[]⟩]), 2, 24) := by kernel_rfl
theorem made_M (n : Nat) : (madeCells #[.int .i64 0, .string ⟨#[]⟩] (n * 2)).toList = cellsM (List.replicate n blankM) := by
  apply List.ext_getElem?
  intro m
  by_cases hm : m < n * 2
  · have hi : m / 2 < (List.replicate n blankM).length := by rw [List.length_replicate]; omega
    have hr := cellsM_at hi (m % 2) (by omega)
    rw [show m / 2 * 2 + m % 2 = m by omega, List.getElem_replicate] at hr
    rw [hr]
    unfold madeCells
    simp only [Array.toList_map, List.getElem?_map, Array.toList_range, List.getElem?_range hm, Option.map_some]
    have h4 : m % 2 = 0 ∨ m % 2 = 1 := by omega
    show some ((#[.int .i64 0, Value.string ⟨#[]⟩] : Array Value)[m % 2]!) = _
    rcases h4 with h | h <;> rw [h] <;> rfl
  · rw [List.getElem?_eq_none (by rw [Array.length_toList, size_madeCells]; omega), List.getElem?_eq_none (by rw [cellsM_len, List.length_replicate]; omega)]
/-- a new slice of writes -/
def NewM (w : World) (l : List Mv) (e : Ending) (w' : World) : Prop := ∃ g c, e = .returned (.slice (some ⟨g, 0, none⟩) l.length c) ∧ w'.ownsRow w.heap.size 40 2 (.slice (some ⟨g, 0, none⟩) l.length c) l.length (cellsM l) ∧ Below w.heap.size w w'

set_option maxHeartbeats 4000000 in
theorem copyM (w : World) (B n c : Nat) (A : Option Addr) (l : List Mv) (hr : Movs w B A n l) (hB : B ≤ w.heap.size) (hn : n ≤ 1048576) :
    Calls Try.prog 14 #[.slice A n c] w (NewM w l) := by
  have hlen := hr.len
  subst hlen
  have HR := Lib.hid hr
  clear hr
  obtain ⟨i0, hi, hz0, hz1, hz2⟩ := info_parts mov_info
  go_enter Try.func14, Try.ntmps14
  go_wp2_with (at_make; refine wpList_make_full w rfl (.tmp 6) (.tmp 6) 31 rfl w.heap.size 40 i0 (.agg #[.int .i64 0, .string ⟨#[]⟩]) 2 Try.underlying31 hi hz0 hz1 .i64 .i64 _ _ l.length rfl rfl rfl rfl (by rw [hz2]; omega) (by unfold maxLen; omega) (Nat.le_refl _) ?_; intro w1 ho1 hg1)
  have HO1 := Lib.hid (show w1.ownsRow w.heap.size 40 2 (.slice (some ⟨w.heap.size, 0, none⟩) l.length l.length) l.length (cellsM (List.replicate l.length blankM)) by rw [← made_M]; exact ho1)
  have HB1 := Lib.hid ((Below.refl w.heap.size w).grown hg1 (Nat.le_refl _) (fun k e => by cases e))
  clear ho1 hg1 hi hz0 hz1 hz2
  go_wp2_with fail
  go_loopw [4] (fun i wr => ∃ k : Nat, k ≤ l.length ∧ i = .int .i64 (k : Nat) ∧ wr.ownsRow w.heap.size 40 2 (.slice (some ⟨w.heap.size, 0, none⟩) l.length l.length) l.length (cellsM (l.take k ++ List.replicate (l.length - k) blankM)) ∧ Below w.heap.size w wr) (fun i _ => l.length - (intOf i).toNat)
  case atStart => exact ⟨0, Nat.zero_le _, rfl, by simpa using HO1.out, HB1.out⟩
  case round =>
    obtain ⟨k, hk, rfl, ho, hb⟩ := hrel
    have HO := Lib.hid ho
    have HB := Lib.hid hb
    clear ho hb HO1 HB1
    by_cases hlt : k < l.length
    · obtain ⟨kb, ko, hA, hbB, c0, c1⟩ := (HR.out.below HB.out hB).cell k hlt
      subst hA
      obtain ⟨x0, h0⟩ : ∃ y, y = l[k].pos := ⟨_, rfl⟩
      obtain ⟨x1, h1⟩ : ∃ y, y = l[k].text := ⟨_, rfl⟩
      rw [← h0] at c0
      rw [← h1] at c1
      have z0 : (0 : Int) ≤ (k : Int) := by omega
      have z1 : (k : Int) < (l.length : Int) := by omega
      have hwlt := (World.ownsRow.lt HO.out w.heap.size rfl).2
      have HT := Lib.hid (show Calls Try.prog 21 #[.agg #[.int .i64 x0, .string x1]] wr fun e w' => e = .returned (.agg #[.int .i64 x0, .string x1]) ∧ Below wr.heap.size wr w' from toMv x0 x1 wr)
      have HE := Lib.hid (show l[k] = ⟨x0, x1⟩ by rw [h0, h1])
      clear h0 h1
      go_wp2_with fail
      go_at_call 21
      refine HT.out.mono ?_
      rintro e w5 ⟨rfl, hb5⟩
      have HO5 := Lib.hid (rowBelow HO.out hb5)
      have HB5 := Lib.hid (HB.out.trans (hb5.mono HB.out.size))
      have hll : k < (l.take k ++ List.replicate (l.length - k) blankM).length := by rw [List.length_append, List.length_take, List.length_replicate]; omega
      clear hb5
      have q0 := rowGet HO5.out (i := k * 2) (by rw [show k * 2 = k * 2 + 0 from rfl, cellsM_at hll 0 (by omega)]; rfl)
      have q1 := rowGet HO5.out (i := k * 2 + 1) (by rw [cellsM_at hll 1 (by omega)]; rfl)
      have f0 := rowFree HO5.out (k * 2)
      have f1 := rowFree HO5.out (k * 2 + 1)
      have hst := cellsM_set hll ⟨x0, x1⟩
      rw [← HE.out, copyM_step hlt, HE.out] at hst
      have HST := Lib.hid hst
      clear hst c0 c1
      go_wp2
      go_roundw
      case rel =>
        refine ⟨k + 1, by omega, by go_num, ?_, ((HB5.out.setCell (p := ⟨w.heap.size, k * 2, none⟩) (Nat.le_refl _) _).setCell (p := ⟨w.heap.size, k * 2 + 1, none⟩) (Nat.le_refl _) _)⟩
        rw [← HST.out]
        exact rowSet (rowSet HO5.out (k * 2) _) (k * 2 + 1) _
      case measure => simp [intOf]; omega
    · have hke : k = l.length := by omega
      subst hke
      go_wp2
      go_ret
      exact ⟨_, _, rfl, by simpa using HO.out, HB.out⟩

set_option maxHeartbeats 4000000 in
set_option maxRecDepth 100000 in
theorem markM (w : World) (base g n c K0 : Nat) (cs : List Value) (ho : w.ownsRow base 40 2 (.slice (some ⟨g, 0, none⟩) n c) n cs) (hn : n ≤ 1048576) (hK0 : 0 < K0) (hK : K0 ≤ 1000000000) :
    Calls Try.prog 17 #[.slice (some ⟨g, 0, none⟩) n c, .int .i64 ((K0 : Nat) : Int)] w fun e w' => e = .returned (.int .i64 ((K0 + 2 * n : Nat) : Int)) ∧ w.grownBy w' (some g) := by
  have HO := Lib.hid ho
  clear ho
  obtain ⟨Z0, hZ0⟩ : ∃ Z0 : Int, Z0 = ((K0 : Nat) : Int) := ⟨_, rfl⟩
  rw [← hZ0]
  have HZ0 := Lib.hid hZ0
  clear hZ0
  go_enter Try.func17, Try.ntmps17
  go_wp2_with fail
  go_loopw [1, 5] (fun kv i wr => ∃ (k : Nat) (z : Int) (cs : List Value), k ≤ n ∧ i = .int .i64 (k : Nat) ∧ kv = .int .i64 z ∧ z = ((K0 + 2 * k : Nat) : Int) ∧ wr.ownsRow base 40 2 (.slice (some ⟨g, 0, none⟩) n c) n cs ∧ w.grownBy wr (some g)) (fun _ i _ => n - (intOf i).toNat)
  case atStart => exact ⟨0, Z0, cs, Nat.zero_le _, rfl, rfl, HZ0.out, HO.out, World.grownBy.refl _ _⟩
  case round =>
    obtain ⟨k, z, cs, hk, rfl, rfl, hz, hor, hgr⟩ := hrel
    have HGR := Lib.hid hgr
    have HOR := Lib.hid hor
    clear hor hgr HO
    by_cases hlt : k < n
    · have z0 : (0 : Int) ≤ (k : Int) := by omega
      have z1 : (k : Int) < (n : Int) := by omega
      obtain ⟨u1, hu1⟩ : ∃ u : Int, u = z + 1 := ⟨_, rfl⟩
      obtain ⟨u2, hu2⟩ : ∃ u : Int, u = z + 2 := ⟨_, rfl⟩
      have HMT := Lib.hid (show ∀ W : World, Calls Try.prog 18 #[.int .i64 u1] W fun e w' => e = .returned (.string (markB (K0 + 2 * k + 1))) ∧ Below W.heap.size W w' from fun W => by rw [show u1 = ((K0 + 2 * k + 1 : Nat) : Int) by omega]; exact markT (K0 + 2 * k + 1) W (by omega) (by omega))
      have e1 : IntKind.i64.wrap (z + 1) = u1 := by rw [hu1]; exact i64_z _ (by omega) (by omega)
      have e2 : IntKind.i64.wrap (u1 + 1) = u2 := by rw [show u1 + 1 = u2 by omega]; exact i64_z _ (by omega) (by omega)
      have HU2 := Lib.hid (show u2 = ((K0 + 2 * (k + 1) : Nat) : Int) by omega)
      clear hz hu1 hu2
      have hcl : cs.length = n * 2 := HOR.out.1
      obtain ⟨v0, a0⟩ := rowSome (cs := cs) (i := k * 2) (by omega)
      have q0 := rowGet HOR.out a0
      have f0 := rowFree HOR.out (k * 2)
      clear a0
      go_wp2_with fail
      go_at_call 18
      refine Calls.mono (HMT.out _) ?_
      rintro e w2 ⟨rfl, hb2⟩
      have HO2 := Lib.hid (rowBelow (rowSet HOR.out (k * 2) (.int .i64 z)) hb2)
      have HG2 := Lib.hid (grown_below_row (grown_set HGR.out (k * 2) (.int .i64 z)) hb2)
      obtain ⟨v1, a1⟩ := rowSome (cs := cs.set (k * 2) (.int .i64 z)) (i := k * 2 + 1) (by rw [List.length_set]; omega)
      have q1 := rowGet HO2.out a1
      have f1 := rowFree HO2.out (k * 2 + 1)
      clear hb2 a1 q0 f0
      go_wp2
      go_roundw
      case rel =>
        exact ⟨k + 1, u2, _, by omega, by go_num, rfl, HU2.out, rowSet HO2.out (k * 2 + 1) _, grown_set HG2.out _ _⟩
      case measure => simp [intOf]; omega
    · have hke : k = n := by omega
      subst hke
      go_wp2
      go_ret
      exact ⟨by rw [← hz]; rfl, HGR.out⟩

end Go.Proofs.Yteionibhfkhefaa.W
