/-
  What the laws of deeds draw: a deed, some spoilt.
-/
import Derived.Test.YtklphdomjhliaaaDoorHJ
namespace Go.Proofs.YtklphdomjhliaaaDoor.W
open Go.RowKit K R B

def DeedA (w : World) (e : Ending) (w' : World) : Prop :=
  ∃ (k num : Int) (key : ByteArray), key.size ≤ 6 ∧ e = .returned (.agg #[.int .i64 k, .string key, .int .i64 num]) ∧ Below w.heap.size w w'
theorem Bytes.on {w w' : World} {B B' n : Nat} {A : Option Addr} (h : Bytes w B A n) (hb : Below B w w') (hB : B ≤ B') : Bytes w' B' A n := fun i hi => by
  obtain ⟨b, off, z, hA, hbb, hz, hc⟩ := h i hi
  exact ⟨b, off, z, hA, by omega, hz, (hb.cell (p := ⟨b, off + i, none⟩) hbb).trans hc⟩
/-- the two boxes of DrawDeedText, and its reader -/
structure DrT (w W : World) (g q n c d : Nat) (A : Option Addr) (k : Int) (key : ByteArray) (num : Int) : Prop where
  rd : Rd W g q A n c
  box : W.heap[w.heap.size]? = some (.cells #[.int .i64 0, .string ⟨#[]⟩, .int .i64 0] 24 (0, 0))
  dbox : W.heap[d]? = some (.cells #[.int .i64 k, .string key, .int .i64 num] 24 (0, 0))
  bel : Below w.heap.size w W
  g0 : w.heap.size < g
  gd : g < d
theorem DrT.go {w W W' : World} {g q q' n c d : Nat} {A : Option Addr} {k : Int} {key : ByteArray} {num : Int} (h : DrT w W g q n c d A k key num) (hr : Rd W' g q' A n c) (hg : W.grownBy W' (some g)) : DrT w W' g q' n c d A k key num := by
  have a := h.g0; have b := h.gd
  have hh : ∀ i, i < W.heap.size → i ≠ g → W'.heap[i]? = W.heap[i]? := fun i hi hn => hg.block i hi (fun e => by injection e with e; omega)
  exact ⟨hr, (hh _ (Array.getElem?_eq_some_iff.1 h.box).1 (by omega)).trans h.box, (hh _ (Array.getElem?_eq_some_iff.1 h.dbox).1 (by omega)).trans h.dbox, h.bel.trans (grown_bW hg (by omega) h.bel.size), a, b⟩
theorem DrT.alloc {w W : World} {g q n c d : Nat} {A : Option Addr} {k : Int} {key : ByteArray} {num : Int} (h : DrT w W g q n c d A k key num) (o : Obj) : DrT w (W.alloc o) g q n c d A k key num :=
  ⟨h.rd.alloc o, (heap_alloc_old _ _ (Array.getElem?_eq_some_iff.1 h.box).1).trans h.box, (heap_alloc_old _ _ (Array.getElem?_eq_some_iff.1 h.dbox).1).trans h.dbox, h.bel.alloc h.bel.size _, h.g0, h.gd⟩
theorem DrT.putW {w W : World} {g q n c d i : Nat} {A : Option Addr} {k k2 : Int} {key key2 : ByteArray} {num num2 : Int} (h : DrT w W g q n c d A k key num) (u : Value) (hd : (W.setCell ⟨d, i, none⟩ u).heap[d]? = some (.cells #[.int .i64 k2, .string key2, .int .i64 num2] 24 (0, 0))) : DrT w (W.setCell ⟨d, i, none⟩ u) g q n c d A k2 key2 num2 := by
  have a := h.g0; have b := h.gd
  exact ⟨h.rd.put b u, (heap_setCell_other _ _ _ _ (show w.heap.size ≠ d by omega)).trans h.box, hd, h.bel.setCell (show w.heap.size ≤ d by omega) _, a, b⟩
theorem DrT.done {w W : World} {g q n c d : Nat} {A : Option Addr} {k : Int} {key : ByteArray} {num : Int} (h : DrT w W g q n c d A k key num) (x0 x1 x2 : Value) :
    Below w.heap.size w (((W.setCell ⟨w.heap.size, 0, none⟩ x0).setCell ⟨w.heap.size, 1, none⟩ x1).setCell ⟨w.heap.size, 2, none⟩ x2) :=
  ((h.bel.setCell (Nat.le_refl _) _).setCell (Nat.le_refl _) _).setCell (Nat.le_refl _) _
theorem rowD (W : World) (d : Nat) (i : Nat) (u : Value) (cs cs2 : Array Value) (h : W.heap[d]? = some (.cells cs 24 (0, 0))) (he : cs.setIfInBounds i u = cs2) : (W.setCell ⟨d, i, none⟩ u).heap[d]? = some (.cells cs2 24 (0, 0)) := by
  rw [heap_setCell_same W d i _ _ u h, he]

set_option maxHeartbeats 8000000 in
set_option maxRecDepth 100000 in
theorem drawDeedText (w : World) (A : Option Addr) (n c : Nat) (hb : Bytes w w.heap.size A n) (hnc : n ≤ c) (hc : c ≤ maxLen) :
    Calls Tryd.prog 8 #[.slice A n c] w (DeedA w) := by
  obtain ⟨W0, hW0⟩ : ∃ W, W = w.alloc (.cells #[.int .i64 0, .string ⟨#[]⟩, .int .i64 0] 24) := ⟨_, rfl⟩
  have hB0 : Below w.heap.size w W0 := by rw [hW0]; exact (Below.refl _ _).alloc (Nat.le_refl _) _
  have hx0 : W0.heap[w.heap.size]? = some (.cells #[.int .i64 0, .string ⟨#[]⟩, .int .i64 0] 24 (0, 0)) := by rw [hW0]; exact heap_alloc_new _ _
  have hs0 : W0.heap.size = w.heap.size + 1 := by rw [hW0]; simp
  have HOP := Lib.hid (openR W0 A n c (hb.on hB0 (by omega)) hnc hc)
  have HS0 := Lib.hid hs0
  have HB0 := Lib.hid hB0
  have HX0 := Lib.hid hx0
  have HW0 := Lib.hid hW0
  clear hb hW0 hB0 hx0 hs0
  go_enter Tryd.func8, Tryd.ntmps8
  go_upto_region 1 with fail
  rw [← HW0.out]
  go_wp2_with fail
  go_at_call 17
  refine Calls.mono HOP.out ?_
  rintro e w1 ⟨A1, n1, c1, rfl, hr1, hb1⟩
  have hg1 := (Array.getElem?_eq_some_iff.1 hr1.blk).1
  have HR1 := Lib.hid hr1
  have HB1 := Lib.hid hb1
  clear hr1 hb1 HOP
  have hne : w1.heap.size ≠ W0.heap.size := by omega
  have HNE := Lib.hid hne
  clear hne hg1
  go_wp2_with fail
  go_at_call 18
  refine Calls.mono (deedDr _ W0.heap.size 0 n1 c1 w1.heap.size A1 (HR1.out.alloc _) (by omega) HNE.out) ?_
  rintro e w2 ⟨k, num, key, p2, hks, hp2, rfl, hr2, hg2⟩
  have DT := Lib.hid (show DrT w (w2.alloc (.cells #[.int .i64 k, .string key, .int .i64 num] 24)) W0.heap.size p2 n1 c1 w2.heap.size A1 k key num from by
    have hs2 := hg2.size
    have hs0 := HS0.out
    have hg1 := (Array.getElem?_eq_some_iff.1 HR1.out.blk).1
    have hbA := (HB1.out.alloc (o := .cells #[] 9) (by omega))
    have hb2 : Below w.heap.size w w2 := (HB0.out.trans (hbA.mono (by omega))).trans (grown_bW hg2 (by omega) (by simp; omega))
    simp only [World.size_alloc] at hs2
    refine ⟨hr2.alloc _, ?_, heap_alloc_new _ _, hb2.alloc hb2.size _, by omega, by omega⟩
    rw [heap_alloc_old _ _ (by omega), hg2.block _ (by simp; omega) (fun e => by injection e with e; omega), heap_alloc_old _ _ (by omega), HB1.out.block _ (by omega)]
    exact HX0.out)
  clear hr2 hg2
  go_upto_region 3 with fail
  obtain ⟨d, hd⟩ : ∃ d, d = w2.heap.size := ⟨_, rfl⟩
  obtain ⟨W3, hW3⟩ : ∃ W, W = w2.alloc (.cells #[.int .i64 k, .string key, .int .i64 num] 24) := ⟨_, rfl⟩
  rw [← hW3] at DT ⊢
  rw [← hd] at DT ⊢
  clear hW3 hd HR1 HB1 HB0 HX0 HW0 HNE
  obtain ⟨G, hG⟩ : ∃ G, G = W0.heap.size := ⟨_, rfl⟩
  rw [← hG] at DT ⊢
  clear hG HS0
  go_wp2_with fail
  go_at_call 19
  refine Calls.mono (pick W3 G p2 n1 c1 A1 12 DT.out.rd (by omega) (by omega)) ?_
  rintro e w4 ⟨x, rfl, hx0, hx1, hr4, hg4⟩
  have D4 := Lib.hid (DT.out.go hr4 hg4)
  clear hr4 hg4 DT
  by_cases x0 : x = 0
  · subst x0
    have hgA : G < w4.heap.size := (Array.getElem?_eq_some_iff.1 D4.out.rd.blk).1
    go_wp2_with fail
    go_at_call 19
    refine Calls.mono (pick _ G (p2 + 1) n1 c1 A1 3 (D4.out.alloc _).rd (by omega) (by omega)) ?_
    rintro e w5 ⟨y, rfl, hy0, hy1, hr5, hg5⟩
    have D5 := Lib.hid ((D4.out.alloc _).go hr5 hg5)
    have hc5 : ∀ i, w5.cell? ⟨w4.heap.size, i, none⟩ = (#[.int .i64 (-1), .int .i64 1000, .int .i64 5] : Array Value)[i]? := fun i => by
      rw [World.cell?_of_block (hg5.block w4.heap.size (by simp) (fun e => by injection e with e; omega)), cell_of_row _ _ _ _ _ _ (heap_alloc_new _ _)]
    have k0 := hc5 0
    have k1 := hc5 1
    have k2 := hc5 2
    simp only [List.getElem?_toArray, List.getElem?_cons_zero, List.getElem?_cons_succ] at k0 k1 k2
    have f0' := fun j => frozen_of_row w5 d j _ _ D5.out.dbox
    obtain ⟨b0', b1', b2'⟩ := cells_three D5.out.dbox
    clear hr5 hg5 hc5
    have hy : y = 0 ∨ y = 1 ∨ y = 2 := by omega
    clear hy0 hy1 hx0 hx1
    rcases hy with rfl | rfl | rfl
    · go_upto_region 10 with fail
      have D6 := Lib.hid (D5.out.putW (.int .i64 (-1)) (rowD w5 d 2 _ _ _ D5.out.dbox rfl))
      obtain ⟨W6, hW6⟩ : ∃ W, W = w5.setCell ⟨d, 2, none⟩ (.int .i64 (-1)) := ⟨_, rfl⟩
      rw [← hW6] at D6 ⊢
      clear hW6 b0' b1' b2' f0' k0 k1 k2
      obtain ⟨b0', b1', b2'⟩ := cells_three D6.out.dbox
      obtain ⟨a0', a1', a2'⟩ := cells_three D6.out.box
      have f0' := fun j => frozen_of_row W6 w.heap.size j _ _ D6.out.box
      go_wp2
      refine bodyPost_ret (v := .agg #[.int .i64 k, .string key, .int .i64 (-1)]) ?_ rfl ⟨k, (-1), key, hks, rfl, D6.out.done _ _ _⟩
      exact results_cell_row rfl _ _ w.heap.size 24 _ (0, 0) _ rfl (box_three D6.out.box _ _ _) Tryd.underlying24 rfl (by kernel_rfl)
    · go_upto_region 10 with fail
      have D6 := Lib.hid (D5.out.putW (.int .i64 1000) (rowD w5 d 2 _ _ _ D5.out.dbox rfl))
      obtain ⟨W6, hW6⟩ : ∃ W, W = w5.setCell ⟨d, 2, none⟩ (.int .i64 1000) := ⟨_, rfl⟩
      rw [← hW6] at D6 ⊢
      clear hW6 b0' b1' b2' f0' k0 k1 k2
      obtain ⟨b0', b1', b2'⟩ := cells_three D6.out.dbox
      obtain ⟨a0', a1', a2'⟩ := cells_three D6.out.box
      have f0' := fun j => frozen_of_row W6 w.heap.size j _ _ D6.out.box
      go_wp2
      refine bodyPost_ret (v := .agg #[.int .i64 k, .string key, .int .i64 1000]) ?_ rfl ⟨k, 1000, key, hks, rfl, D6.out.done _ _ _⟩
      exact results_cell_row rfl _ _ w.heap.size 24 _ (0, 0) _ rfl (box_three D6.out.box _ _ _) Tryd.underlying24 rfl (by kernel_rfl)
    · go_upto_region 10 with fail
      have D6 := Lib.hid (D5.out.putW (.int .i64 5) (rowD w5 d 2 _ _ _ D5.out.dbox rfl))
      obtain ⟨W6, hW6⟩ : ∃ W, W = w5.setCell ⟨d, 2, none⟩ (.int .i64 5) := ⟨_, rfl⟩
      rw [← hW6] at D6 ⊢
      clear hW6 b0' b1' b2' f0' k0 k1 k2
      obtain ⟨b0', b1', b2'⟩ := cells_three D6.out.dbox
      obtain ⟨a0', a1', a2'⟩ := cells_three D6.out.box
      have f0' := fun j => frozen_of_row W6 w.heap.size j _ _ D6.out.box
      go_wp2
      refine bodyPost_ret (v := .agg #[.int .i64 k, .string key, .int .i64 5]) ?_ rfl ⟨k, 5, key, hks, rfl, D6.out.done _ _ _⟩
      exact results_cell_row rfl _ _ w.heap.size 24 _ (0, 0) _ rfl (box_three D6.out.box _ _ _) Tryd.underlying24 rfl (by kernel_rfl)
  by_cases x1 : x = 1
  · subst x1
    go_wp2_with fail
    go_at_call 20
    have hgA : G < w4.heap.size := (Array.getElem?_eq_some_iff.1 D4.out.rd.blk).1
    refine Calls.mono (ofR (fun s => s.size ≤ 1) _ G (p2 + 1) n1 c1 w4.heap.size 2 A1 (D4.out.alloc _).rd (by omega) (by omega) (by omega) (by omega) (lits_at w4 [⟨#[120]⟩, ⟨#[97]⟩] _ (fun s => s.size ≤ 1) (by decide)) (by simp)) ?_
    rintro e w5 ⟨t, ht, rfl, hr5, hg5⟩
    have D5 := Lib.hid ((D4.out.alloc _).go hr5 hg5)
    have f0' := fun j => frozen_of_row w5 d j _ _ D5.out.dbox
    obtain ⟨b0', b1', b2'⟩ := cells_three D5.out.dbox
    clear hr5 hg5 hx0 hx1
    go_upto_region 10 with fail
    have D6 := Lib.hid (D5.out.putW (.string t) (rowD w5 d 1 _ _ _ D5.out.dbox rfl))
    obtain ⟨W6, hW6⟩ : ∃ W, W = w5.setCell ⟨d, 1, none⟩ (.string t) := ⟨_, rfl⟩
    rw [← hW6] at D6 ⊢
    clear hW6 b0' b1' b2' f0'
    obtain ⟨b0', b1', b2'⟩ := cells_three D6.out.dbox
    obtain ⟨a0', a1', a2'⟩ := cells_three D6.out.box
    have f0' := fun j => frozen_of_row W6 w.heap.size j _ _ D6.out.box
    go_wp2
    refine bodyPost_ret (v := .agg #[.int .i64 k, .string t, .int .i64 num]) ?_ rfl ⟨k, num, t, by omega, rfl, D6.out.done _ _ _⟩
    exact results_cell_row rfl _ _ w.heap.size 24 _ (0, 0) _ rfl (box_three D6.out.box _ _ _) Tryd.underlying24 rfl (by kernel_rfl)
  by_cases x2 : x = 2
  · subst x2
    go_wp2_with fail
    go_at_call 19
    refine Calls.mono (pick _ G (p2 + 1) n1 c1 A1 9 D4.out.rd (by omega) (by omega)) ?_
    rintro e w5 ⟨y, rfl, hy0, hy1, hr5, hg5⟩
    have D5 := Lib.hid (D4.out.go hr5 hg5)
    have f0' := fun j => frozen_of_row w5 d j _ _ D5.out.dbox
    obtain ⟨b0', b1', b2'⟩ := cells_three D5.out.dbox
    clear hr5 hg5 hx0 hx1
    go_upto_region 10 with fail
    have D6 := Lib.hid (D5.out.putW (.int .i64 (y - 1)) (rowD w5 d 0 _ _ _ D5.out.dbox rfl))
    obtain ⟨W6, hW6⟩ : ∃ W, W = w5.setCell ⟨d, 0, none⟩ (.int .i64 (y - 1)) := ⟨_, rfl⟩
    rw [← hW6] at D6 ⊢
    clear hW6 b0' b1' b2' f0'
    obtain ⟨b0', b1', b2'⟩ := cells_three D6.out.dbox
    obtain ⟨a0', a1', a2'⟩ := cells_three D6.out.box
    have f0' := fun j => frozen_of_row W6 w.heap.size j _ _ D6.out.box
    go_wp2
    refine bodyPost_ret (v := .agg #[.int .i64 (y - 1), .string key, .int .i64 num]) ?_ rfl ⟨y - 1, num, key, hks, rfl, D6.out.done _ _ _⟩
    exact results_cell_row rfl _ _ w.heap.size 24 _ (0, 0) _ rfl (box_three D6.out.box _ _ _) Tryd.underlying24 rfl (by kernel_rfl)
  obtain ⟨b0', b1', b2'⟩ := cells_three D4.out.dbox
  obtain ⟨a0', a1', a2'⟩ := cells_three D4.out.box
  have f0' := fun j => frozen_of_row w4 w.heap.size j _ _ D4.out.box
  clear hx0 hx1
  go_wp2
  refine bodyPost_ret (v := .agg #[.int .i64 k, .string key, .int .i64 num]) ?_ rfl ⟨k, num, key, hks, rfl, D4.out.done _ _ _⟩
  exact results_cell_row rfl _ _ w.heap.size 24 _ (0, 0) _ rfl (box_three D4.out.box _ _ _) Tryd.underlying24 rfl (by kernel_rfl)
end Go.Proofs.YtklphdomjhliaaaDoor.W
