/-
  The program's StoreOk; the exact law of StoreOk, as a walk over the contracts.
  What a law is told of a slice of entries that came in: it can be read, and each key is a string that Go can hold.
  What a law is told of a store that came in: it can be read, and all its strings are such as Go can hold.
-/
import Derived.Test.YtfhpkcamigkmdaaDoorKB
import Derived.Test.YtfhpkcamigkmdaaDoorZAA
import Derived.Test.YtfhpkcamigkmdaaDoorZAK
import Derived.Test.YtfhpkcamigkmdaaDoorJ3
import Derived.Deep.RegionHeld3
import Derived.ProofKit
import Derived.OpenShut
import Derived.ShutString
import Derived.SliceStrings
namespace Go.Proofs.YtfhpkcamigkmdaaDoor.W
open Go.RowKit K R

theorem StM.own {w w' : World} {B : Nat} {A0 A1 A2 A5 : Option Addr} {c0 c1 c2 c5 : Nat} {s : Sto} (h : StM w B A0 A1 A2 A5 c0 c1 c2 c5 s) (hb : Below w.heap.size w w') (hB : B ≤ w.heap.size) : StM w' w'.heap.size A0 A1 A2 A5 c0 c1 c2 c5 s :=
  (h.below (hb.mono hB) (Nat.le_refl _)).more (Nat.le_trans hB hb.size)
set_option maxHeartbeats 2000000 in
theorem storeOkI (w : World) (A0 A1 A2 A5 : Option Addr) (c0 c1 c2 c5 : Nat) (s : Sto) (hr : StM w w.heap.size A0 A1 A2 A5 c0 c1 c2 c5 s) (hsm : smallSt s) (hE : NoRoom w) :
    Calls Tryd.prog 13 #[stV A0 A1 A2 A5 c0 c1 c2 c5 s] w (Tells s w) := by
  obtain ⟨top, levels, sieves, keep, time, times⟩ := s
  obtain ⟨W0, hW0⟩ : ∃ W0, W0 = w.alloc (.cells #[.slice A0 top.length c0, .slice A1 levels.length c1, .slice A2 sieves.length c2, .int .i64 keep, .int .i64 time, .slice A5 times.length c5] 27) := ⟨_, rfl⟩
  have hbw : Below w.heap.size w W0 := by rw [hW0]; exact (Below.refl _ _).alloc (Nat.le_refl _) _
  have HO := Lib.hid (openI W0 A0 A1 A2 A5 c0 c1 c2 c5 ⟨top, levels, sieves, keep, time, times⟩ (hr.own hbw (Nat.le_refl _)) hsm (hE.below hbw))
  have HB := Lib.hid hbw
  have HW0 := Lib.hid hW0
  clear hr hsm hE hbw hW0
  simp only [stV] at *
  go_enter Tryd.func13, Tryd.ntmps13
  go_wp2_with fail
  rw [← HW0.out]
  go_at_call 41
  refine Calls.mono HO.out ?_
  rintro e w1 ⟨p, b, rfl, hb, hb1⟩
  have HBB := Lib.hid hb
  have HB1 := Lib.hid hb1
  clear hb hb1
  go_wp2
  go_ret
  exact ⟨b, rfl, HBB.out, HB.out.trans (HB1.out.mono HB.out.size)⟩

/-- a new store reads as one -/
theorem OwnSt.reads {w : World} {base g0 g1 g2 g5 c0 c1 c2 c5 : Nat} {vs1 vs2 : List Value} {s : Sto} (h : OwnSt w base (.slice (some ⟨g0, 0, none⟩) s.top.length c0) (.slice (some ⟨g1, 0, none⟩) s.levels.length c1) (.slice (some ⟨g2, 0, none⟩) s.sieves.length c2) (.slice (some ⟨g5, 0, none⟩) s.times.length c5) vs1 vs2 s) :
    StM w w.heap.size (some ⟨g0, 0, none⟩) (some ⟨g1, 0, none⟩) (some ⟨g2, 0, none⟩) (some ⟨g5, 0, none⟩) c0 c1 c2 c5 s := by
  have cap : ∀ {E : TypeId} {sz g n c : Nat} {cs : List Value}, w.ownsRow base E sz (.slice (some ⟨g, 0, none⟩) n c) n cs → n ≤ c ∧ c ≤ maxLen := fun {E sz g n c cs} hh => by
    rcases hh.2 with ⟨hv, -⟩ | ⟨g', c', cur, hv, -, -, h1, h2, -, -⟩
    · cases hv
    · injection hv with _ _ e3
      subst e3
      exact ⟨h1, h2⟩
  exact ⟨OwnE.ents h.top rfl, h.levels.lvls, h.sieves.svs, OwnN.nums h.times rfl, cap h.top, cap h.levels.row, cap h.sieves.row, cap h.times⟩

set_option maxHeartbeats 4000000 in
theorem exactStoreOk (w : World) (A0 A1 A2 A5 : Option Addr) (c0 c1 c2 c5 : Nat) (s : Sto) (hr : StM w w.heap.size A0 A1 A2 A5 c0 c1 c2 c5 s) (hf : fitSt s) (hE : NoRoom w) :
    Calls Tryd.prog 4 #[stV A0 A1 A2 A5 c0 c1 c2 c5 s] w fun e w' => e = .returned (.bool true) ∧ Below w.heap.size w w' := by
  obtain ⟨top, levels, sieves, keep, time, times⟩ := s
  obtain ⟨W0, hW0⟩ : ∃ W0, W0 = w.alloc (.cells #[.slice A0 top.length c0, .slice A1 levels.length c1, .slice A2 sieves.length c2, .int .i64 keep, .int .i64 time, .slice A5 times.length c5] 37) := ⟨_, rfl⟩
  have hbw : Below w.heap.size w W0 := by rw [hW0]; exact (Below.refl _ _).alloc (Nat.le_refl _) _
  have hs0 : W0.heap.size = w.heap.size + 1 := by rw [hW0]; simp
  have x0 : W0.heap[w.heap.size]? = some (.cells #[.slice A0 top.length c0, .slice A1 levels.length c1, .slice A2 sieves.length c2, .int .i64 keep, .int .i64 time, .slice A5 times.length c5] 37 (0, 0)) := by rw [hW0]; exact heap_alloc_new _ _
  have HBX := Lib.hid (show ∀ W, Below W0.heap.size W0 W → _ from fun W hW => st_cells ((hW.block w.heap.size (by omega)).trans x0))
  have HZ := Lib.hid (szSt W0 A0 A1 A2 A5 c0 c1 c2 c5 ⟨top, levels, sieves, keep, time, times⟩ (hr.own hbw (Nat.le_refl _)) hf)
  have HR := Lib.hid (show ∀ W, Below W0.heap.size W0 W → StM W W.heap.size A0 A1 A2 A5 c0 c1 c2 c5 ⟨top, levels, sieves, keep, time, times⟩ from fun W hW => hr.own (hbw.trans (hW.mono hbw.size)) (Nat.le_refl _))
  have HE := Lib.hid (show ∀ W, Below W0.heap.size W0 W → NoRoom W from fun W hW => hE.below (hbw.trans (hW.mono hbw.size)))
  have HCP := Lib.hid (show smallSt ⟨top, levels, sieves, keep, time, times⟩ → ∀ W, Below W0.heap.size W0 W → Calls Tryd.prog 12 #[stV A0 A1 A2 A5 c0 c1 c2 c5 ⟨top, levels, sieves, keep, time, times⟩] W (NewSt W ⟨top, levels, sieves, keep, time, times⟩) from fun hss W hW => copySt W A0 A1 A2 A5 c0 c1 c2 c5 ⟨top, levels, sieves, keep, time, times⟩ (HR.out W hW) hss)
  have hev : stV A0 A1 A2 A5 c0 c1 c2 c5 ⟨top, levels, sieves, keep, time, times⟩ = .agg #[.slice A0 top.length c0, .slice A1 levels.length c1, .slice A2 sieves.length c2, .int .i64 keep, .int .i64 time, .slice A5 times.length c5] := rfl
  rw [hev] at HZ HCP
  have hgoal : stV A0 A1 A2 A5 c0 c1 c2 c5 ⟨top, levels, sieves, keep, time, times⟩ = .agg #[.slice A0 top.length c0, .slice A1 levels.length c1, .slice A2 sieves.length c2, .int .i64 keep, .int .i64 time, .slice A5 times.length c5] := rfl
  rw [hgoal]
  have HB := Lib.hid hbw
  have HW0 := Lib.hid hW0
  clear hr hf hE hbw hW0 hs0 x0 hev hgoal
  go_enter Tryd.func4, Tryd.ntmps4
  go_wp2_with fail
  rw [← HW0.out]
  go_at_call 10
  refine Calls.mono HZ.out ?_
  rintro e w1 ⟨x, rfl, hx0, hx1, hx2, hb1⟩
  have HB1 := Lib.hid hb1
  clear hb1
  obtain ⟨b0, b1', b2', b3, b4, b5⟩ := HBX.out w1 HB1.out
  by_cases hneg : x < 0
  · clear hx2
    go_wp2
    go_ret
    exact ⟨rfl, HB.out.trans (HB1.out.mono HB.out.size)⟩
  have HSM := Lib.hid (hx2 (by omega))
  clear hx2
  go_wp2_with fail
  go_at_call 12
  refine Calls.mono (HCP.out HSM.out w1 HB1.out) ?_
  rintro e w2 ⟨g0, g1, g2, g5, k0, k1, k2, k5, vs1, vs2, rfl, ho, hb⟩
  simp only [stV]
  have HS2 := Lib.hid ho.reads
  have HB2 := Lib.hid (HB1.out.trans (hb.mono HB1.out.size))
  clear ho hb
  go_wp2_with fail
  go_at_call 11
  refine Calls.mono (okSt w2 _ _ _ _ k0 k1 k2 k5 ⟨top, levels, sieves, keep, time, times⟩ HS2.out HSM.out) ?_
  rintro e w3 ⟨b1, rfl, hbb1, hb⟩
  have HQ1 := Lib.hid hbb1
  have HB3 := Lib.hid (HB2.out.trans (hb.mono HB2.out.size))
  clear hbb1 hb HS2 b0 b1' b2' b3 b4 b5
  obtain ⟨b0, b1', b2', b3, b4, b5⟩ := HBX.out w3 HB3.out
  go_wp2_with fail
  go_at_call 12
  refine Calls.mono (HCP.out HSM.out w3 HB3.out) ?_
  rintro e w4 ⟨h0, h1, h2, h5, j0, j1, j2, j5, us1, us2, rfl, ho, hb⟩
  simp only [stV]
  obtain ⟨W4, hW4⟩ : ∃ W, W = w4.alloc (.cells #[.slice (some ⟨h0, 0, none⟩) top.length j0, .slice (some ⟨h1, 0, none⟩) levels.length j1, .slice (some ⟨h2, 0, none⟩) sieves.length j2, .int .i64 keep, .int .i64 time, .slice (some ⟨h5, 0, none⟩) times.length j5] 27) := ⟨_, rfl⟩
  have hb4 : Below w4.heap.size w4 W4 := by rw [hW4]; exact (Below.refl _ _).alloc (Nat.le_refl _) _
  have x4 : W4.heap[w4.heap.size]? = some (.cells #[.slice (some ⟨h0, 0, none⟩) top.length j0, .slice (some ⟨h1, 0, none⟩) levels.length j1, .slice (some ⟨h2, 0, none⟩) sieves.length j2, .int .i64 keep, .int .i64 time, .slice (some ⟨h5, 0, none⟩) times.length j5] 27 (0, 0)) := by rw [hW4]; exact heap_alloc_new _ _
  have hl4 := (Array.getElem?_eq_some_iff.1 x4).1
  have HX4 := Lib.hid (show ∀ W, Below W4.heap.size W4 W → _ from fun W hW => st_cells ((hW.block w4.heap.size hl4).trans x4))
  have HS4 := Lib.hid (ho.reads.own hb4 (Nat.le_refl _))
  have hb04 := HB3.out.trans (hb.mono HB3.out.size)
  have HB4 := Lib.hid (hb04.trans (hb4.mono hb04.size))
  have HW4 := Lib.hid hW4
  clear ho hb hW4 hb4 x4 hl4 hb04
  go_wp2_with fail
  rw [← HW4.out]
  go_at_call 13
  refine Calls.mono (storeOkI W4 _ _ _ _ j0 j1 j2 j5 ⟨top, levels, sieves, keep, time, times⟩ HS4.out HSM.out (HE.out W4 HB4.out)) ?_
  rintro e w5 ⟨b2, rfl, hbb2, hb⟩
  have hbe : b2 = b1 := by rw [Bool.eq_iff_iff]; exact hbb2.trans HQ1.out.symm
  subst hbe
  have HB5 := Lib.hid (HB4.out.trans (hb.mono HB4.out.size))
  have HS5 := Lib.hid (HS4.out.own hb (Nat.le_refl _))
  have HB45 := Lib.hid hb
  clear hbb2 hb HS4 HQ1
  have HR5 := Lib.hid (Below.refl w5.heap.size w5)
  have HSS := Lib.hid (show ∀ W, Below w5.heap.size w5 W → (fun W : World => (W.cell? ⟨w4.heap.size, 0, none⟩ = some (.slice (some ⟨h0, 0, none⟩) top.length j0) ∧ W.cell? ⟨w4.heap.size, 1, none⟩ = some (.slice (some ⟨h1, 0, none⟩) levels.length j1) ∧ W.cell? ⟨w4.heap.size, 2, none⟩ = some (.slice (some ⟨h2, 0, none⟩) sieves.length j2) ∧ W.cell? ⟨w4.heap.size, 3, none⟩ = some (.int .i64 keep) ∧ W.cell? ⟨w4.heap.size, 4, none⟩ = some (.int .i64 time) ∧ W.cell? ⟨w4.heap.size, 5, none⟩ = some (.slice (some ⟨h5, 0, none⟩) times.length j5)) ∧ (W.cell? ⟨w.heap.size, 0, none⟩ = some (.slice A0 top.length c0) ∧ W.cell? ⟨w.heap.size, 1, none⟩ = some (.slice A1 levels.length c1) ∧ W.cell? ⟨w.heap.size, 2, none⟩ = some (.slice A2 sieves.length c2) ∧ W.cell? ⟨w.heap.size, 3, none⟩ = some (.int .i64 keep) ∧ W.cell? ⟨w.heap.size, 4, none⟩ = some (.int .i64 time) ∧ W.cell? ⟨w.heap.size, 5, none⟩ = some (.slice A5 times.length c5))) W from fun W hW => ⟨HX4.out W (HB45.out.trans (hW.mono HB45.out.size)), HBX.out W (HB5.out.trans (hW.mono HB5.out.size))⟩)
  have HTC := Lib.hid (show ∀ W, Below w5.heap.size w5 W → Calls Tryd.prog 12 #[.agg #[.slice A0 top.length c0, .slice A1 levels.length c1, .slice A2 sieves.length c2, .int .i64 keep, .int .i64 time, .slice A5 times.length c5]] W fun e w' => ∃ i0 i1 i2 i5 l0 l1 l2 l5, e = .returned (.agg #[.slice (some ⟨i0, 0, none⟩) top.length l0, .slice (some ⟨i1, 0, none⟩) levels.length l1, .slice (some ⟨i2, 0, none⟩) sieves.length l2, .int .i64 keep, .int .i64 time, .slice (some ⟨i5, 0, none⟩) times.length l5]) ∧ StM w' w'.heap.size (some ⟨i0, 0, none⟩) (some ⟨i1, 0, none⟩) (some ⟨i2, 0, none⟩) (some ⟨i5, 0, none⟩) l0 l1 l2 l5 ⟨top, levels, sieves, keep, time, times⟩ ∧ Below w5.heap.size w5 w' from fun W hW => by
    refine (HCP.out HSM.out W (HB5.out.trans (hW.mono HB5.out.size))).mono ?_
    rintro e w' ⟨i0, i1, i2, i5, l0, l1, l2, l5, ws1, ws2, he, ho, hb⟩
    exact ⟨i0, i1, i2, i5, l0, l1, l2, l5, he, ho.reads, hW.trans (hb.mono hW.size)⟩)
  have HEQ := Lib.hid (show ∀ W i0 i1 i2 i5 l0 l1 l2 l5, StM W W.heap.size (some ⟨i0, 0, none⟩) (some ⟨i1, 0, none⟩) (some ⟨i2, 0, none⟩) (some ⟨i5, 0, none⟩) l0 l1 l2 l5 ⟨top, levels, sieves, keep, time, times⟩ → Below w5.heap.size w5 W → Calls Tryd.prog 7 #[.agg #[.slice (some ⟨h0, 0, none⟩) top.length j0, .slice (some ⟨h1, 0, none⟩) levels.length j1, .slice (some ⟨h2, 0, none⟩) sieves.length j2, .int .i64 keep, .int .i64 time, .slice (some ⟨h5, 0, none⟩) times.length j5], .agg #[.slice (some ⟨i0, 0, none⟩) top.length l0, .slice (some ⟨i1, 0, none⟩) levels.length l1, .slice (some ⟨i2, 0, none⟩) sieves.length l2, .int .i64 keep, .int .i64 time, .slice (some ⟨i5, 0, none⟩) times.length l5]] W fun e w' => e = .returned (.bool true) ∧ Below w5.heap.size w5 w' from fun W i0 i1 i2 i5 l0 l1 l2 l5 hS hW =>
    (eqSt W _ _ _ _ _ _ _ _ j0 j1 j2 j5 l0 l1 l2 l5 ⟨top, levels, sieves, keep, time, times⟩ (HS5.out.own hW (Nat.le_refl _)) hS).mono fun _ _ ⟨x, y⟩ => ⟨x, hW.trans (y.mono hW.size)⟩)
  clear b0 b1' b2' b3 b4 b5
  obtain ⟨⟨y0, y1, y2, y3, y4, y5⟩, b0, b1', b2', b3, b4, b5⟩ := HSS.out w5 HR5.out
  cases b2
  all_goals
    go_upto_region 10 with fail
    go_region_held3 (fun W : World => (W.cell? ⟨w4.heap.size, 0, none⟩ = some (.slice (some ⟨h0, 0, none⟩) top.length j0) ∧ W.cell? ⟨w4.heap.size, 1, none⟩ = some (.slice (some ⟨h1, 0, none⟩) levels.length j1) ∧ W.cell? ⟨w4.heap.size, 2, none⟩ = some (.slice (some ⟨h2, 0, none⟩) sieves.length j2) ∧ W.cell? ⟨w4.heap.size, 3, none⟩ = some (.int .i64 keep) ∧ W.cell? ⟨w4.heap.size, 4, none⟩ = some (.int .i64 time) ∧ W.cell? ⟨w4.heap.size, 5, none⟩ = some (.slice (some ⟨h5, 0, none⟩) times.length j5)) ∧ (W.cell? ⟨w.heap.size, 0, none⟩ = some (.slice A0 top.length c0) ∧ W.cell? ⟨w.heap.size, 1, none⟩ = some (.slice A1 levels.length c1) ∧ W.cell? ⟨w.heap.size, 2, none⟩ = some (.slice A2 sieves.length c2) ∧ W.cell? ⟨w.heap.size, 3, none⟩ = some (.int .i64 keep) ∧ W.cell? ⟨w.heap.size, 4, none⟩ = some (.int .i64 time) ∧ W.cell? ⟨w.heap.size, 5, none⟩ = some (.slice A5 times.length c5))) (exact HSS.out _ (by first | exact HB7.out | exact HB6.out | exact bel2 HR5.out (by rfl) (by rfl) (by rfl) (by rfl))) (first | (go_at_call 12; refine Calls.mono (HTC.out _ (by first | exact HB7.out | exact HB6.out | exact bel2 HR5.out (by rfl) (by rfl) (by rfl) (by rfl))) ?_; rintro e w6 ⟨i0, i1, i2, i5, l0, l1, l2, l5, rfl, hs6, hb6⟩; have HB6 := Lib.hid hb6; have HS6 := Lib.hid hs6; clear hb6 hs6) | (go_at_call 7; refine Calls.mono (HEQ.out _ _ _ _ _ _ _ _ _ HS6.out HB6.out) ?_; rintro e w7 ⟨rfl, hb7⟩; have HB7 := Lib.hid hb7; clear hb7))
    all_goals
      go_wp2
      go_ret
      exact ⟨rfl, HB.out.trans ((HB5.out.trans (HB7.out.mono HB5.out.size)).mono HB.out.size)⟩

end Go.Proofs.YtfhpkcamigkmdaaDoor.W
namespace Go.Proofs.YtfhpkcamigkmdaaDoor.W
open Go.ChangeShapes Go.WideShapes Go.ChangeAt Go.RowKit K R

def IsEnts (w : World) (A : Option Addr) (n c : Nat) (l : List En) : Prop := Ents w w.heap.size A n l ∧ n ≤ c ∧ c ≤ maxLen ∧ ∀ e ∈ l, e.key.size ≤ maxLen
theorem enl_cells : Tryd.prog.cellsOf 88 = 4 := by kernel_rfl
theorem str1_cells : Tryd.prog.cellsOf 9 = 1 := by kernel_rfl
theorem bool1_cells : Tryd.prog.cellsOf 4 = 1 := by kernel_rfl
theorem int1_cells : Tryd.prog.cellsOf 3 = 1 := by kernel_rfl
theorem add_n (b off i : Nat) : (⟨b, off, none⟩ : Addr).add i = ⟨b, off + i, none⟩ := by unfold Addr.add; split <;> simp_all
theorem list_of {α : Type} {P : Nat → α → Prop} : ∀ n, (∀ i, i < n → ∃ e, P i e) → ∃ l : List α, l.length = n ∧ ∀ i (h : i < l.length), P i l[i]
  | 0, _ => ⟨[], rfl, fun i h => absurd h (Nat.not_lt_zero _)⟩
  | n + 1, h => by
    obtain ⟨l, h1, h2⟩ := list_of n fun i hi => h i (by omega)
    obtain ⟨e, he⟩ := h n (by omega)
    refine ⟨l ++ [e], by simp [h1], fun i hi => ?_⟩
    by_cases hin : i < l.length
    · rw [List.getElem_append_left hin]; exact h2 i hin
    · rw [List.length_append, List.length_singleton] at hi
      have : i = l.length := by omega
      subst this
      rw [List.getElem_append_right (Nat.le_refl _)]
      simp
      rw [h1]; exact he

set_option maxRecDepth 100000 in
theorem open_ents {H : Type} {enc : TypeId × Value → H} {W : World} {base : Nat} {spare : Nat → Bool} {held : Bool} {fuel : Nat} {cs : List Value} {x : DataW H × List MemPlace}
    (h : DataW.trod enc Tryd.prog W base spare held fuel 33 cs = some x) :
    cs = [.slice none 0 0] ∨ ∃ (a : Addr) (len cap : Nat) (l : List En), cs = [.slice (some a) len cap] ∧ IsEnts W (some a) len cap l := by
  rcases DataW.trod_slice Tryd.underlying33 h with ⟨h0, -⟩ | ⟨a, len, cap, elems, rest, n, -, rfl, -, hb, hl, hm, hlen, hel, -, -⟩
  · exact .inl h0
  · refine .inr ⟨a, len, cap, ?_⟩
    have each : ∀ i, i < len → ∃ e : En, e.key.size ≤ maxLen ∧ W.cell? ((a.add (i * 4)).add 0) = some (.string e.key) ∧ W.cell? ((a.add (i * 4)).add 1) = some (.int .i64 e.val) ∧ W.cell? ((a.add (i * 4)).add 2) = some (.bool e.gone) ∧ W.cell? ((a.add (i * 4)).add 3) = some (.int .i64 e.time) := by
      intro i hi
      have hb' := hel i hi
      rw [enl_cells, List.getElem?_eq_getElem (by omega), Option.bind_eq_some_iff] at hb'
      obtain ⟨cs', hc, ht⟩ := hb'
      obtain ⟨xs, n', -, -, hcl, hxl, hg⟩ := DataW.trod_struct Tryd.underlying88 ht
      rw [enl_cells] at hcl
      have hxl4 : xs.length = 4 := hxl
      have hcell := World.cells?_some hc
      match cs', hcl, xs, hxl4 with
      | [c0, c1, c2, c3], _, [x0, x1, x2, x3], _ =>
        have g0 := hg 0 _ rfl
        have g1 := hg 1 _ rfl
        have g2 := hg 2 _ rfl
        have g3 := hg 3 _ rfl
        simp [str1_cells] at g0
        simp [int1_cells] at g1 g3
        simp [bool1_cells] at g2
        obtain ⟨k, hk, -, hks⟩ := DataW.trod_string Tryd.underlying9 g0
        obtain ⟨v, hv, -, -⟩ := DataW.trod_int Tryd.underlying3 g1
        obtain ⟨b, hbb, -⟩ := DataW.trod_bool Tryd.underlying4 g2
        obtain ⟨t, htt, -, -⟩ := DataW.trod_int Tryd.underlying3 g3
        simp only [List.cons.injEq, and_true] at hk hv hbb htt
        subst hk hv hbb htt
        exact ⟨⟨k, v, b, t⟩, hks, hcell.2.2 0 (by omega), hcell.2.2 1 (by omega), hcell.2.2 2 (by omega), hcell.2.2 3 (by omega)⟩
    obtain ⟨l, h1, h2⟩ := list_of len each
    refine ⟨l, rfl, ⟨h1, fun i hi => ?_⟩, hl, hm, fun e he => ?_⟩
    · obtain ⟨-, q0, q1, q2, q3⟩ := h2 i hi
      obtain ⟨b, off, spot⟩ := a
      have hspot : spot = none := by
        obtain ⟨-, p0, -⟩ := h2 0 (by omega)
        simpa [Addr.add] using World.cell?_spot p0
      subst hspot
      rw [add_n, add_n] at q0 q1 q2 q3
      exact ⟨b, off, rfl, block_lt_of_cell q0, q0, q1, q2, q3⟩
    · obtain ⟨i, hi, rfl⟩ := List.getElem_of_mem he
      exact (h2 i hi).1

end Go.Proofs.YtfhpkcamigkmdaaDoor.W
namespace Go.Proofs.YtfhpkcamigkmdaaDoor.W
open Go.ChangeShapes Go.WideShapes Go.ChangeAt Go.RowKit K R

theorem svl_cells : Tryd.prog.cellsOf 90 = 5 := by kernel_rfl
theorem enls_cells : Tryd.prog.cellsOf 33 = 1 := by kernel_rfl
theorem strs1_cells : Tryd.prog.cellsOf 43 = 1 := by kernel_rfl
theorem lvls_cells : Tryd.prog.cellsOf 34 = 1 := by kernel_rfl
theorem svls_cells : Tryd.prog.cellsOf 35 = 1 := by kernel_rfl
theorem nums1_cells : Tryd.prog.cellsOf 25 = 1 := by kernel_rfl
theorem str8_cells : Tryd.prog.cellsOf 37 = 6 := by kernel_rfl

set_option maxRecDepth 100000 in
theorem open_lvls {H : Type} {enc : TypeId × Value → H} {W : World} {base : Nat} {spare : Nat → Bool} {held : Bool} {fuel : Nat} {cs : List Value} {x : DataW H × List MemPlace}
    (h : DataW.trod enc Tryd.prog W base spare held fuel 34 cs = some x) :
    ∃ (A : Option Addr) (len cap : Nat) (ls : List (List En)), cs = [.slice A len cap] ∧ Lvls W W.heap.size A len ls ∧ len ≤ cap ∧ cap ≤ maxLen ∧ ∀ r ∈ ls, fitE r := by
  rcases DataW.trod_slice Tryd.underlying34 h with ⟨h0, -⟩ | ⟨a, len, cap, elems, rest, n, -, rfl, -, hb, hl, hm, hlen, hel, -, -⟩
  · exact ⟨none, 0, 0, [], h0, ⟨rfl, fun i hi => absurd hi (Nat.not_lt_zero _)⟩, Nat.le_refl _, by unfold maxLen; omega, fun r hr => by cases hr⟩
  · refine ⟨some a, len, cap, ?_⟩
    have each : ∀ i, i < len → ∃ e : List En, fitE e ∧ ∃ (A' : Option Addr) (c' : Nat), W.cell? ((a.add i).add 0) = some (.slice A' e.length c') ∧ Ents W W.heap.size A' e.length e ∧ e.length ≤ c' ∧ c' ≤ maxLen := by
      intro i hi
      have hb' := hel i hi
      rw [enls_cells, List.getElem?_eq_getElem (by omega), Option.bind_eq_some_iff] at hb'
      obtain ⟨cs', hc, ht⟩ := hb'
      rw [Nat.mul_one] at hc
      have hcell := World.cells?_some hc
      rcases open_ents ht with rfl | ⟨a', len', cap', l', rfl, hE, h1, h2, h3⟩
      · exact ⟨[], (fun e he => by cases he), none, 0, hcell.2.2 0 (by simp), ⟨rfl, fun i hi => absurd hi (Nat.not_lt_zero _)⟩, Nat.le_refl _, by unfold maxLen; omega⟩
      · have hl' := hE.len
        subst hl'
        exact ⟨l', h3, some a', cap', hcell.2.2 0 (by simp), hE, h1, h2⟩
    obtain ⟨ls, h1, h2⟩ := list_of len each
    refine ⟨ls, rfl, ⟨h1, fun i hi => ?_⟩, hl, hm, fun e he => ?_⟩
    · obtain ⟨-, A', c', q0, hE, q1, q2⟩ := h2 i hi
      obtain ⟨b, off, spot⟩ := a
      have hspot : spot = none := by
        obtain ⟨-, _, _, p0, -⟩ := h2 0 (by omega)
        simpa [Addr.add] using World.cell?_spot p0
      subst hspot
      rw [add_n, add_n, Nat.add_zero] at q0
      exact ⟨b, off, A', c', rfl, block_lt_of_cell q0, q0, hE, q1, q2⟩
    · obtain ⟨i, hi, rfl⟩ := List.getElem_of_mem he
      exact (h2 i hi).1

set_option maxRecDepth 100000 in
theorem open_svs {H : Type} {enc : TypeId × Value → H} {W : World} {base : Nat} {spare : Nat → Bool} {held : Bool} {fuel : Nat} {cs : List Value} {x : DataW H × List MemPlace}
    (h : DataW.trod enc Tryd.prog W base spare held fuel 35 cs = some x) :
    ∃ (A : Option Addr) (len cap : Nat) (ss : List Sf), cs = [.slice A len cap] ∧ Svs W W.heap.size A len ss ∧ len ≤ cap ∧ cap ≤ maxLen ∧ ∀ r ∈ ss, fitS r := by
  rcases DataW.trod_slice Tryd.underlying35 h with ⟨h0, -⟩ | ⟨a, len, cap, elems, rest, n, -, rfl, -, hb, hl, hm, hlen, hel, -, -⟩
  · exact ⟨none, 0, 0, [], h0, ⟨rfl, fun i hi => absurd hi (Nat.not_lt_zero _)⟩, Nat.le_refl _, by unfold maxLen; omega, fun r hr => by cases hr⟩
  · refine ⟨some a, len, cap, ?_⟩
    have each : ∀ i, i < len → ∃ e : Sf, fitS e ∧ ∃ (A' : Option Addr) (c' : Nat), W.cell? ((a.add (i * 5)).add 0) = some (.string e.letters) ∧ W.cell? ((a.add (i * 5)).add 1) = some (.string e.more) ∧ W.cell? ((a.add (i * 5)).add 2) = some (.string e.first) ∧ W.cell? ((a.add (i * 5)).add 3) = some (.slice A' e.rests.length c') ∧ W.cell? ((a.add (i * 5)).add 4) = some (.int .i64 e.keep) ∧ Strs W W.heap.size A' e.rests.length e.rests ∧ e.rests.length ≤ c' ∧ c' ≤ maxLen := by
      intro i hi
      have hb' := hel i hi
      rw [svl_cells, List.getElem?_eq_getElem (by omega), Option.bind_eq_some_iff] at hb'
      obtain ⟨cs', hc, ht⟩ := hb'
      obtain ⟨xs, n', -, -, hcl, hxl, hg⟩ := DataW.trod_struct Tryd.underlying90 ht
      rw [svl_cells] at hcl
      have hxl5 : xs.length = 5 := hxl
      have hcell := World.cells?_some hc
      match cs', hcl, xs, hxl5 with
      | [c0, c1, c2, c3, c4], _, [x0, x1, x2, x3, x4], _ =>
        have g0 := hg 0 _ rfl
        have g1 := hg 1 _ rfl
        have g2 := hg 2 _ rfl
        have g3 := hg 3 _ rfl
        have g4 := hg 4 _ rfl
        simp [str1_cells] at g0 g1 g2
        simp [strs1_cells] at g3
        simp [int1_cells] at g4
        obtain ⟨L, hL, -, hLs⟩ := DataW.trod_string Tryd.underlying9 g0
        obtain ⟨M_, hM, -, hMs⟩ := DataW.trod_string Tryd.underlying9 g1
        obtain ⟨F, hF, -, hFs⟩ := DataW.trod_string Tryd.underlying9 g2
        obtain ⟨k, hk, -, -⟩ := DataW.trod_int Tryd.underlying3 g4
        simp only [List.cons.injEq, and_true] at hL hM hF hk
        subst hL hM hF hk
        rcases open_strings Tryd.underlying43 Tryd.underlying9 str1_cells g3 with ⟨hcs, _⟩ | ⟨y, len', cap', ss, hcs, _, hl', hm', hz, _, hcell', hws⟩
        · simp only [List.cons.injEq, and_true] at hcs
          subst hcs
          exact ⟨⟨L, M_, F, [], k⟩, ⟨hLs, hMs, hFs, fun s hs => by cases hs⟩, none, 0, hcell.2.2 0 (by omega), hcell.2.2 1 (by omega), hcell.2.2 2 (by omega), hcell.2.2 3 (by omega), hcell.2.2 4 (by omega), Strs.nil _ _ _, Nat.le_refl _, by unfold maxLen; omega⟩
        · simp only [List.cons.injEq, and_true] at hcs
          subst hcs
          obtain ⟨hS, i1, i2, i3⟩ := isStrs_of hl' hm' (by rw [hz]; split <;> omega) hcell' hws
          have hsl := hS.len
          refine ⟨⟨L, M_, F, ss.take len', k⟩, ⟨hLs, hMs, hFs, i3⟩, some y, cap', hcell.2.2 0 (by omega), hcell.2.2 1 (by omega), hcell.2.2 2 (by omega), ?_, hcell.2.2 4 (by omega), ?_, ?_, i2⟩
          · show _ = some (Value.slice _ (ss.take len').length _)
            rw [hsl]; exact hcell.2.2 3 (by omega)
          · show Strs _ _ _ (ss.take len').length _
            rw [hsl]; exact hS
          · show (ss.take len').length ≤ _
            rw [hsl]; exact i1
    obtain ⟨ls, h1, h2⟩ := list_of len each
    refine ⟨ls, rfl, ⟨h1, fun i hi => ?_⟩, hl, hm, fun e he => ?_⟩
    · obtain ⟨-, A', c', q0, q1, q2, q3, q4, hE, e1, e2⟩ := h2 i hi
      obtain ⟨b, off, spot⟩ := a
      have hspot : spot = none := by
        obtain ⟨-, _, _, p0, -⟩ := h2 0 (by omega)
        simpa [Addr.add] using World.cell?_spot p0
      subst hspot
      rw [add_n, add_n] at q0 q1 q2 q3 q4
      exact ⟨b, off, A', c', rfl, block_lt_of_cell q0, q0, q1, q2, q3, q4, hE, e1, e2⟩
    · obtain ⟨i, hi, rfl⟩ := List.getElem_of_mem he
      exact (h2 i hi).1

set_option maxRecDepth 100000 in
theorem open_nums {H : Type} {enc : TypeId × Value → H} {W : World} {base : Nat} {spare : Nat → Bool} {held : Bool} {fuel : Nat} {cs : List Value} {x : DataW H × List MemPlace}
    (h : DataW.trod enc Tryd.prog W base spare held fuel 25 cs = some x) :
    ∃ (A : Option Addr) (len cap : Nat) (ls : List Int), cs = [.slice A len cap] ∧ Nums W W.heap.size A len ls ∧ len ≤ cap ∧ cap ≤ maxLen := by
  rcases DataW.trod_slice Tryd.underlying25 h with ⟨h0, -⟩ | ⟨a, len, cap, elems, rest, n, -, rfl, -, hb, hl, hm, hlen, hel, -, -⟩
  · exact ⟨none, 0, 0, [], h0, ⟨rfl, fun i hi => absurd hi (Nat.not_lt_zero _)⟩, Nat.le_refl _, by unfold maxLen; omega⟩
  · refine ⟨some a, len, cap, ?_⟩
    have each : ∀ i, i < len → ∃ e : Int, W.cell? ((a.add i).add 0) = some (.int .i64 e) := by
      intro i hi
      have hb' := hel i hi
      rw [int1_cells, List.getElem?_eq_getElem (by omega), Option.bind_eq_some_iff] at hb'
      obtain ⟨cs', hc, ht⟩ := hb'
      rw [Nat.mul_one] at hc
      have hcell := World.cells?_some hc
      obtain ⟨k, hk, -, -⟩ := DataW.trod_int Tryd.underlying3 ht
      subst hk
      exact ⟨k, hcell.2.2 0 (by simp)⟩
    obtain ⟨ls, h1, h2⟩ := list_of len each
    refine ⟨ls, rfl, ⟨h1, fun i hi => ?_⟩, hl, hm⟩
    have q0 := h2 i hi
    obtain ⟨b, off, spot⟩ := a
    have hspot : spot = none := by
      have p0 := h2 0 (by omega)
      simpa [Addr.add] using World.cell?_spot p0
    subst hspot
    rw [add_n, add_n, Nat.add_zero] at q0
    exact ⟨b, off, rfl, block_lt_of_cell q0, q0⟩

set_option maxRecDepth 100000 in
theorem open_store {H : Type} {enc : TypeId × Value → H} {W : World} {base : Nat} {spare : Nat → Bool} {held : Bool} {r : Reach} {b0 : Nat} {v : Value} {d : DataW H} {p : List MemPlace}
    (hv : Value.okWide Tryd.prog W r b0 37 v) (h : DataW.Trod enc Tryd.prog W base spare held 37 v d p) :
    ∃ (A0 A1 A2 A5 : Option Addr) (c0 c1 c2 c5 : Nat) (s : Sto), v = stV A0 A1 A2 A5 c0 c1 c2 c5 s ∧ StM W W.heap.size A0 A1 A2 A5 c0 c1 c2 c5 s ∧ fitSt s := by
  obtain ⟨cs, rfl, hsz⟩ := okWide_struct Tryd.underlying37 hv
  rw [str8_cells] at hsz
  obtain ⟨l0⟩ := cs
  match l0, hsz with
  | [v0, v1, v2, v3, v4, v5], _ =>
    obtain ⟨fuel, hf⟩ := h
    obtain ⟨xs, n, _, _, _, hlen, hg⟩ := DataW.trod_struct Tryd.underlying37 hf
    have hlen6 : xs.length = 6 := hlen
    match xs, hlen6 with
    | [x0, x1, x2, x3, x4, x5], _ =>
      have g0 := hg 0 _ rfl
      have g1 := hg 1 _ rfl
      have g2 := hg 2 _ rfl
      have g3 := hg 3 _ rfl
      have g4 := hg 4 _ rfl
      have g5 := hg 5 _ rfl
      simp [Value.cells, enls_cells] at g0
      simp [Value.cells, lvls_cells] at g1
      simp [Value.cells, svls_cells] at g2
      simp [Value.cells, int1_cells] at g3 g4
      simp [Value.cells, nums1_cells] at g5
      obtain ⟨k, hk, -, -⟩ := DataW.trod_int Tryd.underlying3 g3
      obtain ⟨t, ht, -, -⟩ := DataW.trod_int Tryd.underlying3 g4
      simp only [List.cons.injEq, and_true] at hk ht
      subst hk ht
      obtain ⟨A1, n1, c1, lvs, e1, hL, hl1, hc1, hf1⟩ := open_lvls g1
      obtain ⟨A2, n2, c2, svs, e2, hS, hl2, hc2, hf2⟩ := open_svs g2
      obtain ⟨A5, n5, c5, tms, e5, hN, hl5, hc5⟩ := open_nums g5
      simp only [List.cons.injEq, and_true] at e1 e2 e5
      subst e1 e2 e5
      have k1 := hL.len
      have k2 := hS.len
      have k5 := hN.len
      subst k1 k2 k5
      rcases open_ents g0 with e0 | ⟨a0, n0, c0, top, e0, hE, hl0, hc0, hf0⟩
      · simp only [List.cons.injEq, and_true] at e0
        subst e0
        exact ⟨none, A1, A2, A5, 0, c1, c2, c5, ⟨[], lvs, svs, k, t, tms⟩, rfl, ⟨⟨rfl, fun i hi => absurd hi (Nat.not_lt_zero _)⟩, hL, hS, hN, ⟨Nat.le_refl _, by unfold maxLen; omega⟩, ⟨hl1, hc1⟩, ⟨hl2, hc2⟩, ⟨hl5, hc5⟩⟩, (fun e he => by cases he), hf1, hf2⟩
      · simp only [List.cons.injEq, and_true] at e0
        subst e0
        have k0 := hE.len
        subst k0
        exact ⟨some a0, A1, A2, A5, c0, c1, c2, c5, ⟨top, lvs, svs, k, t, tms⟩, rfl, ⟨hE, hL, hS, hN, ⟨hl0, hc0⟩, ⟨hl1, hc1⟩, ⟨hl2, hc2⟩, ⟨hl5, hc5⟩⟩, hf0, hf1, hf2⟩

end Go.Proofs.YtfhpkcamigkmdaaDoor.W
