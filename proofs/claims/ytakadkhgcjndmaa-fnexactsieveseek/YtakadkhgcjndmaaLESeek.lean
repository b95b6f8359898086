/-
  Exact laws of filters that came in, as walks over the contracts.
-/
import Derived.Test.YtakadkhgcjndmaaY3
import Derived.Test.YtakadkhgcjndmaaY2
import Derived.Test.YtakadkhgcjndmaaLE1
namespace Go.Proofs.Ytakadkhgcjndmaa.W
open Go.RowKit K

set_option maxHeartbeats 4000000 in
set_option maxRecDepth 100000 in
theorem exactSieveSeek (w : World) (A : Option Addr) (n c : Nat) (L M_ F : ByteArray) (keep : Int) (l : List ByteArray) (f : ByteArray) (hf1 : f.size ≤ maxLen) (hL : L.size ≤ maxLen) (hM : M_.size ≤ maxLen) (hF : F.size ≤ maxLen) (hs : Strs w w.heap.size A n l) (hnc : n ≤ c) (hc : c ≤ maxLen) (hf : Fit l) :
    Calls Try.prog 26 #[.agg #[.string L, .string M_, .string F, .slice A n c, .int .i64 keep], .string f] w fun e w' => e = .returned (.bool true) ∧ Below w.heap.size w w' := by
  have hlen := hs.len
  subst hlen
  have hnm : l.length ≤ maxLen := Nat.le_trans hnc hc
  have S0 := Lib.hid hs
  have FL := Lib.hid hf
  clear hs hf
  obtain ⟨W0, hW0⟩ : ∃ W0, W0 = w.alloc (.cells #[.string L, .string M_, .string F, .slice A l.length c, .int .i64 keep] 57) := ⟨_, rfl⟩
  have hb0 : Below w.heap.size w W0 := by rw [hW0]; exact (Below.refl _ _).alloc (Nat.le_refl _) _
  have HX0 := Lib.hid (show W0.heap[w.heap.size]? = some (.cells #[.string L, .string M_, .string F, .slice A l.length c, .int .i64 keep] 57 (0, 0)) by rw [hW0]; exact heap_alloc_new _ _)
  have HB0 := Lib.hid hb0
  have HSZ := Lib.hid (sizeSvL W0 l.length c A L M_ F keep l hL hM hF ((S0.out.below hb0 (Nat.le_refl _)).more hb0.size) hnm FL.out)
  have HW0 := Lib.hid hW0
  clear hb0 hW0
  by_cases hbigf : (1048576 : Int) < (f.size : Int)
  · go_enter Try.func26, Try.ntmps26
    go_wp2
    go_ret
    exact ⟨rfl, by first | exact Below.refl _ _ | exact (Below.refl _ _).alloc (Nat.le_refl _) _⟩
  · go_enter Try.func26, Try.ntmps26
    go_wp2_with fail
    go_at_call 65
    rw [← HW0.out]
    refine HSZ.out.mono ?_
    rintro e w1 ⟨x, rfl, hx0, hx1, hx2, hb1⟩
    have HX1 := Lib.hid (box_below HX0.out hb1)
    have HB1 := Lib.hid (HB0.out.trans (hb1.mono HB0.out.size))
    clear hb1
    by_cases hneg : x < 0
    · clear hx2
      go_wp2
      go_ret
      exact ⟨rfl, HB1.out⟩
    · have hx3 := hx2 (by omega)
      have hlen := hx3.2.1
      have HFT := Lib.hid (show ∀ i (h : i < l.length), l[i].size ≤ 1000000000000 from fun i h => by have := hx3.2.2 _ (List.getElem_mem h); omega)
      clear hx2 hx3
      have p0 : w1.cell? ⟨w.heap.size, 0, none⟩ = some (.string L) := by rw [cell_of_row _ _ _ _ _ _ HX1.out]; rfl
      have p1 : w1.cell? ⟨w.heap.size, 1, none⟩ = some (.string M_) := by rw [cell_of_row _ _ _ _ _ _ HX1.out]; rfl
      have p2 : w1.cell? ⟨w.heap.size, 2, none⟩ = some (.string F) := by rw [cell_of_row _ _ _ _ _ _ HX1.out]; rfl
      have p3 : w1.cell? ⟨w.heap.size, 3, none⟩ = some (.slice A l.length c) := by rw [cell_of_row _ _ _ _ _ _ HX1.out]; rfl
      have p4 : w1.cell? ⟨w.heap.size, 4, none⟩ = some (.int .i64 keep) := by rw [cell_of_row _ _ _ _ _ _ HX1.out]; rfl
      go_wp2_with fail
      go_at_call 66
      refine (copySv w1 l.length c A L M_ F keep l w.heap.size (S0.out.below HB1.out (Nat.le_refl _)) HB1.out.size (by omega)).mono ?_
      rintro e w2 ⟨A2, c2, rfl, o2, b2⟩
      obtain ⟨s2, hc2, hm2⟩ := o2.strs
      have HF2 := Lib.hid (show Flt w2 L M_ F A2 l.length c2 l from ⟨hL, hM, hF, s2, hc2, hm2, HFT.out⟩)
      have HX2 := Lib.hid (box_below HX1.out b2)
      have HB2 := Lib.hid (HB1.out.trans (b2.mono HB1.out.size))
      clear o2 b2 s2 HX1 HB1 p0 p1 p2 p3 p4
      go_wp2_with fail
      go_at_call 52
      refine Calls.mono (HF2.out.seekS keep f hf1 w2 (Below.refl _ _)) ?_
      rintro e w3 ⟨rfl, b3⟩
      have HX3 := Lib.hid (box_below HX2.out b3)
      have HB3 := Lib.hid (HB2.out.trans (b3.mono HB2.out.size))
      clear b3 HX2 HB2 HF2
      have p0 : w3.cell? ⟨w.heap.size, 0, none⟩ = some (.string L) := by rw [cell_of_row _ _ _ _ _ _ HX3.out]; rfl
      have p1 : w3.cell? ⟨w.heap.size, 1, none⟩ = some (.string M_) := by rw [cell_of_row _ _ _ _ _ _ HX3.out]; rfl
      have p2 : w3.cell? ⟨w.heap.size, 2, none⟩ = some (.string F) := by rw [cell_of_row _ _ _ _ _ _ HX3.out]; rfl
      have p3 : w3.cell? ⟨w.heap.size, 3, none⟩ = some (.slice A l.length c) := by rw [cell_of_row _ _ _ _ _ _ HX3.out]; rfl
      have p4 : w3.cell? ⟨w.heap.size, 4, none⟩ = some (.int .i64 keep) := by rw [cell_of_row _ _ _ _ _ _ HX3.out]; rfl
      go_wp2_with fail
      go_at_call 66
      refine (copySv w3 l.length c A L M_ F keep l w.heap.size (S0.out.below HB3.out (Nat.le_refl _)) HB3.out.size (by omega)).mono ?_
      rintro e w4 ⟨A4, c4, rfl, o4, b4⟩
      obtain ⟨W4, hW4⟩ : ∃ W4, W4 = w4.alloc (.cells #[.string L, .string M_, .string F, .slice A4 l.length c4, .int .i64 keep] 27) := ⟨_, rfl⟩
      have hbw : Below w4.heap.size w4 W4 := by rw [hW4]; exact (Below.refl _ _).alloc (Nat.le_refl _) _
      obtain ⟨s4, hc4, hm4⟩ := (o4.below hbw).strs
      have HF4 := Lib.hid (show Flt W4 L M_ F A4 l.length c4 l from ⟨hL, hM, hF, s4, hc4, hm4, HFT.out⟩)
      have HY4 := Lib.hid (show W4.heap[w4.heap.size]? = some (.cells #[.string L, .string M_, .string F, .slice A4 l.length c4, .int .i64 keep] 27 (0, 0)) by rw [hW4]; exact heap_alloc_new _ _)
      have HX4 := Lib.hid (box_below (box_below HX3.out b4) hbw)
      have HB4 := Lib.hid ((HB3.out.trans (b4.mono HB3.out.size)).trans (hbw.mono (HB3.out.trans (b4.mono HB3.out.size)).size))
      have HW4 := Lib.hid hW4
      clear o4 b4 hbw s4 hW4 HX3 HB3 p0 p1 p2 p3 p4
      go_upto_region 9 with fail
      rw [← HW4.out]
      have g0 : W4.cell? ⟨w4.heap.size, 0, none⟩ = some (.string L) := by rw [cell_of_row _ _ _ _ _ _ HY4.out]; rfl
      have g1 : W4.cell? ⟨w4.heap.size, 1, none⟩ = some (.string M_) := by rw [cell_of_row _ _ _ _ _ _ HY4.out]; rfl
      have g2 : W4.cell? ⟨w4.heap.size, 2, none⟩ = some (.string F) := by rw [cell_of_row _ _ _ _ _ _ HY4.out]; rfl
      have g3 : W4.cell? ⟨w4.heap.size, 3, none⟩ = some (.slice A4 l.length c4) := by rw [cell_of_row _ _ _ _ _ _ HY4.out]; rfl
      have g4 : W4.cell? ⟨w4.heap.size, 4, none⟩ = some (.int .i64 keep) := by rw [cell_of_row _ _ _ _ _ _ HY4.out]; rfl
      go_wp2_with fail
      go_at_call 53
      refine Calls.mono (HF4.out.seek keep f hf1 W4 (Below.refl _ _)) ?_
      rintro e w5 ⟨rfl, b5⟩
      have HX5 := Lib.hid (box_below HX4.out b5)
      have HY5 := Lib.hid (box_below HY4.out b5)
      have HF5 := Lib.hid (HF4.out.up b5)
      have HB5 := Lib.hid (HB4.out.trans (b5.mono HB4.out.size))
      clear b5 HX4 HY4 HF4 HB4 g0 g1 g2 g3 g4
      have p0 : w5.cell? ⟨w.heap.size, 0, none⟩ = some (.string L) := by rw [cell_of_row _ _ _ _ _ _ HX5.out]; rfl
      have p1 : w5.cell? ⟨w.heap.size, 1, none⟩ = some (.string M_) := by rw [cell_of_row _ _ _ _ _ _ HX5.out]; rfl
      have p2 : w5.cell? ⟨w.heap.size, 2, none⟩ = some (.string F) := by rw [cell_of_row _ _ _ _ _ _ HX5.out]; rfl
      have p3 : w5.cell? ⟨w.heap.size, 3, none⟩ = some (.slice A l.length c) := by rw [cell_of_row _ _ _ _ _ _ HX5.out]; rfl
      have p4 : w5.cell? ⟨w.heap.size, 4, none⟩ = some (.int .i64 keep) := by rw [cell_of_row _ _ _ _ _ _ HX5.out]; rfl
      have g0 : w5.cell? ⟨w4.heap.size, 0, none⟩ = some (.string L) := by rw [cell_of_row _ _ _ _ _ _ HY5.out]; rfl
      have g1 : w5.cell? ⟨w4.heap.size, 1, none⟩ = some (.string M_) := by rw [cell_of_row _ _ _ _ _ _ HY5.out]; rfl
      have g2 : w5.cell? ⟨w4.heap.size, 2, none⟩ = some (.string F) := by rw [cell_of_row _ _ _ _ _ _ HY5.out]; rfl
      have g3 : w5.cell? ⟨w4.heap.size, 3, none⟩ = some (.slice A4 l.length c4) := by rw [cell_of_row _ _ _ _ _ _ HY5.out]; rfl
      have g4 : w5.cell? ⟨w4.heap.size, 4, none⟩ = some (.int .i64 keep) := by rw [cell_of_row _ _ _ _ _ _ HY5.out]; rfl
      have HCP := Lib.hid (show ∀ W : World, W.heap = w5.heap → W.os = w5.os ∧ W.tape = w5.tape ∧ W.output = w5.output → Calls Try.prog 66 #[.agg #[.string L, .string M_, .string F, .slice A l.length c, .int .i64 keep]] W fun e w6 => ∃ A6 c6, e = .returned (.agg #[.string L, .string M_, .string F, .slice A6 l.length c6, .int .i64 keep]) ∧ Below w5.heap.size w5 w6 ∧ Calls Try.prog 60 #[.agg #[.string L, .string M_, .string F, .slice A4 l.length c4, .int .i64 keep], .agg #[.string L, .string M_, .string F, .slice A6 l.length c6, .int .i64 keep]] w6 (fun e w7 => e = .returned (.bool true) ∧ Below w6.heap.size w6 w7) from fun W hW hO => by
        have hbW : Below w5.heap.size w5 W := bel_same hW hO.1 hO.2.1 hO.2.2
        have hbb := HB5.out.trans (hbW.mono HB5.out.size)
        refine (copySv W l.length c A L M_ F keep l w.heap.size (S0.out.below hbb (Nat.le_refl _)) hbb.size (by omega)).mono ?_
        rintro e w6 ⟨A6, c6, rfl, o6, b6⟩
        have hb6 : Below w5.heap.size w5 w6 := hbW.trans (b6.mono hbW.size)
        refine ⟨A6, c6, rfl, hb6, ?_⟩
        have h := eqSieveS L M_ F L M_ F A4 A6 l.length c4 l.length c6 l l keep keep w6 (HF5.out.up hb6).row o6.strs.1 hnm hnm
        rw [sameSv_same] at h
        exact h)
      go_upto_region 12 with fail
      go_region_with (first | (go_at_call 66; refine Calls.mono (HCP.out _ (by rfl) ⟨by rfl, by rfl, by rfl⟩) ?_; rintro e w6 ⟨A6, c6, rfl, hb6, hq6⟩; have HB6 := Lib.hid hb6; have HQ6 := Lib.hid hq6; have g60 : w6.cell? ⟨w4.heap.size, 0, none⟩ = some (.string L) := (by rw [cell_of_row _ _ _ _ _ _ (box_below HY5.out hb6)]; rfl); have g61 : w6.cell? ⟨w4.heap.size, 1, none⟩ = some (.string M_) := (by rw [cell_of_row _ _ _ _ _ _ (box_below HY5.out hb6)]; rfl); have g62 : w6.cell? ⟨w4.heap.size, 2, none⟩ = some (.string F) := (by rw [cell_of_row _ _ _ _ _ _ (box_below HY5.out hb6)]; rfl); have g63 : w6.cell? ⟨w4.heap.size, 3, none⟩ = some (.slice A4 l.length c4) := (by rw [cell_of_row _ _ _ _ _ _ (box_below HY5.out hb6)]; rfl); have g64 : w6.cell? ⟨w4.heap.size, 4, none⟩ = some (.int .i64 keep) := (by rw [cell_of_row _ _ _ _ _ _ (box_below HY5.out hb6)]; rfl); clear hb6 hq6) | (go_at_call 60; refine HQ6.out.mono ?_; rintro e w7 ⟨rfl, hb7⟩; have HB7 := Lib.hid hb7; clear hb7))
      all_goals
        go_wp2
        go_ret
        exact ⟨rfl, HB5.out.trans ((HB6.out.trans (HB7.out.mono HB6.out.size)).mono HB5.out.size)⟩

end Go.Proofs.Ytakadkhgcjndmaa.W
