/-
  Laws of filters that are drawn, as walks over the contracts: a filter is that of what it keeps.
-/
import Derived.Test.YtakadkhgcjndmaaY3
import Derived.Test.YtakadkhgcjndmaaDS6
import Derived.Test.YtakadkhgcjndmaaLE1
import Derived.Test.YtakadkhgcjndmaaLSMeetsHas
namespace Go.Proofs.Ytakadkhgcjndmaa.W
open Go.RowKit K

set_option maxHeartbeats 8000000 in
set_option maxRecDepth 100000 in
theorem lawSieveSame (w : World) (A : Option Addr) (n c : Nat) (hb0 : Bytes w w.heap.size A n) (hnc : n ≤ c) (hc : c ≤ maxLen) :
    Calls Try.prog 6 #[.slice A n c] w fun e w' => e = .returned (.bool true) ∧ Below w.heap.size w w' := by
  by_cases hbig : (1048576 : Int) < (n : Int)
  · clear hb0
    go_enter Try.func6, Try.ntmps6
    go_wp2
    go_ret
    exact ⟨rfl, Below.refl _ _⟩
  · go_enter Try.func6, Try.ntmps6
    go_wp2_with fail
    go_at_call 36
    refine (drawHeads w A n c hb0 hnc hc).mono ?_
    rintro e w1 ⟨L, M_, F, R, keep, A2, c2, rfl, hfm⟩
    have HFM := Lib.hid hfm
    have HB1 := Lib.hid hfm.below
    clear hb0 hfm
    obtain ⟨s1, hc1, hm1⟩ := HFM.out.own.strs
    obtain ⟨W1, hW1⟩ : ∃ W1, W1 = w1.alloc (.cells #[.string L, .string M_, .string F, .slice A2 R.length c2, .int .i64 keep] 27) := ⟨_, rfl⟩
    have hbw : Below w1.heap.size w1 W1 := by rw [hW1]; exact (Below.refl _ _).alloc (Nat.le_refl _) _
    have HFL := Lib.hid (show Flt W1 L M_ F A2 R.length c2 R from ⟨by have := HFM.out.szL; unfold maxLen; omega, by have := HFM.out.szM; unfold maxLen; omega, by have := HFM.out.szF; unfold maxLen; omega, (s1.below hbw (Nat.le_refl _)).more hbw.size, hc1, hm1, fun i h => by have := HFM.out.szS _ (List.getElem_mem h); omega⟩)
    have HY1 := Lib.hid (show W1.heap[w1.heap.size]? = some (.cells #[.string L, .string M_, .string F, .slice A2 R.length c2, .int .i64 keep] 27 (0, 0)) by rw [hW1]; exact heap_alloc_new _ _)
    have HBX := Lib.hid (show ∀ W, Below W1.heap.size W1 W → W.heap[w1.heap.size]? = some (.cells #[.string L, .string M_, .string F, .slice A2 R.length c2, .int .i64 keep] 27 (0, 0)) from fun W hW => box_below HY1.out hW)
    have HB2 := Lib.hid (HB1.out.trans (hbw.mono HB1.out.size))
    have HW1 := Lib.hid hW1
    clear s1 hbw hW1
    obtain ⟨hs, hhs⟩ : ∃ y, y = headsO L M_ F R keep := ⟨_, rfl⟩
    have HHI := Lib.hid (show ∀ W, Below W1.heap.size W1 W → Calls Try.prog 34 #[.agg #[.string L, .string M_, .string F, .slice A2 R.length c2, .int .i64 keep]] W (NewF W1 hs) from fun W hW => by rw [hhs]; exact HFL.out.heads keep W hW)
    go_upto_region 4 with fail
    rw [← HW1.out]
    have s0 : W1.cell? ⟨w1.heap.size, 0, none⟩ = some (.string L) := by rw [cell_of_row _ _ _ _ _ _ HY1.out]; rfl
    have s1 : W1.cell? ⟨w1.heap.size, 1, none⟩ = some (.string M_) := by rw [cell_of_row _ _ _ _ _ _ HY1.out]; rfl
    have s2 : W1.cell? ⟨w1.heap.size, 2, none⟩ = some (.string F) := by rw [cell_of_row _ _ _ _ _ _ HY1.out]; rfl
    have s3 : W1.cell? ⟨w1.heap.size, 3, none⟩ = some (.slice A2 R.length c2) := by rw [cell_of_row _ _ _ _ _ _ HY1.out]; rfl
    have s4 : W1.cell? ⟨w1.heap.size, 4, none⟩ = some (.int .i64 keep) := by rw [cell_of_row _ _ _ _ _ _ HY1.out]; rfl
    go_wp2_with fail
    go_at_call 34
    refine Calls.mono (HHI.out _ (Below.refl _ _)) ?_
    rintro e w5 ⟨A7, c7, rfl, hs7, hn7, hm7, hb5⟩
    have HF5 := Lib.hid (HFL.out.up hb5)
    have HS7 := Lib.hid hs7
    have HB5 := Lib.hid (HB2.out.trans (hb5.mono HB2.out.size))
    have HBY := Lib.hid (show ∀ W, Below w5.heap.size w5 W → W.heap[w1.heap.size]? = some (.cells #[.string L, .string M_, .string F, .slice A2 R.length c2, .int .i64 keep] 27 (0, 0)) from fun W hW => HBX.out W (hb5.trans (hW.mono hb5.size)))
    have HHS := Lib.hid (show ∀ W, Below w5.heap.size w5 W → Calls Try.prog 38 #[.agg #[.string L, .string M_, .string F, .slice A2 R.length c2, .int .i64 keep]] W (NewF w5 hs) from fun W hW => by rw [hhs]; exact HF5.out.headsS keep W hW)
    have HOK := Lib.hid (HF5.out.okS keep)
    have HSM := Lib.hid (show ∀ (W : World) (A : Option Addr) (c : Nat), Below w5.heap.size w5 W → Strs W W.heap.size A hs.length hs → Calls Try.prog 37 #[.slice A7 hs.length c7, .slice A hs.length c] W fun e w' => e = .returned (.bool true) ∧ Below w5.heap.size w5 w' from fun W A c hW h => by
      have h := samesL W W.heap.size hs.length c7 hs.length c A7 A hs hs ((HS7.out.below hW (Nat.le_refl _)).more hW.size) h (by omega) (by omega)
      rw [sameL_self] at h
      exact h.mono fun _ _ ⟨he, hb⟩ => ⟨he, hW.trans (hb.below _)⟩)
    have t0 : w5.cell? ⟨w1.heap.size, 0, none⟩ = some (.string L) := by rw [cell_of_row _ _ _ _ _ _ (HBX.out w5 hb5)]; rfl
    have t1 : w5.cell? ⟨w1.heap.size, 1, none⟩ = some (.string M_) := by rw [cell_of_row _ _ _ _ _ _ (HBX.out w5 hb5)]; rfl
    have t2 : w5.cell? ⟨w1.heap.size, 2, none⟩ = some (.string F) := by rw [cell_of_row _ _ _ _ _ _ (HBX.out w5 hb5)]; rfl
    have t3 : w5.cell? ⟨w1.heap.size, 3, none⟩ = some (.slice A2 R.length c2) := by rw [cell_of_row _ _ _ _ _ _ (HBX.out w5 hb5)]; rfl
    have t4 : w5.cell? ⟨w1.heap.size, 4, none⟩ = some (.int .i64 keep) := by rw [cell_of_row _ _ _ _ _ _ (HBX.out w5 hb5)]; rfl
    clear hb5 hs7
    rcases Bool.eq_false_or_eq_true (svB L M_ F R keep) with gs | gs
    · obtain ⟨kp, hke, hmd⟩ := made_back gs
      have hmd' : Made L M_ F R keep hs kp := by
        rw [hhs]
        have hsv := hmd.sv
        have e := hke
        rw [hke] at hsv
        have h2 := headsO_yes hsv
        rw [← hke] at h2
        rw [h2]; exact hmd
      have hfit : Fit hs := fun s h => by have := isK_size (show isK s from hmd'.keyOf h); unfold maxLen; omega
      obtain ⟨g1, g2, g3, g4, g5, g6⟩ := made_fields hmd'
      have HOF := Lib.hid (show ∀ (W : World) (A : Option Addr) (n c : Nat), Strs W W.heap.size A n hs → n ≤ c → c ≤ maxLen → Calls Try.prog 30 #[.slice A n c, .int .i64 keep] W (OfF W L M_ F R keep true) from fun W A n c h1 h2 h3 => (ofI W n c A hs keep h1 h2 h3 hfit).mono fun _ _ h => by have h' := of_fields h; rw [g1, g2, g3, g4, g5, g6] at h'; exact h')
      rw [gs] at HOK
      clear gs hke hmd hmd' hfit g1 g2 g3 g4 g5 g6 hhs
      go_wp2_with (first | (go_at_call 38; refine Calls.mono (HHS.out _ (by first | exact Below.refl _ _ | exact HB8.out)) ?_; rintro e w8 ⟨A8, c8, rfl, hs8, hn8, hm8, hb8⟩; have HB8 := Lib.hid hb8; have HS8 := Lib.hid hs8; have u0 : w8.cell? ⟨w1.heap.size, 0, none⟩ = some (.string L) := (by rw [cell_of_row _ _ _ _ _ _ (HBY.out w8 hb8)]; rfl); have u1 : w8.cell? ⟨w1.heap.size, 1, none⟩ = some (.string M_) := (by rw [cell_of_row _ _ _ _ _ _ (HBY.out w8 hb8)]; rfl); have u2 : w8.cell? ⟨w1.heap.size, 2, none⟩ = some (.string F) := (by rw [cell_of_row _ _ _ _ _ _ (HBY.out w8 hb8)]; rfl); have u3 : w8.cell? ⟨w1.heap.size, 3, none⟩ = some (.slice A2 R.length c2) := (by rw [cell_of_row _ _ _ _ _ _ (HBY.out w8 hb8)]; rfl); have u4 : w8.cell? ⟨w1.heap.size, 4, none⟩ = some (.int .i64 keep) := (by rw [cell_of_row _ _ _ _ _ _ (HBY.out w8 hb8)]; rfl); clear hb8 hs8) | (go_at_call 37; refine Calls.mono (HSM.out _ _ _ HB8.out HS8.out) ?_; rintro e w8 ⟨rfl, hb8⟩; have HB8 := Lib.hid hb8; have u0 : w8.cell? ⟨w1.heap.size, 0, none⟩ = some (.string L) := (by rw [cell_of_row _ _ _ _ _ _ (HBY.out w8 hb8)]; rfl); have u1 : w8.cell? ⟨w1.heap.size, 1, none⟩ = some (.string M_) := (by rw [cell_of_row _ _ _ _ _ _ (HBY.out w8 hb8)]; rfl); have u2 : w8.cell? ⟨w1.heap.size, 2, none⟩ = some (.string F) := (by rw [cell_of_row _ _ _ _ _ _ (HBY.out w8 hb8)]; rfl); have u3 : w8.cell? ⟨w1.heap.size, 3, none⟩ = some (.slice A2 R.length c2) := (by rw [cell_of_row _ _ _ _ _ _ (HBY.out w8 hb8)]; rfl); have u4 : w8.cell? ⟨w1.heap.size, 4, none⟩ = some (.int .i64 keep) := (by rw [cell_of_row _ _ _ _ _ _ (HBY.out w8 hb8)]; rfl); clear hb8) | (go_at_call 39; refine Calls.mono (From.go HOK.out (by first | exact Below.refl _ _ | exact HB8.out)) ?_; rintro e w8 ⟨rfl, hb8⟩; have HB8 := Lib.hid hb8; have u0 : w8.cell? ⟨w1.heap.size, 0, none⟩ = some (.string L) := (by rw [cell_of_row _ _ _ _ _ _ (HBY.out w8 hb8)]; rfl); have u1 : w8.cell? ⟨w1.heap.size, 1, none⟩ = some (.string M_) := (by rw [cell_of_row _ _ _ _ _ _ (HBY.out w8 hb8)]; rfl); have u2 : w8.cell? ⟨w1.heap.size, 2, none⟩ = some (.string F) := (by rw [cell_of_row _ _ _ _ _ _ (HBY.out w8 hb8)]; rfl); have u3 : w8.cell? ⟨w1.heap.size, 3, none⟩ = some (.slice A2 R.length c2) := (by rw [cell_of_row _ _ _ _ _ _ (HBY.out w8 hb8)]; rfl); have u4 : w8.cell? ⟨w1.heap.size, 4, none⟩ = some (.int .i64 keep) := (by rw [cell_of_row _ _ _ _ _ _ (HBY.out w8 hb8)]; rfl); clear hb8) | (go_at_call 30; fail))
      go_at_call 30
      refine Calls.mono (HOF.out w8 A7 hs.length c7 ((HS7.out.below HB8.out (Nat.le_refl _)).more HB8.out.size) hn7 hm7) ?_
      rintro e w9 ⟨A9, c9, rfl, ho9, hb9⟩
      obtain ⟨W9, hW9⟩ : ∃ W9, W9 = w9.alloc (.cells #[.string L, .string M_, .string F, .slice A9 R.length c9, .int .i64 keep] 27) := ⟨_, rfl⟩
      have hbw9 : Below w9.heap.size w9 W9 := by rw [hW9]; exact (Below.refl _ _).alloc (Nat.le_refl _) _
      have HY9 := Lib.hid (show W9.heap[w9.heap.size]? = some (.cells #[.string L, .string M_, .string F, .slice A9 R.length c9, .int .i64 keep] 27 (0, 0)) by rw [hW9]; exact heap_alloc_new _ _)
      have hb59 := HB8.out.trans (hb9.mono HB8.out.size)
      have hb5w := hb59.trans (hbw9.mono hb59.size)
      obtain ⟨s9, hc9, hm9⟩ := (ho9.below hbw9).strs
      have HRW := Lib.hid (HF5.out.up hb5w).row
      have HB9 := Lib.hid (HB5.out.trans (hb5w.mono HB5.out.size))
      have hx9 := HBY.out W9 hb5w
      have HW9 := Lib.hid hW9
      have HFM2 := Lib.hid HFM.out.szR
      have HLT := Lib.hid (show Calls Try.prog 31 #[.agg #[.string L, .string M_, .string F, .slice A9 R.length c9, .int .i64 keep], .agg #[.string L, .string M_, .string F, .slice A2 R.length c2, .int .i64 keep]] W9 fun e w' => e = .returned (.bool true) ∧ Below W9.heap.size W9 w' by
        have h := ltSieveS L M_ F L M_ F A9 A2 R.length c9 R.length c2 R R keep keep W9 s9 HRW.out (by have := HFM2.out; unfold maxLen; omega) (by have := HFM2.out; unfold maxLen; omega)
        rw [sameSv_same] at h
        exact h)
      have HX9 := Lib.hid hx9
      clear hx9 hb59 hb5w ho9 hb9 hbw9 hW9 s9
      go_upto_region 8 with fail
      rw [← HW9.out]
      have v0 : W9.cell? ⟨w9.heap.size, 0, none⟩ = some (.string L) := by rw [cell_of_row _ _ _ _ _ _ HY9.out]; rfl
      have v1 : W9.cell? ⟨w9.heap.size, 1, none⟩ = some (.string M_) := by rw [cell_of_row _ _ _ _ _ _ HY9.out]; rfl
      have v2 : W9.cell? ⟨w9.heap.size, 2, none⟩ = some (.string F) := by rw [cell_of_row _ _ _ _ _ _ HY9.out]; rfl
      have v3 : W9.cell? ⟨w9.heap.size, 3, none⟩ = some (.slice A9 R.length c9) := by rw [cell_of_row _ _ _ _ _ _ HY9.out]; rfl
      have v4 : W9.cell? ⟨w9.heap.size, 4, none⟩ = some (.int .i64 keep) := by rw [cell_of_row _ _ _ _ _ _ HY9.out]; rfl
      have x0 : W9.cell? ⟨w1.heap.size, 0, none⟩ = some (.string L) := by rw [cell_of_row _ _ _ _ _ _ HX9.out]; rfl
      have x1 : W9.cell? ⟨w1.heap.size, 1, none⟩ = some (.string M_) := by rw [cell_of_row _ _ _ _ _ _ HX9.out]; rfl
      have x2 : W9.cell? ⟨w1.heap.size, 2, none⟩ = some (.string F) := by rw [cell_of_row _ _ _ _ _ _ HX9.out]; rfl
      have x3 : W9.cell? ⟨w1.heap.size, 3, none⟩ = some (.slice A2 R.length c2) := by rw [cell_of_row _ _ _ _ _ _ HX9.out]; rfl
      have x4 : W9.cell? ⟨w1.heap.size, 4, none⟩ = some (.int .i64 keep) := by rw [cell_of_row _ _ _ _ _ _ HX9.out]; rfl
      go_wp2_with (go_at_call 31; refine Calls.mono HLT.out ?_; rintro e w8 ⟨rfl, hb8⟩; have HB8 := Lib.hid hb8; clear hb8)
      go_ret
      exact ⟨rfl, HB9.out.trans (HB8.out.mono HB9.out.size)⟩
    · rw [gs] at HOK
      clear gs hhs
      go_wp2_with fail
      go_at_call 38
      refine Calls.mono (HHS.out _ (by first | exact Below.refl _ _ | exact HB8.out)) ?_
      rintro e w8 ⟨A8, c8, rfl, hs8, hn8, hm8, hb8⟩
      have HB8 := Lib.hid hb8
      have HS8 := Lib.hid hs8
      have u0 : w8.cell? ⟨w1.heap.size, 0, none⟩ = some (.string L) := (by rw [cell_of_row _ _ _ _ _ _ (HBY.out w8 hb8)]; rfl)
      have u1 : w8.cell? ⟨w1.heap.size, 1, none⟩ = some (.string M_) := (by rw [cell_of_row _ _ _ _ _ _ (HBY.out w8 hb8)]; rfl)
      have u2 : w8.cell? ⟨w1.heap.size, 2, none⟩ = some (.string F) := (by rw [cell_of_row _ _ _ _ _ _ (HBY.out w8 hb8)]; rfl)
      have u3 : w8.cell? ⟨w1.heap.size, 3, none⟩ = some (.slice A2 R.length c2) := (by rw [cell_of_row _ _ _ _ _ _ (HBY.out w8 hb8)]; rfl)
      have u4 : w8.cell? ⟨w1.heap.size, 4, none⟩ = some (.int .i64 keep) := (by rw [cell_of_row _ _ _ _ _ _ (HBY.out w8 hb8)]; rfl)
      clear hb8 hs8
      go_wp2_with fail
      go_at_call 37
      refine Calls.mono (HSM.out _ _ _ HB8.out HS8.out) ?_
      rintro e w8 ⟨rfl, hb8⟩
      have HB8 := Lib.hid hb8
      have u0 : w8.cell? ⟨w1.heap.size, 0, none⟩ = some (.string L) := (by rw [cell_of_row _ _ _ _ _ _ (HBY.out w8 hb8)]; rfl)
      have u1 : w8.cell? ⟨w1.heap.size, 1, none⟩ = some (.string M_) := (by rw [cell_of_row _ _ _ _ _ _ (HBY.out w8 hb8)]; rfl)
      have u2 : w8.cell? ⟨w1.heap.size, 2, none⟩ = some (.string F) := (by rw [cell_of_row _ _ _ _ _ _ (HBY.out w8 hb8)]; rfl)
      have u3 : w8.cell? ⟨w1.heap.size, 3, none⟩ = some (.slice A2 R.length c2) := (by rw [cell_of_row _ _ _ _ _ _ (HBY.out w8 hb8)]; rfl)
      have u4 : w8.cell? ⟨w1.heap.size, 4, none⟩ = some (.int .i64 keep) := (by rw [cell_of_row _ _ _ _ _ _ (HBY.out w8 hb8)]; rfl)
      clear hb8
      go_wp2_with fail
      go_at_call 39
      refine Calls.mono (From.go HOK.out (by first | exact Below.refl _ _ | exact HB8.out)) ?_
      rintro e w8 ⟨rfl, hb8⟩
      have HB8 := Lib.hid hb8
      have u0 : w8.cell? ⟨w1.heap.size, 0, none⟩ = some (.string L) := (by rw [cell_of_row _ _ _ _ _ _ (HBY.out w8 hb8)]; rfl)
      have u1 : w8.cell? ⟨w1.heap.size, 1, none⟩ = some (.string M_) := (by rw [cell_of_row _ _ _ _ _ _ (HBY.out w8 hb8)]; rfl)
      have u2 : w8.cell? ⟨w1.heap.size, 2, none⟩ = some (.string F) := (by rw [cell_of_row _ _ _ _ _ _ (HBY.out w8 hb8)]; rfl)
      have u3 : w8.cell? ⟨w1.heap.size, 3, none⟩ = some (.slice A2 R.length c2) := (by rw [cell_of_row _ _ _ _ _ _ (HBY.out w8 hb8)]; rfl)
      have u4 : w8.cell? ⟨w1.heap.size, 4, none⟩ = some (.int .i64 keep) := (by rw [cell_of_row _ _ _ _ _ _ (HBY.out w8 hb8)]; rfl)
      clear hb8
      clear HS8 hn8 hm8
      go_wp2_with fail
      go_at_call 38
      refine Calls.mono (HHS.out _ (by first | exact Below.refl _ _ | exact HB8.out)) ?_
      rintro e w8 ⟨A8, c8, rfl, hs8, hn8, hm8, hb8⟩
      have HB8 := Lib.hid hb8
      have HS8 := Lib.hid hs8
      have u0 : w8.cell? ⟨w1.heap.size, 0, none⟩ = some (.string L) := (by rw [cell_of_row _ _ _ _ _ _ (HBY.out w8 hb8)]; rfl)
      have u1 : w8.cell? ⟨w1.heap.size, 1, none⟩ = some (.string M_) := (by rw [cell_of_row _ _ _ _ _ _ (HBY.out w8 hb8)]; rfl)
      have u2 : w8.cell? ⟨w1.heap.size, 2, none⟩ = some (.string F) := (by rw [cell_of_row _ _ _ _ _ _ (HBY.out w8 hb8)]; rfl)
      have u3 : w8.cell? ⟨w1.heap.size, 3, none⟩ = some (.slice A2 R.length c2) := (by rw [cell_of_row _ _ _ _ _ _ (HBY.out w8 hb8)]; rfl)
      have u4 : w8.cell? ⟨w1.heap.size, 4, none⟩ = some (.int .i64 keep) := (by rw [cell_of_row _ _ _ _ _ _ (HBY.out w8 hb8)]; rfl)
      clear hb8 hs8
      go_wp2_with fail
      go_at_call 37
      refine Calls.mono (HSM.out _ _ _ HB8.out HS8.out) ?_
      rintro e w8 ⟨rfl, hb8⟩
      have HB8 := Lib.hid hb8
      have u0 : w8.cell? ⟨w1.heap.size, 0, none⟩ = some (.string L) := (by rw [cell_of_row _ _ _ _ _ _ (HBY.out w8 hb8)]; rfl)
      have u1 : w8.cell? ⟨w1.heap.size, 1, none⟩ = some (.string M_) := (by rw [cell_of_row _ _ _ _ _ _ (HBY.out w8 hb8)]; rfl)
      have u2 : w8.cell? ⟨w1.heap.size, 2, none⟩ = some (.string F) := (by rw [cell_of_row _ _ _ _ _ _ (HBY.out w8 hb8)]; rfl)
      have u3 : w8.cell? ⟨w1.heap.size, 3, none⟩ = some (.slice A2 R.length c2) := (by rw [cell_of_row _ _ _ _ _ _ (HBY.out w8 hb8)]; rfl)
      have u4 : w8.cell? ⟨w1.heap.size, 4, none⟩ = some (.int .i64 keep) := (by rw [cell_of_row _ _ _ _ _ _ (HBY.out w8 hb8)]; rfl)
      clear hb8
      go_wp2
      go_ret
      exact ⟨rfl, HB5.out.trans (HB8.out.mono HB5.out.size)⟩

end Go.Proofs.Ytakadkhgcjndmaa.W
