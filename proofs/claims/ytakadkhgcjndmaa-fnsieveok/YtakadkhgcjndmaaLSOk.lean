/-
  Laws of filters that are drawn, as walks over the contracts: as many forks as branches that go on, and one.
-/
import Derived.Test.YtakadkhgcjndmaaY3
import Derived.Test.YtakadkhgcjndmaaDS8
import Derived.Test.YtakadkhgcjndmaaLE1
import Derived.Test.YtakadkhgcjndmaaLSMeetsHas
import Derived.Test.YtakadkhgcjndmaaLSB
import Derived.Test.YtakadkhgcjndmaaW5
import Derived.Deep.RegionHeld3
namespace Go.Proofs.Ytakadkhgcjndmaa.W
open Go.RowKit K

theorem ones_all {s : ByteArray} {n : Nat} (hok : M.okB s.data.toList = true) (hn : s.size = n) : onesR s (n : Nat) = ((M.ones s.toList : Nat) : Int) := by
  unfold onesR
  rw [if_pos ⟨hok, by omega, by omega⟩, Int.toNat_natCast]
  unfold cntI
  rw [List.take_of_length_le (by rw [← hn]; simp), ByteArray.toList_eq]
theorem svB_bits {L M_ F : ByteArray} {R : List ByteArray} {keep : Int} (h : svB L M_ F R keep = true) : M.okB M_.data.toList = true ∧ M.okB F.data.toList = true := by
  unfold svB at h
  rw [Bool.and_eq_true] at h
  have h1 := h.1
  unfold formB at h1
  simp only [Bool.and_eq_true] at h1
  exact ⟨h1.1, h1.2.1⟩

set_option maxHeartbeats 8000000 in
set_option maxRecDepth 100000 in
theorem lawSieveOk (w : World) (A : Option Addr) (n c : Nat) (hb0 : Bytes w w.heap.size A n) (hnc : n ≤ c) (hc : c ≤ maxLen) :
    Calls Try.prog 7 #[.slice A n c] w fun e w' => e = .returned (.bool true) ∧ Below w.heap.size w w' := by
  by_cases hbig : (1048576 : Int) < (n : Int)
  · clear hb0
    go_enter Try.func7, Try.ntmps7
    go_wp2
    go_ret
    exact ⟨rfl, Below.refl _ _⟩
  · go_enter Try.func7, Try.ntmps7
    go_wp2_with fail
    go_at_call 40
    refine (drawOk w A n c hb0 hnc hc).mono ?_
    rintro e w1 ⟨L, M_, F, R, keep, A2, c2, rfl, hfm⟩
    have HFM := Lib.hid hfm
    have HB1 := Lib.hid hfm.below
    clear hb0 hfm
    obtain ⟨s1, hc1, hm1⟩ := HFM.out.own.strs
    obtain ⟨W1, hW1⟩ : ∃ W1, W1 = w1.alloc (.cells #[.string L, .string M_, .string F, .slice A2 R.length c2, .int .i64 keep] 27) := ⟨_, rfl⟩
    have hbw : Below w1.heap.size w1 W1 := by rw [hW1]; exact (Below.refl _ _).alloc (Nat.le_refl _) _
    have HFL := Lib.hid (show Flt W1 L M_ F A2 R.length c2 R from ⟨by have := HFM.out.szL; unfold maxLen; omega, by have := HFM.out.szM; unfold maxLen; omega, by have := HFM.out.szF; unfold maxLen; omega, (s1.below hbw (Nat.le_refl _)).more hbw.size, hc1, hm1, fun i h => by have := HFM.out.szS _ (List.getElem_mem h); omega⟩)
    have HY1 := Lib.hid (show W1.heap[w1.heap.size]? = some (.cells #[.string L, .string M_, .string F, .slice A2 R.length c2, .int .i64 keep] 27 (0, 0)) by rw [hW1]; exact heap_alloc_new _ _)
    have HBX := Lib.hid (show ∀ W, Below W1.heap.size W1 W → W.heap[w1.heap.size]? = some (.cells #[.string L, .string M_, .string F, .slice A2 R.length c2, .int .i64 keep] 27 (0, 0)) from fun W hW => box_below HY1.out hW)
    have HB2 := Lib.hid (HB1.out.trans (hbw.mono HB1.out.size))
    have HW1 := Lib.hid hW1
    clear s1 hbw hW1
    go_upto_region 4 with fail
    rw [← HW1.out]
    have s0 : W1.cell? ⟨w1.heap.size, 0, none⟩ = some (.string L) := by rw [cell_of_row _ _ _ _ _ _ HY1.out]; rfl
    have s1 : W1.cell? ⟨w1.heap.size, 1, none⟩ = some (.string M_) := by rw [cell_of_row _ _ _ _ _ _ HY1.out]; rfl
    have s2 : W1.cell? ⟨w1.heap.size, 2, none⟩ = some (.string F) := by rw [cell_of_row _ _ _ _ _ _ HY1.out]; rfl
    have s3 : W1.cell? ⟨w1.heap.size, 3, none⟩ = some (.slice A2 R.length c2) := by rw [cell_of_row _ _ _ _ _ _ HY1.out]; rfl
    have s4 : W1.cell? ⟨w1.heap.size, 4, none⟩ = some (.int .i64 keep) := by rw [cell_of_row _ _ _ _ _ _ HY1.out]; rfl
    have HOI := Lib.hid (HFL.out.ok keep)
    have HOS := Lib.hid (HFL.out.okS keep)
    rcases Bool.eq_false_or_eq_true (svB L M_ F R keep) with gs | gs
    · obtain ⟨kp, hke, hmd⟩ := made_back gs
      obtain ⟨p1, p2, p3, p4⟩ := hmd.parts
      obtain ⟨k1, k2⟩ := svB_bits gs
      rw [gs] at HOI HOS
      have q1 := ones_all k1 p1
      have q2 := ones_all k2 p2
      obtain ⟨a1, ha1⟩ : ∃ x : Nat, x = M.ones M_.toList := ⟨_, rfl⟩
      obtain ⟨b1, hb1⟩ : ∃ x : Nat, x = M.ones F.toList := ⟨_, rfl⟩
      rw [← ha1] at p3 p4 q1
      rw [← hb1] at p4 q2
      have hL310 := HFM.out.szL
      have HBO := Lib.hid (show ∀ (s : ByteArray) (x : Nat), (s = M_ ∧ x = a1 ∨ s = F ∧ x = b1) → From W1 42 #[.string s, .int .i64 (L.size : Nat)] (.int .i64 (x : Nat)) from fun s x hs => by
        rcases hs with ⟨rfl, rfl⟩ | ⟨rfl, rfl⟩
        · rw [← q1]; exact From.mk fun W hW => bitsOnesI _ _ W (by unfold maxLen; omega)
        · rw [← q2]; exact From.mk fun W hW => bitsOnesI _ _ W (by unfold maxLen; omega))
      have HSS := Lib.hid (show ∀ W, Below W1.heap.size W1 W → (fun W : World => W.cell? ⟨w1.heap.size, 1, none⟩ = some (.string M_) ∧ W.cell? ⟨w1.heap.size, 2, none⟩ = some (.string F) ∧ W.cell? ⟨w1.heap.size, 3, none⟩ = some (.slice A2 R.length c2)) W from fun W hW => by
        have h := HBX.out W hW
        refine ⟨?_, ?_, ?_⟩ <;> (rw [cell_of_row _ _ _ _ _ _ h]; rfl))
      have hw1 : IntKind.i64.wrap ((L.size : Int) - (a1 : Int)) = (R.length : Int) := i64_nat R.length (by omega) _ (by omega)
      have HP1 := Lib.hid p1
      have HP2 := Lib.hid p2
      have hm1 : ((M_.size : Nat) : Int) = (L.size : Int) := by omega
      have hf1 : ((F.size : Nat) : Int) = (L.size : Int) := by omega
      rcases (by omega : L.size = 0 ∨ L.size = 1 ∨ 1 < L.size) with hz | hz | hz
      · have hw2 : IntKind.i64.wrap ((a1 : Int) + (L.size : Int)) = (b1 : Int) := i64_nat b1 (by omega) _ (by omega)
        have m1 : ((1 : Int) < (L.size : Int)) = False := by simp; omega
        have m2 : ((L.size : Int) < 1) = True := by simp; omega
        have m3 : ((L.size : Int) ≤ 1) = True := by simp; omega
        have m4 : ((1 : Int) ≤ (L.size : Int)) = False := by simp; omega
        clear gs ha1 hb1 q1 q2 p1 p2 p3 p4 k1 k2 hke hmd hz
        go_wp2_with (first | (go_at_call 41; refine Calls.mono (From.go HOI.out (by first | exact Below.refl _ _ | exact HB5.out)) ?_; rintro e w5 ⟨rfl, hb5⟩; (try clear s50 s51 s52 s53 s54); have HB5 := Lib.hid hb5; have s50 : w5.cell? ⟨w1.heap.size, 0, none⟩ = some (.string L) := (by rw [cell_of_row _ _ _ _ _ _ (HBX.out w5 hb5)]; rfl); have s51 : w5.cell? ⟨w1.heap.size, 1, none⟩ = some (.string M_) := (by rw [cell_of_row _ _ _ _ _ _ (HBX.out w5 hb5)]; rfl); have s52 : w5.cell? ⟨w1.heap.size, 2, none⟩ = some (.string F) := (by rw [cell_of_row _ _ _ _ _ _ (HBX.out w5 hb5)]; rfl); have s53 : w5.cell? ⟨w1.heap.size, 3, none⟩ = some (.slice A2 R.length c2) := (by rw [cell_of_row _ _ _ _ _ _ (HBX.out w5 hb5)]; rfl); have s54 : w5.cell? ⟨w1.heap.size, 4, none⟩ = some (.int .i64 keep) := (by rw [cell_of_row _ _ _ _ _ _ (HBX.out w5 hb5)]; rfl); clear hb5) | (go_at_call 39; refine Calls.mono (From.go HOS.out (by first | exact Below.refl _ _ | exact HB5.out)) ?_; rintro e w5 ⟨rfl, hb5⟩; (try clear s50 s51 s52 s53 s54); have HB5 := Lib.hid hb5; have s50 : w5.cell? ⟨w1.heap.size, 0, none⟩ = some (.string L) := (by rw [cell_of_row _ _ _ _ _ _ (HBX.out w5 hb5)]; rfl); have s51 : w5.cell? ⟨w1.heap.size, 1, none⟩ = some (.string M_) := (by rw [cell_of_row _ _ _ _ _ _ (HBX.out w5 hb5)]; rfl); have s52 : w5.cell? ⟨w1.heap.size, 2, none⟩ = some (.string F) := (by rw [cell_of_row _ _ _ _ _ _ (HBX.out w5 hb5)]; rfl); have s53 : w5.cell? ⟨w1.heap.size, 3, none⟩ = some (.slice A2 R.length c2) := (by rw [cell_of_row _ _ _ _ _ _ (HBX.out w5 hb5)]; rfl); have s54 : w5.cell? ⟨w1.heap.size, 4, none⟩ = some (.int .i64 keep) := (by rw [cell_of_row _ _ _ _ _ _ (HBX.out w5 hb5)]; rfl); clear hb5))
        go_region_held3 (fun W : World => W.cell? ⟨w1.heap.size, 1, none⟩ = some (.string M_) ∧ W.cell? ⟨w1.heap.size, 2, none⟩ = some (.string F) ∧ W.cell? ⟨w1.heap.size, 3, none⟩ = some (.slice A2 R.length c2)) (exact HSS.out _ (by first | exact HB9.out | exact bel_to HB5.out (by rfl) (by rfl) (by rfl) (by rfl))) (first | (go_at_call 42; refine Calls.mono (HBO.out _ _ (by first | exact .inl ⟨rfl, rfl⟩ | exact .inr ⟨rfl, rfl⟩) _ (by first | exact HB9.out | exact bel_to HB5.out (by rfl) (by rfl) (by rfl) (by rfl))) ?_; rintro e w9 ⟨rfl, hb9⟩; have HB9 := Lib.hid hb9; clear hb9))
        all_goals
          go_wp2
          go_ret
          exact ⟨rfl, HB2.out.trans (HB9.out.mono HB2.out.size)⟩
      · have hw2 : IntKind.i64.wrap ((a1 : Int) + (L.size : Int)) = (b1 : Int) := i64_nat b1 (by omega) _ (by omega)
        have hw3 : IntKind.i64.wrap ((a1 : Int) + 1) = (b1 : Int) := i64_nat b1 (by omega) _ (by omega)
        have m1 : ((1 : Int) < (L.size : Int)) = False := by simp; omega
        have m2 : ((L.size : Int) < 1) = False := by simp; omega
        have m3 : ((L.size : Int) ≤ 1) = True := by simp; omega
        have m4 : ((1 : Int) ≤ (L.size : Int)) = True := by simp; omega
        clear gs ha1 hb1 q1 q2 p1 p2 p3 p4 k1 k2 hke hmd hz
        go_wp2_with (first | (go_at_call 41; refine Calls.mono (From.go HOI.out (by first | exact Below.refl _ _ | exact HB5.out)) ?_; rintro e w5 ⟨rfl, hb5⟩; (try clear s50 s51 s52 s53 s54); have HB5 := Lib.hid hb5; have s50 : w5.cell? ⟨w1.heap.size, 0, none⟩ = some (.string L) := (by rw [cell_of_row _ _ _ _ _ _ (HBX.out w5 hb5)]; rfl); have s51 : w5.cell? ⟨w1.heap.size, 1, none⟩ = some (.string M_) := (by rw [cell_of_row _ _ _ _ _ _ (HBX.out w5 hb5)]; rfl); have s52 : w5.cell? ⟨w1.heap.size, 2, none⟩ = some (.string F) := (by rw [cell_of_row _ _ _ _ _ _ (HBX.out w5 hb5)]; rfl); have s53 : w5.cell? ⟨w1.heap.size, 3, none⟩ = some (.slice A2 R.length c2) := (by rw [cell_of_row _ _ _ _ _ _ (HBX.out w5 hb5)]; rfl); have s54 : w5.cell? ⟨w1.heap.size, 4, none⟩ = some (.int .i64 keep) := (by rw [cell_of_row _ _ _ _ _ _ (HBX.out w5 hb5)]; rfl); clear hb5) | (go_at_call 39; refine Calls.mono (From.go HOS.out (by first | exact Below.refl _ _ | exact HB5.out)) ?_; rintro e w5 ⟨rfl, hb5⟩; (try clear s50 s51 s52 s53 s54); have HB5 := Lib.hid hb5; have s50 : w5.cell? ⟨w1.heap.size, 0, none⟩ = some (.string L) := (by rw [cell_of_row _ _ _ _ _ _ (HBX.out w5 hb5)]; rfl); have s51 : w5.cell? ⟨w1.heap.size, 1, none⟩ = some (.string M_) := (by rw [cell_of_row _ _ _ _ _ _ (HBX.out w5 hb5)]; rfl); have s52 : w5.cell? ⟨w1.heap.size, 2, none⟩ = some (.string F) := (by rw [cell_of_row _ _ _ _ _ _ (HBX.out w5 hb5)]; rfl); have s53 : w5.cell? ⟨w1.heap.size, 3, none⟩ = some (.slice A2 R.length c2) := (by rw [cell_of_row _ _ _ _ _ _ (HBX.out w5 hb5)]; rfl); have s54 : w5.cell? ⟨w1.heap.size, 4, none⟩ = some (.int .i64 keep) := (by rw [cell_of_row _ _ _ _ _ _ (HBX.out w5 hb5)]; rfl); clear hb5))
        go_region_held3 (fun W : World => W.cell? ⟨w1.heap.size, 1, none⟩ = some (.string M_) ∧ W.cell? ⟨w1.heap.size, 2, none⟩ = some (.string F) ∧ W.cell? ⟨w1.heap.size, 3, none⟩ = some (.slice A2 R.length c2)) (exact HSS.out _ (by first | exact HB9.out | exact bel_to HB5.out (by rfl) (by rfl) (by rfl) (by rfl))) (first | (go_at_call 42; refine Calls.mono (HBO.out _ _ (by first | exact .inl ⟨rfl, rfl⟩ | exact .inr ⟨rfl, rfl⟩) _ (by first | exact HB9.out | exact bel_to HB5.out (by rfl) (by rfl) (by rfl) (by rfl))) ?_; rintro e w9 ⟨rfl, hb9⟩; have HB9 := Lib.hid hb9; clear hb9))
        all_goals
          go_wp2
          go_ret
          exact ⟨rfl, HB2.out.trans (HB9.out.mono HB2.out.size)⟩
      · have hw3 : IntKind.i64.wrap ((a1 : Int) + 1) = (b1 : Int) := i64_nat b1 (by omega) _ (by omega)
        have m1 : ((1 : Int) < (L.size : Int)) = True := by simp; omega
        have m2 : ((L.size : Int) < 1) = False := by simp; omega
        have m3 : ((L.size : Int) ≤ 1) = False := by simp; omega
        have m4 : ((1 : Int) ≤ (L.size : Int)) = True := by simp; omega
        clear gs ha1 hb1 q1 q2 p1 p2 p3 p4 k1 k2 hke hmd hz
        go_wp2_with (first | (go_at_call 41; refine Calls.mono (From.go HOI.out (by first | exact Below.refl _ _ | exact HB5.out)) ?_; rintro e w5 ⟨rfl, hb5⟩; (try clear s50 s51 s52 s53 s54); have HB5 := Lib.hid hb5; have s50 : w5.cell? ⟨w1.heap.size, 0, none⟩ = some (.string L) := (by rw [cell_of_row _ _ _ _ _ _ (HBX.out w5 hb5)]; rfl); have s51 : w5.cell? ⟨w1.heap.size, 1, none⟩ = some (.string M_) := (by rw [cell_of_row _ _ _ _ _ _ (HBX.out w5 hb5)]; rfl); have s52 : w5.cell? ⟨w1.heap.size, 2, none⟩ = some (.string F) := (by rw [cell_of_row _ _ _ _ _ _ (HBX.out w5 hb5)]; rfl); have s53 : w5.cell? ⟨w1.heap.size, 3, none⟩ = some (.slice A2 R.length c2) := (by rw [cell_of_row _ _ _ _ _ _ (HBX.out w5 hb5)]; rfl); have s54 : w5.cell? ⟨w1.heap.size, 4, none⟩ = some (.int .i64 keep) := (by rw [cell_of_row _ _ _ _ _ _ (HBX.out w5 hb5)]; rfl); clear hb5) | (go_at_call 39; refine Calls.mono (From.go HOS.out (by first | exact Below.refl _ _ | exact HB5.out)) ?_; rintro e w5 ⟨rfl, hb5⟩; (try clear s50 s51 s52 s53 s54); have HB5 := Lib.hid hb5; have s50 : w5.cell? ⟨w1.heap.size, 0, none⟩ = some (.string L) := (by rw [cell_of_row _ _ _ _ _ _ (HBX.out w5 hb5)]; rfl); have s51 : w5.cell? ⟨w1.heap.size, 1, none⟩ = some (.string M_) := (by rw [cell_of_row _ _ _ _ _ _ (HBX.out w5 hb5)]; rfl); have s52 : w5.cell? ⟨w1.heap.size, 2, none⟩ = some (.string F) := (by rw [cell_of_row _ _ _ _ _ _ (HBX.out w5 hb5)]; rfl); have s53 : w5.cell? ⟨w1.heap.size, 3, none⟩ = some (.slice A2 R.length c2) := (by rw [cell_of_row _ _ _ _ _ _ (HBX.out w5 hb5)]; rfl); have s54 : w5.cell? ⟨w1.heap.size, 4, none⟩ = some (.int .i64 keep) := (by rw [cell_of_row _ _ _ _ _ _ (HBX.out w5 hb5)]; rfl); clear hb5))
        go_region_held3 (fun W : World => W.cell? ⟨w1.heap.size, 1, none⟩ = some (.string M_) ∧ W.cell? ⟨w1.heap.size, 2, none⟩ = some (.string F) ∧ W.cell? ⟨w1.heap.size, 3, none⟩ = some (.slice A2 R.length c2)) (exact HSS.out _ (by first | exact HB9.out | exact bel_to HB5.out (by rfl) (by rfl) (by rfl) (by rfl))) (first | (go_at_call 42; refine Calls.mono (HBO.out _ _ (by first | exact .inl ⟨rfl, rfl⟩ | exact .inr ⟨rfl, rfl⟩) _ (by first | exact HB9.out | exact bel_to HB5.out (by rfl) (by rfl) (by rfl) (by rfl))) ?_; rintro e w9 ⟨rfl, hb9⟩; have HB9 := Lib.hid hb9; clear hb9))
        all_goals
          go_wp2
          go_ret
          exact ⟨rfl, HB2.out.trans (HB9.out.mono HB2.out.size)⟩
    · rw [gs] at HOI HOS
      clear gs
      go_wp2_with (first | (go_at_call 41; refine Calls.mono (From.go HOI.out (by first | exact Below.refl _ _ | exact HB5.out)) ?_; rintro e w5 ⟨rfl, hb5⟩; (try clear s50 s51 s52 s53 s54); have HB5 := Lib.hid hb5; have s50 : w5.cell? ⟨w1.heap.size, 0, none⟩ = some (.string L) := (by rw [cell_of_row _ _ _ _ _ _ (HBX.out w5 hb5)]; rfl); have s51 : w5.cell? ⟨w1.heap.size, 1, none⟩ = some (.string M_) := (by rw [cell_of_row _ _ _ _ _ _ (HBX.out w5 hb5)]; rfl); have s52 : w5.cell? ⟨w1.heap.size, 2, none⟩ = some (.string F) := (by rw [cell_of_row _ _ _ _ _ _ (HBX.out w5 hb5)]; rfl); have s53 : w5.cell? ⟨w1.heap.size, 3, none⟩ = some (.slice A2 R.length c2) := (by rw [cell_of_row _ _ _ _ _ _ (HBX.out w5 hb5)]; rfl); have s54 : w5.cell? ⟨w1.heap.size, 4, none⟩ = some (.int .i64 keep) := (by rw [cell_of_row _ _ _ _ _ _ (HBX.out w5 hb5)]; rfl); clear hb5) | (go_at_call 39; refine Calls.mono (From.go HOS.out (by first | exact Below.refl _ _ | exact HB5.out)) ?_; rintro e w5 ⟨rfl, hb5⟩; (try clear s50 s51 s52 s53 s54); have HB5 := Lib.hid hb5; have s50 : w5.cell? ⟨w1.heap.size, 0, none⟩ = some (.string L) := (by rw [cell_of_row _ _ _ _ _ _ (HBX.out w5 hb5)]; rfl); have s51 : w5.cell? ⟨w1.heap.size, 1, none⟩ = some (.string M_) := (by rw [cell_of_row _ _ _ _ _ _ (HBX.out w5 hb5)]; rfl); have s52 : w5.cell? ⟨w1.heap.size, 2, none⟩ = some (.string F) := (by rw [cell_of_row _ _ _ _ _ _ (HBX.out w5 hb5)]; rfl); have s53 : w5.cell? ⟨w1.heap.size, 3, none⟩ = some (.slice A2 R.length c2) := (by rw [cell_of_row _ _ _ _ _ _ (HBX.out w5 hb5)]; rfl); have s54 : w5.cell? ⟨w1.heap.size, 4, none⟩ = some (.int .i64 keep) := (by rw [cell_of_row _ _ _ _ _ _ (HBX.out w5 hb5)]; rfl); clear hb5))
      go_ret
      exact ⟨rfl, HB2.out.trans (HB5.out.mono HB2.out.size)⟩

end Go.Proofs.Ytakadkhgcjndmaa.W
