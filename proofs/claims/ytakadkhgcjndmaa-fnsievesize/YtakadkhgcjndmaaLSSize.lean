/-
  Laws of filters that are drawn, as walks over the contracts: how many branches there are.
-/
import Derived.Test.YtakadkhgcjndmaaY3
import Derived.Test.YtakadkhgcjndmaaDS6
import Derived.Test.YtakadkhgcjndmaaLE1
import Derived.Test.YtakadkhgcjndmaaLSMeetsHas
namespace Go.Proofs.Ytakadkhgcjndmaa.W
open Go.RowKit K

def sumL (l : List ByteArray) (k : Nat) : Nat := ((l.take k).map fun s => s.size + 1).sum
theorem sumL_all (l : List ByteArray) : sumL l l.length = (l.map fun s => s.size + 1).sum := by unfold sumL; rw [List.take_length]
theorem sumL_step {l : List ByteArray} {k : Nat} (hk : k < l.length) : sumL l (k + 1) = sumL l k + l[k].size + 1 := by
  unfold sumL
  rw [List.take_succ_eq_append_getElem hk, List.map_append, List.sum_append]
  simp
  omega
theorem sumL_small {l : List ByteArray} (hl : ∀ s ∈ l, s.size ≤ 5) : ∀ k, k ≤ l.length → sumL l k ≤ 6 * k
  | 0, _ => by unfold sumL; simp
  | k + 1, hk => by
    rw [sumL_step hk]
    have h1 := sumL_small hl k (by omega)
    have h2 := hl _ (List.getElem_mem hk)
    omega

set_option maxHeartbeats 8000000 in
set_option maxRecDepth 100000 in
theorem lawSieveSize (w : World) (A : Option Addr) (n c : Nat) (hb0 : Bytes w w.heap.size A n) (hnc : n ≤ c) (hc : c ≤ maxLen) :
    Calls Try.prog 17 #[.slice A n c] w fun e w' => e = .returned (.bool true) ∧ Below w.heap.size w w' := by
  by_cases hbig : (1048576 : Int) < (n : Int)
  · clear hb0
    go_enter Try.func17, Try.ntmps17
    go_wp2
    go_ret
    exact ⟨rfl, Below.refl _ _⟩
  · go_enter Try.func17, Try.ntmps17
    go_wp2_with fail
    go_at_call 55
    refine (drawSize w A n c hb0 hnc hc).mono ?_
    rintro e w1 ⟨L, M_, F, R, keep, A2, c2, rfl, hfm⟩
    have HFM := Lib.hid hfm
    have HB1 := Lib.hid hfm.below
    clear hb0 hfm
    obtain ⟨s1, hc1, hm1⟩ := HFM.out.own.strs
    obtain ⟨W1, hW1⟩ : ∃ W1, W1 = w1.alloc (.cells #[.string L, .string M_, .string F, .slice A2 R.length c2, .int .i64 keep] 27) := ⟨_, rfl⟩
    have hbw : Below w1.heap.size w1 W1 := by rw [hW1]; exact (Below.refl _ _).alloc (Nat.le_refl _) _
    have HFL := Lib.hid (show Flt W1 L M_ F A2 R.length c2 R from ⟨by have := HFM.out.szL; unfold maxLen; omega, by have := HFM.out.szM; unfold maxLen; omega, by have := HFM.out.szF; unfold maxLen; omega, (s1.below hbw (Nat.le_refl _)).more hbw.size, hc1, hm1, fun i h => by have := HFM.out.szS _ (List.getElem_mem h); omega⟩)
    have HY1 := Lib.hid (show W1.heap[w1.heap.size]? = some (.cells #[.string L, .string M_, .string F, .slice A2 R.length c2, .int .i64 keep] 27 (0, 0)) by rw [hW1]; exact heap_alloc_new _ _)
    have HBX := Lib.hid (show ∀ W, Below W1.heap.size W1 W → W.heap[w1.heap.size]? = some (.cells #[.string L, .string M_, .string F, .slice A2 R.length c2, .int .i64 keep] 27 (0, 0)) from fun W hW => box_below HY1.out hW)
    have HB2 := Lib.hid (HB1.out.trans (hbw.mono HB1.out.size))
    have HW1 := Lib.hid hW1
    clear s1 hbw hW1
    go_upto_region 4 with fail
    rw [← HW1.out]
    have s0 : W1.cell? ⟨w1.heap.size, 0, none⟩ = some (.string L) := by rw [cell_of_row _ _ _ _ _ _ HY1.out]; rfl
    have s1 : W1.cell? ⟨w1.heap.size, 1, none⟩ = some (.string M_) := by rw [cell_of_row _ _ _ _ _ _ HY1.out]; rfl
    have s2 : W1.cell? ⟨w1.heap.size, 2, none⟩ = some (.string F) := by rw [cell_of_row _ _ _ _ _ _ HY1.out]; rfl
    have s3 : W1.cell? ⟨w1.heap.size, 3, none⟩ = some (.slice A2 R.length c2) := by rw [cell_of_row _ _ _ _ _ _ HY1.out]; rfl
    have s4 : W1.cell? ⟨w1.heap.size, 4, none⟩ = some (.int .i64 keep) := by rw [cell_of_row _ _ _ _ _ _ HY1.out]; rfl
    rcases Bool.eq_false_or_eq_true (svB L M_ F R keep) with gs | gs
    · obtain ⟨kp, hke, hmd⟩ := made_back gs
      have HSS := Lib.hid (show From W1 56 #[.agg #[.string L, .string M_, .string F, .slice A2 R.length c2, .int .i64 keep]] (.int .i64 (L.size : Nat)) by have h := HFL.out.sizeS keep; unfold sizeO at h; rw [gs] at h; exact h)
      have HSI := Lib.hid (show From W1 47 #[.agg #[.string L, .string M_, .string F, .slice A2 R.length c2, .int .i64 keep]] (.int .i64 (L.size : Nat)) by have h := HFL.out.size keep; unfold sizeO at h; rw [gs] at h; exact h)
      have hlow := hmd.size_low
      have hhigh := hmd.size_high
      have hk24 := (keys_iff.mp hmd.keys).1
      have hks : ∀ s ∈ hsOf L M_ F R kp, s.size ≤ 5 := fun s h => isK_size (show isK s from hmd.keyOf h)
      obtain ⟨hs, hhs⟩ : ∃ y, y = hsOf L M_ F R kp := ⟨_, rfl⟩
      have HHD := Lib.hid (show ∀ W, Below W1.heap.size W1 W → Calls Try.prog 34 #[.agg #[.string L, .string M_, .string F, .slice A2 R.length c2, .int .i64 keep]] W (NewF W1 hs) from fun W hW => by have h := HFL.out.heads keep W hW; have hsv := hmd.sv; rw [hke] at h hsv ⊢; rw [headsO_yes hsv] at h; rw [hhs]; exact h)
      rw [← hhs] at hlow hhigh hk24 hks
      have HKS := Lib.hid hks
      rw [← sumL_all] at hhigh
      have hL310 := HFM.out.szL
      have n0 : ¬ ((L.size : Nat) : Int) < 0 := by omega
      clear hhs hke hmd gs hks
      go_wp2_with (first | (go_at_call 56; refine Calls.mono (From.go HSS.out (by first | exact Below.refl _ _ | exact HB5.out)) ?_; rintro e w5 ⟨rfl, hb5⟩; (try clear s50 s51 s52 s53 s54); have HB5 := Lib.hid hb5; have s50 : w5.cell? ⟨w1.heap.size, 0, none⟩ = some (.string L) := (by rw [cell_of_row _ _ _ _ _ _ (HBX.out w5 hb5)]; rfl); have s51 : w5.cell? ⟨w1.heap.size, 1, none⟩ = some (.string M_) := (by rw [cell_of_row _ _ _ _ _ _ (HBX.out w5 hb5)]; rfl); have s52 : w5.cell? ⟨w1.heap.size, 2, none⟩ = some (.string F) := (by rw [cell_of_row _ _ _ _ _ _ (HBX.out w5 hb5)]; rfl); have s53 : w5.cell? ⟨w1.heap.size, 3, none⟩ = some (.slice A2 R.length c2) := (by rw [cell_of_row _ _ _ _ _ _ (HBX.out w5 hb5)]; rfl); have s54 : w5.cell? ⟨w1.heap.size, 4, none⟩ = some (.int .i64 keep) := (by rw [cell_of_row _ _ _ _ _ _ (HBX.out w5 hb5)]; rfl); clear hb5) | (go_at_call 47; refine Calls.mono (From.go HSI.out (by first | exact Below.refl _ _ | exact HB5.out)) ?_; rintro e w5 ⟨rfl, hb5⟩; (try clear s50 s51 s52 s53 s54); have HB5 := Lib.hid hb5; have s50 : w5.cell? ⟨w1.heap.size, 0, none⟩ = some (.string L) := (by rw [cell_of_row _ _ _ _ _ _ (HBX.out w5 hb5)]; rfl); have s51 : w5.cell? ⟨w1.heap.size, 1, none⟩ = some (.string M_) := (by rw [cell_of_row _ _ _ _ _ _ (HBX.out w5 hb5)]; rfl); have s52 : w5.cell? ⟨w1.heap.size, 2, none⟩ = some (.string F) := (by rw [cell_of_row _ _ _ _ _ _ (HBX.out w5 hb5)]; rfl); have s53 : w5.cell? ⟨w1.heap.size, 3, none⟩ = some (.slice A2 R.length c2) := (by rw [cell_of_row _ _ _ _ _ _ (HBX.out w5 hb5)]; rfl); have s54 : w5.cell? ⟨w1.heap.size, 4, none⟩ = some (.int .i64 keep) := (by rw [cell_of_row _ _ _ _ _ _ (HBX.out w5 hb5)]; rfl); clear hb5) | (go_at_call 34; refine Calls.mono (HHD.out _ (by first | exact Below.refl _ _ | exact HB5.out)) ?_; rintro e w5 ⟨A7, c7, rfl, hs7, hn7, hm7, hb5⟩; (try clear s50 s51 s52 s53 s54); have HS7 := Lib.hid hs7; have HB5 := Lib.hid hb5; clear hb5 hs7))
      go_loopw [5, 7] (fun s i wr => ∃ k : Nat, k ≤ hs.length ∧ i = .int .i64 (k : Nat) ∧ s = .int .i64 (sumL hs k : Nat) ∧ wr = w5) (fun _ i _ => hs.length - (intOf i).toNat)
      case atStart => exact ⟨0, Nat.zero_le _, rfl, rfl, rfl⟩
      case round =>
        obtain ⟨k, hk, rfl, rfl, hwr⟩ := hrel
        subst hwr
        by_cases hlt : k < hs.length
        · obtain ⟨kb, ko, hA, hkb, kc⟩ := HS7.out.cell k hlt
          subst hA
          have x0 : (0 : Int) ≤ (k : Int) := by omega
          have x1 : (k : Int) < (hs.length : Int) := by omega
          have hst := sumL_step hlt
          have hsm := sumL_small HKS.out k hk
          have hz := HKS.out _ (List.getElem_mem hlt)
          obtain ⟨kk, hkk⟩ : ∃ x, x = hs[k] := ⟨_, rfl⟩
          obtain ⟨Sk, hSk⟩ : ∃ x, x = sumL hs k := ⟨_, rfl⟩
          rw [← hkk] at kc hst hz
          rw [← hSk] at hst hsm
          rw [← hSk]
          clear hkk hSk hlow hhigh
          go_wp2
          go_roundw
          case rel => exact ⟨k + 1, by omega, by go_num, by rw [hst]; go_num, by first | rfl | trivial⟩
          case measure => simp [intOf]; omega
        · have hke : k = hs.length := by omega
          subst hke
          obtain ⟨S, hS⟩ : ∃ x, x = sumL hs hs.length := ⟨_, rfl⟩
          rw [← hS] at hhigh
          rw [← hS]
          have x2 : (hs.length : Int) ≤ (L.size : Int) := by omega
          have x3 : (L.size : Int) ≤ (S : Int) := by omega
          clear hS
          go_wp2
          go_ret
          exact ⟨rfl, HB2.out.trans (HB5.out.mono HB2.out.size)⟩
    · have HSS := Lib.hid (show From W1 56 #[.agg #[.string L, .string M_, .string F, .slice A2 R.length c2, .int .i64 keep]] (.int .i64 (-1)) by have h := HFL.out.sizeS keep; unfold sizeO at h; rw [gs] at h; exact h)
      have HSI := Lib.hid (show From W1 47 #[.agg #[.string L, .string M_, .string F, .slice A2 R.length c2, .int .i64 keep]] (.int .i64 (-1)) by have h := HFL.out.size keep; unfold sizeO at h; rw [gs] at h; exact h)
      clear gs
      go_wp2_with (first | (go_at_call 56; refine Calls.mono (From.go HSS.out (by first | exact Below.refl _ _ | exact HB5.out)) ?_; rintro e w5 ⟨rfl, hb5⟩; (try clear s50 s51 s52 s53 s54); have HB5 := Lib.hid hb5; have s50 : w5.cell? ⟨w1.heap.size, 0, none⟩ = some (.string L) := (by rw [cell_of_row _ _ _ _ _ _ (HBX.out w5 hb5)]; rfl); have s51 : w5.cell? ⟨w1.heap.size, 1, none⟩ = some (.string M_) := (by rw [cell_of_row _ _ _ _ _ _ (HBX.out w5 hb5)]; rfl); have s52 : w5.cell? ⟨w1.heap.size, 2, none⟩ = some (.string F) := (by rw [cell_of_row _ _ _ _ _ _ (HBX.out w5 hb5)]; rfl); have s53 : w5.cell? ⟨w1.heap.size, 3, none⟩ = some (.slice A2 R.length c2) := (by rw [cell_of_row _ _ _ _ _ _ (HBX.out w5 hb5)]; rfl); have s54 : w5.cell? ⟨w1.heap.size, 4, none⟩ = some (.int .i64 keep) := (by rw [cell_of_row _ _ _ _ _ _ (HBX.out w5 hb5)]; rfl); clear hb5) | (go_at_call 47; refine Calls.mono (From.go HSI.out (by first | exact Below.refl _ _ | exact HB5.out)) ?_; rintro e w5 ⟨rfl, hb5⟩; (try clear s50 s51 s52 s53 s54); have HB5 := Lib.hid hb5; have s50 : w5.cell? ⟨w1.heap.size, 0, none⟩ = some (.string L) := (by rw [cell_of_row _ _ _ _ _ _ (HBX.out w5 hb5)]; rfl); have s51 : w5.cell? ⟨w1.heap.size, 1, none⟩ = some (.string M_) := (by rw [cell_of_row _ _ _ _ _ _ (HBX.out w5 hb5)]; rfl); have s52 : w5.cell? ⟨w1.heap.size, 2, none⟩ = some (.string F) := (by rw [cell_of_row _ _ _ _ _ _ (HBX.out w5 hb5)]; rfl); have s53 : w5.cell? ⟨w1.heap.size, 3, none⟩ = some (.slice A2 R.length c2) := (by rw [cell_of_row _ _ _ _ _ _ (HBX.out w5 hb5)]; rfl); have s54 : w5.cell? ⟨w1.heap.size, 4, none⟩ = some (.int .i64 keep) := (by rw [cell_of_row _ _ _ _ _ _ (HBX.out w5 hb5)]; rfl); clear hb5))
      go_ret
      exact ⟨rfl, HB2.out.trans (HB5.out.mono HB2.out.size)⟩

end Go.Proofs.Ytakadkhgcjndmaa.W
