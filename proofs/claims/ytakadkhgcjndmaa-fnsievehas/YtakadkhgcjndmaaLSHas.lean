/-
  Laws of filters that are drawn, as walks over the contracts: what may be there begins with what is kept.
-/
import Derived.Test.YtakadkhgcjndmaaY3
import Derived.Test.YtakadkhgcjndmaaDS6
import Derived.Test.YtakadkhgcjndmaaLE1
import Derived.Test.YtakadkhgcjndmaaLSMeetsHas
namespace Go.Proofs.Ytakadkhgcjndmaa.W
open Go.RowKit K

def anyL (l : List ByteArray) (a : ByteArray) (k : Nat) : Bool := (l.take k).any fun h => begB a h
theorem anyL_step {l : List ByteArray} (a : ByteArray) {k : Nat} (hk : k < l.length) : anyL l a (k + 1) = (anyL l a k || begB a l[k]) := by
  unfold anyL
  rw [List.take_succ_eq_append_getElem hk, List.any_append]
  simp
theorem anyL_all {l : List ByteArray} {a : ByteArray} (h : ∃ x ∈ l, begB a x = true) : anyL l a l.length = true := by
  unfold anyL
  rw [List.take_length, List.any_eq_true]
  exact h

set_option maxHeartbeats 8000000 in
set_option maxRecDepth 100000 in
theorem lawSieveHas (w : World) (A : Option Addr) (n c : Nat) (hb0 : Bytes w w.heap.size A n) (hnc : n ≤ c) (hc : c ≤ maxLen) :
    Calls Try.prog 8 #[.slice A n c] w fun e w' => e = .returned (.bool true) ∧ Below w.heap.size w w' := by
  by_cases hbig : (1048576 : Int) < (n : Int)
  · clear hb0
    go_enter Try.func8, Try.ntmps8
    go_wp2
    go_ret
    exact ⟨rfl, Below.refl _ _⟩
  · go_enter Try.func8, Try.ntmps8
    go_wp2_with fail
    go_at_call 43
    refine (drawHas w A n c hb0 hnc hc).mono ?_
    rintro e w1 ⟨L, M_, F, R, keep, A2, c2, a, rfl, hka, hfm⟩
    have HFM := Lib.hid hfm
    have HB1 := Lib.hid hfm.below
    have HKA := Lib.hid (show keyB a = true from hka)
    have hasz : a.size ≤ maxLen := by have := isK_size hka; unfold maxLen; omega
    clear hb0 hfm hka
    obtain ⟨s1, hc1, hm1⟩ := HFM.out.own.strs
    obtain ⟨W1, hW1⟩ : ∃ W1, W1 = w1.alloc (.cells #[.string L, .string M_, .string F, .slice A2 R.length c2, .int .i64 keep] 27) := ⟨_, rfl⟩
    have hbw : Below w1.heap.size w1 W1 := by rw [hW1]; exact (Below.refl _ _).alloc (Nat.le_refl _) _
    have HFL := Lib.hid (show Flt W1 L M_ F A2 R.length c2 R from ⟨by have := HFM.out.szL; unfold maxLen; omega, by have := HFM.out.szM; unfold maxLen; omega, by have := HFM.out.szF; unfold maxLen; omega, (s1.below hbw (Nat.le_refl _)).more hbw.size, hc1, hm1, fun i h => by have := HFM.out.szS _ (List.getElem_mem h); omega⟩)
    have HY1 := Lib.hid (show W1.heap[w1.heap.size]? = some (.cells #[.string L, .string M_, .string F, .slice A2 R.length c2, .int .i64 keep] 27 (0, 0)) by rw [hW1]; exact heap_alloc_new _ _)
    have HBX := Lib.hid (show ∀ W, Below W1.heap.size W1 W → W.heap[w1.heap.size]? = some (.cells #[.string L, .string M_, .string F, .slice A2 R.length c2, .int .i64 keep] 27 (0, 0)) from fun W hW => box_below HY1.out hW)
    have HB2 := Lib.hid (HB1.out.trans (hbw.mono HB1.out.size))
    have HW1 := Lib.hid hW1
    clear s1 hbw hW1
    go_upto_region 4 with fail
    rw [← HW1.out]
    have s0 : W1.cell? ⟨w1.heap.size, 0, none⟩ = some (.string L) := by rw [cell_of_row _ _ _ _ _ _ HY1.out]; rfl
    have s1 : W1.cell? ⟨w1.heap.size, 1, none⟩ = some (.string M_) := by rw [cell_of_row _ _ _ _ _ _ HY1.out]; rfl
    have s2 : W1.cell? ⟨w1.heap.size, 2, none⟩ = some (.string F) := by rw [cell_of_row _ _ _ _ _ _ HY1.out]; rfl
    have s3 : W1.cell? ⟨w1.heap.size, 3, none⟩ = some (.slice A2 R.length c2) := by rw [cell_of_row _ _ _ _ _ _ HY1.out]; rfl
    have s4 : W1.cell? ⟨w1.heap.size, 4, none⟩ = some (.int .i64 keep) := by rw [cell_of_row _ _ _ _ _ _ HY1.out]; rfl
    have HQA := Lib.hid (show ∀ W, Calls Try.prog 45 #[.string a] W fun e w' => e = .returned (.bool true) ∧ W = w' from fun W => by have h := keyS a W hasz; rw [HKA.out] at h; exact h)
    have HOK := Lib.hid (HFL.out.okS keep)
    rcases Bool.eq_false_or_eq_true (svB L M_ F R keep) with gs | gs
    · obtain ⟨kp, hke, hmd⟩ := made_back gs
      rw [gs] at HOK
      obtain ⟨z, hz⟩ : ∃ z, hasO L M_ F R keep a = z := ⟨_, rfl⟩
      have HHS := Lib.hid (show From W1 44 #[.agg #[.string L, .string M_, .string F, .slice A2 R.length c2, .int .i64 keep], .string a] (.bool z) by have h := HFL.out.hasS keep a hasz; rw [hz] at h; exact h)
      have HHI := Lib.hid (show From W1 32 #[.agg #[.string L, .string M_, .string F, .slice A2 R.length c2, .int .i64 keep], .string a] (.bool z) by have h := HFL.out.has keep a hasz; rw [hz] at h; exact h)
      have HBG := Lib.hid (show z = true → ∃ x ∈ hsOf L M_ F R kp, begB a x = true from fun h => hmd.has_beg (hz.trans h))
      have HNV := Lib.hid (show z = false → inL (hsOf L M_ F R kp) a = false from fun h => by
        rw [← Bool.not_eq_true, inL_iff]
        intro h2
        have h3 := hmd.never h2
        rw [hz, h] at h3
        cases h3)
      obtain ⟨hs, hhs⟩ : ∃ y, y = hsOf L M_ F R kp := ⟨_, rfl⟩
      have HHD := Lib.hid (show ∀ W, Below W1.heap.size W1 W → Calls Try.prog 34 #[.agg #[.string L, .string M_, .string F, .slice A2 R.length c2, .int .i64 keep]] W (NewF W1 hs) from fun W hW => by have h := HFL.out.heads keep W hW; have hsv := hmd.sv; rw [hke] at h hsv ⊢; rw [headsO_yes hsv] at h; rw [hhs]; exact h)
      have hk24 := (keys_iff.mp hmd.keys).1
      rw [← hhs] at HBG HNV hk24
      clear hhs hke hmd gs hz
      cases z with
      | true =>
        have HBX2 := Lib.hid (HBG.out rfl)
        go_wp2_with (first | (go_at_call 32; refine Calls.mono (From.go HHI.out (by first | exact Below.refl _ _ | exact HB5.out)) ?_; rintro e w5 ⟨rfl, hb5⟩; (try clear s50 s51 s52 s53 s54); have HB5 := Lib.hid hb5; have s50 : w5.cell? ⟨w1.heap.size, 0, none⟩ = some (.string L) := (by rw [cell_of_row _ _ _ _ _ _ (HBX.out w5 hb5)]; rfl); have s51 : w5.cell? ⟨w1.heap.size, 1, none⟩ = some (.string M_) := (by rw [cell_of_row _ _ _ _ _ _ (HBX.out w5 hb5)]; rfl); have s52 : w5.cell? ⟨w1.heap.size, 2, none⟩ = some (.string F) := (by rw [cell_of_row _ _ _ _ _ _ (HBX.out w5 hb5)]; rfl); have s53 : w5.cell? ⟨w1.heap.size, 3, none⟩ = some (.slice A2 R.length c2) := (by rw [cell_of_row _ _ _ _ _ _ (HBX.out w5 hb5)]; rfl); have s54 : w5.cell? ⟨w1.heap.size, 4, none⟩ = some (.int .i64 keep) := (by rw [cell_of_row _ _ _ _ _ _ (HBX.out w5 hb5)]; rfl); clear hb5) | (go_at_call 44; refine Calls.mono (From.go HHS.out (by first | exact Below.refl _ _ | exact HB5.out)) ?_; rintro e w5 ⟨rfl, hb5⟩; (try clear s50 s51 s52 s53 s54); have HB5 := Lib.hid hb5; have s50 : w5.cell? ⟨w1.heap.size, 0, none⟩ = some (.string L) := (by rw [cell_of_row _ _ _ _ _ _ (HBX.out w5 hb5)]; rfl); have s51 : w5.cell? ⟨w1.heap.size, 1, none⟩ = some (.string M_) := (by rw [cell_of_row _ _ _ _ _ _ (HBX.out w5 hb5)]; rfl); have s52 : w5.cell? ⟨w1.heap.size, 2, none⟩ = some (.string F) := (by rw [cell_of_row _ _ _ _ _ _ (HBX.out w5 hb5)]; rfl); have s53 : w5.cell? ⟨w1.heap.size, 3, none⟩ = some (.slice A2 R.length c2) := (by rw [cell_of_row _ _ _ _ _ _ (HBX.out w5 hb5)]; rfl); have s54 : w5.cell? ⟨w1.heap.size, 4, none⟩ = some (.int .i64 keep) := (by rw [cell_of_row _ _ _ _ _ _ (HBX.out w5 hb5)]; rfl); clear hb5) | (go_at_call 39; refine Calls.mono (From.go HOK.out (by first | exact Below.refl _ _ | exact HB5.out)) ?_; rintro e w5 ⟨rfl, hb5⟩; (try clear s50 s51 s52 s53 s54); have HB5 := Lib.hid hb5; have s50 : w5.cell? ⟨w1.heap.size, 0, none⟩ = some (.string L) := (by rw [cell_of_row _ _ _ _ _ _ (HBX.out w5 hb5)]; rfl); have s51 : w5.cell? ⟨w1.heap.size, 1, none⟩ = some (.string M_) := (by rw [cell_of_row _ _ _ _ _ _ (HBX.out w5 hb5)]; rfl); have s52 : w5.cell? ⟨w1.heap.size, 2, none⟩ = some (.string F) := (by rw [cell_of_row _ _ _ _ _ _ (HBX.out w5 hb5)]; rfl); have s53 : w5.cell? ⟨w1.heap.size, 3, none⟩ = some (.slice A2 R.length c2) := (by rw [cell_of_row _ _ _ _ _ _ (HBX.out w5 hb5)]; rfl); have s54 : w5.cell? ⟨w1.heap.size, 4, none⟩ = some (.int .i64 keep) := (by rw [cell_of_row _ _ _ _ _ _ (HBX.out w5 hb5)]; rfl); clear hb5) | (go_at_call 45; refine (HQA.out _).mono ?_; rintro e w' ⟨rfl, rfl⟩) | (go_at_call 34; refine Calls.mono (HHD.out _ (by first | exact Below.refl _ _ | exact HB5.out)) ?_; rintro e w5 ⟨A7, c7, rfl, hs7, hn7, hm7, hb5⟩; (try clear s50 s51 s52 s53 s54); have HS7 := Lib.hid hs7; have HB5 := Lib.hid hb5; clear hb5 hs7))
        go_loopw [7, 8] (fun s i wr => ∃ k : Nat, k ≤ hs.length ∧ i = .int .i64 (k : Nat) ∧ s = .bool (anyL hs a k) ∧ wr = w5) (fun _ i _ => hs.length - (intOf i).toNat)
        case atStart => exact ⟨0, Nat.zero_le _, rfl, rfl, rfl⟩
        case round =>
          obtain ⟨k, hk, rfl, rfl, hwr⟩ := hrel
          subst hwr
          by_cases hlt : k < hs.length
          · obtain ⟨kb, ko, hA, hkb, kc⟩ := HS7.out.cell k hlt
            subst hA
            have x0 : (0 : Int) ≤ (k : Int) := by omega
            have x1 : (k : Int) < (hs.length : Int) := by omega
            have hst := anyL_step a hlt
            obtain ⟨kk, hkk⟩ : ∃ x, x = hs[k] := ⟨_, rfl⟩
            obtain ⟨bk, hbk⟩ : ∃ x, x = anyL hs a k := ⟨_, rfl⟩
            rw [← hkk] at kc hst
            rw [← hbk] at hst
            rw [← hbk]
            clear hkk hbk
            have HST := Lib.hid hst
            clear hst
            cases bk with
            | true =>
              go_wp2
              go_roundw
              case rel => exact ⟨k + 1, by omega, by go_num, by rw [HST.out]; rfl, by first | rfl | trivial⟩
              case measure => simp [intOf]; omega
            | false =>
              go_wp2_with (go_at_call 35; refine Calls.mono (begI a kk _) ?_; rintro e w8 ⟨rfl, rfl⟩)
              go_roundw
              case rel => exact ⟨k + 1, by omega, by go_num, by rw [HST.out]; rfl, by first | rfl | trivial⟩
              case measure => simp [intOf]; omega
          · have hke : k = hs.length := by omega
            subst hke
            rw [anyL_all HBX2.out]
            obtain ⟨y, hy⟩ : ∃ y, inL hs a = y := ⟨_, rfl⟩
            have HIN := Lib.hid (show ∀ c, Calls Try.prog 46 #[.slice A7 hs.length c, .string a] wr fun e w' => e = .returned (.bool y) ∧ wr = w' from fun c => by have h := inS_ wr wr.heap.size hs.length c A7 hs a HS7.out (Nat.le_trans hn7 hm7); rw [hy] at h; exact h)
            clear hy
            cases y with
            | true =>
              go_wp2_with (go_at_call 46; refine Calls.mono (HIN.out _) ?_; rintro e w8 ⟨rfl, rfl⟩)
              go_ret
              exact ⟨rfl, HB2.out.trans (HB5.out.mono HB2.out.size)⟩
            | false =>
              go_wp2_with (go_at_call 46; refine Calls.mono (HIN.out _) ?_; rintro e w8 ⟨rfl, rfl⟩)
              go_ret
              exact ⟨rfl, HB2.out.trans (HB5.out.mono HB2.out.size)⟩
      | false =>
        have HNX := Lib.hid (HNV.out rfl)
        go_wp2_with (first | (go_at_call 32; refine Calls.mono (From.go HHI.out (by first | exact Below.refl _ _ | exact HB5.out)) ?_; rintro e w5 ⟨rfl, hb5⟩; (try clear s50 s51 s52 s53 s54); have HB5 := Lib.hid hb5; have s50 : w5.cell? ⟨w1.heap.size, 0, none⟩ = some (.string L) := (by rw [cell_of_row _ _ _ _ _ _ (HBX.out w5 hb5)]; rfl); have s51 : w5.cell? ⟨w1.heap.size, 1, none⟩ = some (.string M_) := (by rw [cell_of_row _ _ _ _ _ _ (HBX.out w5 hb5)]; rfl); have s52 : w5.cell? ⟨w1.heap.size, 2, none⟩ = some (.string F) := (by rw [cell_of_row _ _ _ _ _ _ (HBX.out w5 hb5)]; rfl); have s53 : w5.cell? ⟨w1.heap.size, 3, none⟩ = some (.slice A2 R.length c2) := (by rw [cell_of_row _ _ _ _ _ _ (HBX.out w5 hb5)]; rfl); have s54 : w5.cell? ⟨w1.heap.size, 4, none⟩ = some (.int .i64 keep) := (by rw [cell_of_row _ _ _ _ _ _ (HBX.out w5 hb5)]; rfl); clear hb5) | (go_at_call 44; refine Calls.mono (From.go HHS.out (by first | exact Below.refl _ _ | exact HB5.out)) ?_; rintro e w5 ⟨rfl, hb5⟩; (try clear s50 s51 s52 s53 s54); have HB5 := Lib.hid hb5; have s50 : w5.cell? ⟨w1.heap.size, 0, none⟩ = some (.string L) := (by rw [cell_of_row _ _ _ _ _ _ (HBX.out w5 hb5)]; rfl); have s51 : w5.cell? ⟨w1.heap.size, 1, none⟩ = some (.string M_) := (by rw [cell_of_row _ _ _ _ _ _ (HBX.out w5 hb5)]; rfl); have s52 : w5.cell? ⟨w1.heap.size, 2, none⟩ = some (.string F) := (by rw [cell_of_row _ _ _ _ _ _ (HBX.out w5 hb5)]; rfl); have s53 : w5.cell? ⟨w1.heap.size, 3, none⟩ = some (.slice A2 R.length c2) := (by rw [cell_of_row _ _ _ _ _ _ (HBX.out w5 hb5)]; rfl); have s54 : w5.cell? ⟨w1.heap.size, 4, none⟩ = some (.int .i64 keep) := (by rw [cell_of_row _ _ _ _ _ _ (HBX.out w5 hb5)]; rfl); clear hb5) | (go_at_call 39; refine Calls.mono (From.go HOK.out (by first | exact Below.refl _ _ | exact HB5.out)) ?_; rintro e w5 ⟨rfl, hb5⟩; (try clear s50 s51 s52 s53 s54); have HB5 := Lib.hid hb5; have s50 : w5.cell? ⟨w1.heap.size, 0, none⟩ = some (.string L) := (by rw [cell_of_row _ _ _ _ _ _ (HBX.out w5 hb5)]; rfl); have s51 : w5.cell? ⟨w1.heap.size, 1, none⟩ = some (.string M_) := (by rw [cell_of_row _ _ _ _ _ _ (HBX.out w5 hb5)]; rfl); have s52 : w5.cell? ⟨w1.heap.size, 2, none⟩ = some (.string F) := (by rw [cell_of_row _ _ _ _ _ _ (HBX.out w5 hb5)]; rfl); have s53 : w5.cell? ⟨w1.heap.size, 3, none⟩ = some (.slice A2 R.length c2) := (by rw [cell_of_row _ _ _ _ _ _ (HBX.out w5 hb5)]; rfl); have s54 : w5.cell? ⟨w1.heap.size, 4, none⟩ = some (.int .i64 keep) := (by rw [cell_of_row _ _ _ _ _ _ (HBX.out w5 hb5)]; rfl); clear hb5) | (go_at_call 45; refine (HQA.out _).mono ?_; rintro e w' ⟨rfl, rfl⟩) | (go_at_call 34; refine Calls.mono (HHD.out _ (by first | exact Below.refl _ _ | exact HB5.out)) ?_; rintro e w5 ⟨A7, c7, rfl, hs7, hn7, hm7, hb5⟩; (try clear s50 s51 s52 s53 s54); have HS7 := Lib.hid hs7; have HB5 := Lib.hid hb5; clear hb5 hs7))
        go_loopw [7, 8] (fun s i wr => ∃ k : Nat, k ≤ hs.length ∧ i = .int .i64 (k : Nat) ∧ s = .bool (anyL hs a k) ∧ wr = w5) (fun _ i _ => hs.length - (intOf i).toNat)
        case atStart => exact ⟨0, Nat.zero_le _, rfl, rfl, rfl⟩
        case round =>
          obtain ⟨k, hk, rfl, rfl, hwr⟩ := hrel
          subst hwr
          by_cases hlt : k < hs.length
          · obtain ⟨kb, ko, hA, hkb, kc⟩ := HS7.out.cell k hlt
            subst hA
            have x0 : (0 : Int) ≤ (k : Int) := by omega
            have x1 : (k : Int) < (hs.length : Int) := by omega
            have hst := anyL_step a hlt
            obtain ⟨kk, hkk⟩ : ∃ x, x = hs[k] := ⟨_, rfl⟩
            obtain ⟨bk, hbk⟩ : ∃ x, x = anyL hs a k := ⟨_, rfl⟩
            rw [← hkk] at kc hst
            rw [← hbk] at hst
            rw [← hbk]
            clear hkk hbk
            have HST := Lib.hid hst
            clear hst
            cases bk with
            | true =>
              go_wp2
              go_roundw
              case rel => exact ⟨k + 1, by omega, by go_num, by rw [HST.out]; rfl, by first | rfl | trivial⟩
              case measure => simp [intOf]; omega
            | false =>
              go_wp2_with (go_at_call 35; refine Calls.mono (begI a kk _) ?_; rintro e w8 ⟨rfl, rfl⟩)
              go_roundw
              case rel => exact ⟨k + 1, by omega, by go_num, by rw [HST.out]; rfl, by first | rfl | trivial⟩
              case measure => simp [intOf]; omega
          · have hke : k = hs.length := by omega
            subst hke
            obtain ⟨q, hq⟩ : ∃ q, q = anyL hs a hs.length := ⟨_, rfl⟩
            rw [← hq]
            clear hq
            have hy := HNX.out
            have HIN := Lib.hid (show ∀ c, Calls Try.prog 46 #[.slice A7 hs.length c, .string a] wr fun e w' => e = .returned (.bool false) ∧ wr = w' from fun c => by have h := inS_ wr wr.heap.size hs.length c A7 hs a HS7.out (Nat.le_trans hn7 hm7); rw [hy] at h; exact h)
            clear hy
            go_wp2_with (go_at_call 46; refine Calls.mono (HIN.out _) ?_; rintro e w8 ⟨rfl, rfl⟩)
            go_ret
            exact ⟨rfl, HB2.out.trans (HB5.out.mono HB2.out.size)⟩
    · have gz : hasO L M_ F R keep a = false := by
        rw [← Bool.not_eq_true]
        intro h
        rw [(has_parts h).1] at gs; cases gs
      have HHS := Lib.hid (show From W1 44 #[.agg #[.string L, .string M_, .string F, .slice A2 R.length c2, .int .i64 keep], .string a] (.bool false) by have h := HFL.out.hasS keep a hasz; rw [gz] at h; exact h)
      have HHI := Lib.hid (show From W1 32 #[.agg #[.string L, .string M_, .string F, .slice A2 R.length c2, .int .i64 keep], .string a] (.bool false) by have h := HFL.out.has keep a hasz; rw [gz] at h; exact h)
      rw [gs] at HOK
      clear gs gz
      go_wp2_with (first | (go_at_call 32; refine Calls.mono (From.go HHI.out (by first | exact Below.refl _ _ | exact HB5.out)) ?_; rintro e w5 ⟨rfl, hb5⟩; (try clear s50 s51 s52 s53 s54); have HB5 := Lib.hid hb5; have s50 : w5.cell? ⟨w1.heap.size, 0, none⟩ = some (.string L) := (by rw [cell_of_row _ _ _ _ _ _ (HBX.out w5 hb5)]; rfl); have s51 : w5.cell? ⟨w1.heap.size, 1, none⟩ = some (.string M_) := (by rw [cell_of_row _ _ _ _ _ _ (HBX.out w5 hb5)]; rfl); have s52 : w5.cell? ⟨w1.heap.size, 2, none⟩ = some (.string F) := (by rw [cell_of_row _ _ _ _ _ _ (HBX.out w5 hb5)]; rfl); have s53 : w5.cell? ⟨w1.heap.size, 3, none⟩ = some (.slice A2 R.length c2) := (by rw [cell_of_row _ _ _ _ _ _ (HBX.out w5 hb5)]; rfl); have s54 : w5.cell? ⟨w1.heap.size, 4, none⟩ = some (.int .i64 keep) := (by rw [cell_of_row _ _ _ _ _ _ (HBX.out w5 hb5)]; rfl); clear hb5) | (go_at_call 44; refine Calls.mono (From.go HHS.out (by first | exact Below.refl _ _ | exact HB5.out)) ?_; rintro e w5 ⟨rfl, hb5⟩; (try clear s50 s51 s52 s53 s54); have HB5 := Lib.hid hb5; have s50 : w5.cell? ⟨w1.heap.size, 0, none⟩ = some (.string L) := (by rw [cell_of_row _ _ _ _ _ _ (HBX.out w5 hb5)]; rfl); have s51 : w5.cell? ⟨w1.heap.size, 1, none⟩ = some (.string M_) := (by rw [cell_of_row _ _ _ _ _ _ (HBX.out w5 hb5)]; rfl); have s52 : w5.cell? ⟨w1.heap.size, 2, none⟩ = some (.string F) := (by rw [cell_of_row _ _ _ _ _ _ (HBX.out w5 hb5)]; rfl); have s53 : w5.cell? ⟨w1.heap.size, 3, none⟩ = some (.slice A2 R.length c2) := (by rw [cell_of_row _ _ _ _ _ _ (HBX.out w5 hb5)]; rfl); have s54 : w5.cell? ⟨w1.heap.size, 4, none⟩ = some (.int .i64 keep) := (by rw [cell_of_row _ _ _ _ _ _ (HBX.out w5 hb5)]; rfl); clear hb5) | (go_at_call 39; refine Calls.mono (From.go HOK.out (by first | exact Below.refl _ _ | exact HB5.out)) ?_; rintro e w5 ⟨rfl, hb5⟩; (try clear s50 s51 s52 s53 s54); have HB5 := Lib.hid hb5; have s50 : w5.cell? ⟨w1.heap.size, 0, none⟩ = some (.string L) := (by rw [cell_of_row _ _ _ _ _ _ (HBX.out w5 hb5)]; rfl); have s51 : w5.cell? ⟨w1.heap.size, 1, none⟩ = some (.string M_) := (by rw [cell_of_row _ _ _ _ _ _ (HBX.out w5 hb5)]; rfl); have s52 : w5.cell? ⟨w1.heap.size, 2, none⟩ = some (.string F) := (by rw [cell_of_row _ _ _ _ _ _ (HBX.out w5 hb5)]; rfl); have s53 : w5.cell? ⟨w1.heap.size, 3, none⟩ = some (.slice A2 R.length c2) := (by rw [cell_of_row _ _ _ _ _ _ (HBX.out w5 hb5)]; rfl); have s54 : w5.cell? ⟨w1.heap.size, 4, none⟩ = some (.int .i64 keep) := (by rw [cell_of_row _ _ _ _ _ _ (HBX.out w5 hb5)]; rfl); clear hb5) | (go_at_call 45; refine (HQA.out _).mono ?_; rintro e w' ⟨rfl, rfl⟩))
      go_ret
      exact ⟨rfl, HB2.out.trans (HB5.out.mono HB2.out.size)⟩

end Go.Proofs.Ytakadkhgcjndmaa.W
