/-
  Laws of filters that are drawn, as walks over the contracts: with more around.
-/
import Derived.Test.YtakadkhgcjndmaaY3
import Derived.Test.YtakadkhgcjndmaaDS6
import Derived.Test.YtakadkhgcjndmaaLE1
import Derived.Test.YtakadkhgcjndmaaLSMeetsHas
namespace Go.Proofs.Ytakadkhgcjndmaa.W
open Go.RowKit K

set_option maxHeartbeats 8000000 in
set_option maxRecDepth 100000 in
theorem lawSieveMeetsMore (w : World) (A : Option Addr) (n c : Nat) (hb0 : Bytes w w.heap.size A n) (hnc : n ≤ c) (hc : c ≤ maxLen) (A9 : Option Addr) (n9 c9 : Nat) (hb9 : Bytes w w.heap.size A9 n9) (hnc9 : n9 ≤ c9) (hc9 : c9 ≤ maxLen) :
    Calls Try.prog 14 #[.slice A n c, .slice A9 n9 c9] w fun e w' => e = .returned (.bool true) ∧ Below w.heap.size w w' := by
  by_cases hbig : (1048576 : Int) < (n : Int)
  · clear hb0 hb9
    go_enter Try.func14, Try.ntmps14
    go_wp2
    go_ret
    exact ⟨rfl, Below.refl _ _⟩
  · by_cases hbig2 : (1048576 : Int) < (n9 : Int)
    · clear hb0 hb9
      go_enter Try.func14, Try.ntmps14
      go_wp2
      go_ret
      exact ⟨rfl, Below.refl _ _⟩
    · have hd1 : decide ((1048576 : Int) < (n : Int)) = false := by simpa using hbig
      have hd2 : decide ((1048576 : Int) < (n9 : Int)) = false := by simpa using hbig2
      have HB9 := Lib.hid hb9
      clear hb9
      go_enter Try.func14, Try.ntmps14
      go_wp2_with fail
      go_at_call 49
      refine (drawMeets w A n c hb0 hnc hc).mono ?_
      rintro e w1 ⟨L, M_, F, R, keep, A2, c2, a, b, rfl, hka, hkb, hfm⟩
      have HFM := Lib.hid hfm
      have HB1 := Lib.hid hfm.below
      have HKA := Lib.hid (show keyB a = true from hka)
      have hasz : a.size ≤ maxLen := by have := isK_size hka; unfold maxLen; omega
      have HKB := Lib.hid (show keyB b = true from hkb)
      have hbsz : b.size ≤ maxLen := by have := isK_size hkb; unfold maxLen; omega
      clear hb0 hfm hka hkb
      obtain ⟨s1, hc1, hm1⟩ := HFM.out.own.strs
      obtain ⟨W1, hW1⟩ : ∃ W1, W1 = w1.alloc (.cells #[.string L, .string M_, .string F, .slice A2 R.length c2, .int .i64 keep] 27) := ⟨_, rfl⟩
      have hbw : Below w1.heap.size w1 W1 := by rw [hW1]; exact (Below.refl _ _).alloc (Nat.le_refl _) _
      have HFL := Lib.hid (show Flt W1 L M_ F A2 R.length c2 R from ⟨by have := HFM.out.szL; unfold maxLen; omega, by have := HFM.out.szM; unfold maxLen; omega, by have := HFM.out.szF; unfold maxLen; omega, (s1.below hbw (Nat.le_refl _)).more hbw.size, hc1, hm1, fun i h => by have := HFM.out.szS _ (List.getElem_mem h); omega⟩)
      have HY1 := Lib.hid (show W1.heap[w1.heap.size]? = some (.cells #[.string L, .string M_, .string F, .slice A2 R.length c2, .int .i64 keep] 27 (0, 0)) by rw [hW1]; exact heap_alloc_new _ _)
      have HBX := Lib.hid (show ∀ W, Below W1.heap.size W1 W → W.heap[w1.heap.size]? = some (.cells #[.string L, .string M_, .string F, .slice A2 R.length c2, .int .i64 keep] 27 (0, 0)) from fun W hW => box_below HY1.out hW)
      have HB2 := Lib.hid (HB1.out.trans (hbw.mono HB1.out.size))
      have HW1 := Lib.hid hW1
      clear s1 hbw hW1
      go_upto_region 4 with fail
      rw [← HW1.out]
      go_wp2_with fail
      go_at_call 48
      refine (drawKey W1 A9 n9 c9 (bytes_up HB9.out HB2.out) hnc9 hc9).mono ?_
      rintro e w5 ⟨k, k9, hkk, hkk9, rfl, hb5⟩
      have HKK := Lib.hid (show keyB k = true from hkk)
      have hksz : k.size ≤ maxLen := by have := isK_size hkk; unfold maxLen; omega
      have HB5 := Lib.hid hb5
      have s50 : w5.cell? ⟨w1.heap.size, 0, none⟩ = some (.string L) := by rw [cell_of_row _ _ _ _ _ _ (HBX.out w5 hb5)]; rfl
      have s51 : w5.cell? ⟨w1.heap.size, 1, none⟩ = some (.string M_) := by rw [cell_of_row _ _ _ _ _ _ (HBX.out w5 hb5)]; rfl
      have s52 : w5.cell? ⟨w1.heap.size, 2, none⟩ = some (.string F) := by rw [cell_of_row _ _ _ _ _ _ (HBX.out w5 hb5)]; rfl
      have s53 : w5.cell? ⟨w1.heap.size, 3, none⟩ = some (.slice A2 R.length c2) := by rw [cell_of_row _ _ _ _ _ _ (HBX.out w5 hb5)]; rfl
      have s54 : w5.cell? ⟨w1.heap.size, 4, none⟩ = some (.int .i64 keep) := by rw [cell_of_row _ _ _ _ _ _ (HBX.out w5 hb5)]; rfl
      clear hb5 hkk hkk9
      have HMI := Lib.hid (HFL.out.meets keep a b hasz hbsz)
      have HMS := Lib.hid (HFL.out.meetsS keep a b hasz hbsz)
      rcases Bool.eq_false_or_eq_true (meetO L M_ F R keep a b) with gm | gm
      · obtain ⟨kp, hke, hmd⟩ := made_back (meet_parts gm).1
        rw [gm] at HMI HMS
        have GM := Lib.hid gm
        have HMD := Lib.hid hmd
        clear hke hmd gm
        rcases lt_tri k a with ⟨o1, o2, o3⟩ | ⟨o1, o2, o3⟩ | ⟨o1, o2, o3⟩
        · rcases Bool.eq_false_or_eq_true (Op.bytesLess k.toList b.toList) with l1 | l1
          · have HMX := Lib.hid (show ∀ f t, (f = a ∧ t = b ∨ f = k ∧ t = b ∨ f = a ∧ t = b) → From W1 33 #[.agg #[.string L, .string M_, .string F, .slice A2 R.length c2, .int .i64 keep], .string f, .string t] (.bool true) from fun f t hft => by
                rcases hft with ⟨e1, e2⟩ | ⟨e1, e2⟩ | ⟨e1, e2⟩
                · rw [e1, e2]; have h := HFL.out.meets keep a b (by assumption) (by assumption); rw [GM.out] at h; exact h
                · rw [e1, e2]; have h := HFL.out.meets keep k b (by assumption) (by assumption); rw [HMD.out.meets_down HKA.out HKB.out HKK.out GM.out o3] at h; exact h
                · rw [e1, e2]; have h := HFL.out.meets keep a b (by assumption) (by assumption); rw [GM.out] at h; exact h)
            clear o3
            go_wp2_with (first | (go_at_call 33; refine Calls.mono (From.go (HMX.out _ _ (by first | exact .inl ⟨rfl, rfl⟩ | exact .inr (.inl ⟨rfl, rfl⟩) | exact .inr (.inr ⟨rfl, rfl⟩))) (by first | exact Below.refl _ _ | exact HB5.out)) ?_; rintro e w5 ⟨rfl, hb5⟩; (try clear s50 s51 s52 s53 s54); have HB5 := Lib.hid hb5; have s50 : w5.cell? ⟨w1.heap.size, 0, none⟩ = some (.string L) := (by rw [cell_of_row _ _ _ _ _ _ (HBX.out w5 hb5)]; rfl); have s51 : w5.cell? ⟨w1.heap.size, 1, none⟩ = some (.string M_) := (by rw [cell_of_row _ _ _ _ _ _ (HBX.out w5 hb5)]; rfl); have s52 : w5.cell? ⟨w1.heap.size, 2, none⟩ = some (.string F) := (by rw [cell_of_row _ _ _ _ _ _ (HBX.out w5 hb5)]; rfl); have s53 : w5.cell? ⟨w1.heap.size, 3, none⟩ = some (.slice A2 R.length c2) := (by rw [cell_of_row _ _ _ _ _ _ (HBX.out w5 hb5)]; rfl); have s54 : w5.cell? ⟨w1.heap.size, 4, none⟩ = some (.int .i64 keep) := (by rw [cell_of_row _ _ _ _ _ _ (HBX.out w5 hb5)]; rfl); clear hb5) | (go_at_call 50; refine Calls.mono (From.go HMS.out (by first | exact Below.refl _ _ | exact HB5.out)) ?_; rintro e w5 ⟨rfl, hb5⟩; (try clear s50 s51 s52 s53 s54); have HB5 := Lib.hid hb5; have s50 : w5.cell? ⟨w1.heap.size, 0, none⟩ = some (.string L) := (by rw [cell_of_row _ _ _ _ _ _ (HBX.out w5 hb5)]; rfl); have s51 : w5.cell? ⟨w1.heap.size, 1, none⟩ = some (.string M_) := (by rw [cell_of_row _ _ _ _ _ _ (HBX.out w5 hb5)]; rfl); have s52 : w5.cell? ⟨w1.heap.size, 2, none⟩ = some (.string F) := (by rw [cell_of_row _ _ _ _ _ _ (HBX.out w5 hb5)]; rfl); have s53 : w5.cell? ⟨w1.heap.size, 3, none⟩ = some (.slice A2 R.length c2) := (by rw [cell_of_row _ _ _ _ _ _ (HBX.out w5 hb5)]; rfl); have s54 : w5.cell? ⟨w1.heap.size, 4, none⟩ = some (.int .i64 keep) := (by rw [cell_of_row _ _ _ _ _ _ (HBX.out w5 hb5)]; rfl); clear hb5))
            go_ret
            exact ⟨rfl, HB2.out.trans (HB5.out.mono HB2.out.size)⟩
          · have HMX := Lib.hid (show ∀ f t, (f = a ∧ t = b ∨ f = k ∧ t = b ∨ f = a ∧ t = k) → From W1 33 #[.agg #[.string L, .string M_, .string F, .slice A2 R.length c2, .int .i64 keep], .string f, .string t] (.bool true) from fun f t hft => by
                rcases hft with ⟨e1, e2⟩ | ⟨e1, e2⟩ | ⟨e1, e2⟩
                · rw [e1, e2]; have h := HFL.out.meets keep a b (by assumption) (by assumption); rw [GM.out] at h; exact h
                · rw [e1, e2]; have h := HFL.out.meets keep k b (by assumption) (by assumption); rw [HMD.out.meets_down HKA.out HKB.out HKK.out GM.out o3] at h; exact h
                · rw [e1, e2]; have h := HFL.out.meets keep a k (by assumption) (by assumption); rw [HMD.out.meets_up HKA.out HKB.out HKK.out GM.out l1] at h; exact h)
            clear o3
            go_wp2_with (first | (go_at_call 33; refine Calls.mono (From.go (HMX.out _ _ (by first | exact .inl ⟨rfl, rfl⟩ | exact .inr (.inl ⟨rfl, rfl⟩) | exact .inr (.inr ⟨rfl, rfl⟩))) (by first | exact Below.refl _ _ | exact HB5.out)) ?_; rintro e w5 ⟨rfl, hb5⟩; (try clear s50 s51 s52 s53 s54); have HB5 := Lib.hid hb5; have s50 : w5.cell? ⟨w1.heap.size, 0, none⟩ = some (.string L) := (by rw [cell_of_row _ _ _ _ _ _ (HBX.out w5 hb5)]; rfl); have s51 : w5.cell? ⟨w1.heap.size, 1, none⟩ = some (.string M_) := (by rw [cell_of_row _ _ _ _ _ _ (HBX.out w5 hb5)]; rfl); have s52 : w5.cell? ⟨w1.heap.size, 2, none⟩ = some (.string F) := (by rw [cell_of_row _ _ _ _ _ _ (HBX.out w5 hb5)]; rfl); have s53 : w5.cell? ⟨w1.heap.size, 3, none⟩ = some (.slice A2 R.length c2) := (by rw [cell_of_row _ _ _ _ _ _ (HBX.out w5 hb5)]; rfl); have s54 : w5.cell? ⟨w1.heap.size, 4, none⟩ = some (.int .i64 keep) := (by rw [cell_of_row _ _ _ _ _ _ (HBX.out w5 hb5)]; rfl); clear hb5) | (go_at_call 50; refine Calls.mono (From.go HMS.out (by first | exact Below.refl _ _ | exact HB5.out)) ?_; rintro e w5 ⟨rfl, hb5⟩; (try clear s50 s51 s52 s53 s54); have HB5 := Lib.hid hb5; have s50 : w5.cell? ⟨w1.heap.size, 0, none⟩ = some (.string L) := (by rw [cell_of_row _ _ _ _ _ _ (HBX.out w5 hb5)]; rfl); have s51 : w5.cell? ⟨w1.heap.size, 1, none⟩ = some (.string M_) := (by rw [cell_of_row _ _ _ _ _ _ (HBX.out w5 hb5)]; rfl); have s52 : w5.cell? ⟨w1.heap.size, 2, none⟩ = some (.string F) := (by rw [cell_of_row _ _ _ _ _ _ (HBX.out w5 hb5)]; rfl); have s53 : w5.cell? ⟨w1.heap.size, 3, none⟩ = some (.slice A2 R.length c2) := (by rw [cell_of_row _ _ _ _ _ _ (HBX.out w5 hb5)]; rfl); have s54 : w5.cell? ⟨w1.heap.size, 4, none⟩ = some (.int .i64 keep) := (by rw [cell_of_row _ _ _ _ _ _ (HBX.out w5 hb5)]; rfl); clear hb5))
            go_ret
            exact ⟨rfl, HB2.out.trans (HB5.out.mono HB2.out.size)⟩
        · rcases Bool.eq_false_or_eq_true (Op.bytesLess k.toList b.toList) with l1 | l1
          · have HMX := Lib.hid (show ∀ f t, (f = a ∧ t = b ∨ f = k ∧ t = b ∨ f = a ∧ t = b) → From W1 33 #[.agg #[.string L, .string M_, .string F, .slice A2 R.length c2, .int .i64 keep], .string f, .string t] (.bool true) from fun f t hft => by
                rcases hft with ⟨e1, e2⟩ | ⟨e1, e2⟩ | ⟨e1, e2⟩
                · rw [e1, e2]; have h := HFL.out.meets keep a b (by assumption) (by assumption); rw [GM.out] at h; exact h
                · rw [e1, e2]; have h := HFL.out.meets keep k b (by assumption) (by assumption); rw [HMD.out.meets_down HKA.out HKB.out HKK.out GM.out o3] at h; exact h
                · rw [e1, e2]; have h := HFL.out.meets keep a b (by assumption) (by assumption); rw [GM.out] at h; exact h)
            clear o3
            go_wp2_with (first | (go_at_call 33; refine Calls.mono (From.go (HMX.out _ _ (by first | exact .inl ⟨rfl, rfl⟩ | exact .inr (.inl ⟨rfl, rfl⟩) | exact .inr (.inr ⟨rfl, rfl⟩))) (by first | exact Below.refl _ _ | exact HB5.out)) ?_; rintro e w5 ⟨rfl, hb5⟩; (try clear s50 s51 s52 s53 s54); have HB5 := Lib.hid hb5; have s50 : w5.cell? ⟨w1.heap.size, 0, none⟩ = some (.string L) := (by rw [cell_of_row _ _ _ _ _ _ (HBX.out w5 hb5)]; rfl); have s51 : w5.cell? ⟨w1.heap.size, 1, none⟩ = some (.string M_) := (by rw [cell_of_row _ _ _ _ _ _ (HBX.out w5 hb5)]; rfl); have s52 : w5.cell? ⟨w1.heap.size, 2, none⟩ = some (.string F) := (by rw [cell_of_row _ _ _ _ _ _ (HBX.out w5 hb5)]; rfl); have s53 : w5.cell? ⟨w1.heap.size, 3, none⟩ = some (.slice A2 R.length c2) := (by rw [cell_of_row _ _ _ _ _ _ (HBX.out w5 hb5)]; rfl); have s54 : w5.cell? ⟨w1.heap.size, 4, none⟩ = some (.int .i64 keep) := (by rw [cell_of_row _ _ _ _ _ _ (HBX.out w5 hb5)]; rfl); clear hb5) | (go_at_call 50; refine Calls.mono (From.go HMS.out (by first | exact Below.refl _ _ | exact HB5.out)) ?_; rintro e w5 ⟨rfl, hb5⟩; (try clear s50 s51 s52 s53 s54); have HB5 := Lib.hid hb5; have s50 : w5.cell? ⟨w1.heap.size, 0, none⟩ = some (.string L) := (by rw [cell_of_row _ _ _ _ _ _ (HBX.out w5 hb5)]; rfl); have s51 : w5.cell? ⟨w1.heap.size, 1, none⟩ = some (.string M_) := (by rw [cell_of_row _ _ _ _ _ _ (HBX.out w5 hb5)]; rfl); have s52 : w5.cell? ⟨w1.heap.size, 2, none⟩ = some (.string F) := (by rw [cell_of_row _ _ _ _ _ _ (HBX.out w5 hb5)]; rfl); have s53 : w5.cell? ⟨w1.heap.size, 3, none⟩ = some (.slice A2 R.length c2) := (by rw [cell_of_row _ _ _ _ _ _ (HBX.out w5 hb5)]; rfl); have s54 : w5.cell? ⟨w1.heap.size, 4, none⟩ = some (.int .i64 keep) := (by rw [cell_of_row _ _ _ _ _ _ (HBX.out w5 hb5)]; rfl); clear hb5))
            go_ret
            exact ⟨rfl, HB2.out.trans (HB5.out.mono HB2.out.size)⟩
          · have HMX := Lib.hid (show ∀ f t, (f = a ∧ t = b ∨ f = k ∧ t = b ∨ f = a ∧ t = k) → From W1 33 #[.agg #[.string L, .string M_, .string F, .slice A2 R.length c2, .int .i64 keep], .string f, .string t] (.bool true) from fun f t hft => by
                rcases hft with ⟨e1, e2⟩ | ⟨e1, e2⟩ | ⟨e1, e2⟩
                · rw [e1, e2]; have h := HFL.out.meets keep a b (by assumption) (by assumption); rw [GM.out] at h; exact h
                · rw [e1, e2]; have h := HFL.out.meets keep k b (by assumption) (by assumption); rw [HMD.out.meets_down HKA.out HKB.out HKK.out GM.out o3] at h; exact h
                · rw [e1, e2]; have h := HFL.out.meets keep a k (by assumption) (by assumption); rw [HMD.out.meets_up HKA.out HKB.out HKK.out GM.out l1] at h; exact h)
            clear o3
            go_wp2_with (first | (go_at_call 33; refine Calls.mono (From.go (HMX.out _ _ (by first | exact .inl ⟨rfl, rfl⟩ | exact .inr (.inl ⟨rfl, rfl⟩) | exact .inr (.inr ⟨rfl, rfl⟩))) (by first | exact Below.refl _ _ | exact HB5.out)) ?_; rintro e w5 ⟨rfl, hb5⟩; (try clear s50 s51 s52 s53 s54); have HB5 := Lib.hid hb5; have s50 : w5.cell? ⟨w1.heap.size, 0, none⟩ = some (.string L) := (by rw [cell_of_row _ _ _ _ _ _ (HBX.out w5 hb5)]; rfl); have s51 : w5.cell? ⟨w1.heap.size, 1, none⟩ = some (.string M_) := (by rw [cell_of_row _ _ _ _ _ _ (HBX.out w5 hb5)]; rfl); have s52 : w5.cell? ⟨w1.heap.size, 2, none⟩ = some (.string F) := (by rw [cell_of_row _ _ _ _ _ _ (HBX.out w5 hb5)]; rfl); have s53 : w5.cell? ⟨w1.heap.size, 3, none⟩ = some (.slice A2 R.length c2) := (by rw [cell_of_row _ _ _ _ _ _ (HBX.out w5 hb5)]; rfl); have s54 : w5.cell? ⟨w1.heap.size, 4, none⟩ = some (.int .i64 keep) := (by rw [cell_of_row _ _ _ _ _ _ (HBX.out w5 hb5)]; rfl); clear hb5) | (go_at_call 50; refine Calls.mono (From.go HMS.out (by first | exact Below.refl _ _ | exact HB5.out)) ?_; rintro e w5 ⟨rfl, hb5⟩; (try clear s50 s51 s52 s53 s54); have HB5 := Lib.hid hb5; have s50 : w5.cell? ⟨w1.heap.size, 0, none⟩ = some (.string L) := (by rw [cell_of_row _ _ _ _ _ _ (HBX.out w5 hb5)]; rfl); have s51 : w5.cell? ⟨w1.heap.size, 1, none⟩ = some (.string M_) := (by rw [cell_of_row _ _ _ _ _ _ (HBX.out w5 hb5)]; rfl); have s52 : w5.cell? ⟨w1.heap.size, 2, none⟩ = some (.string F) := (by rw [cell_of_row _ _ _ _ _ _ (HBX.out w5 hb5)]; rfl); have s53 : w5.cell? ⟨w1.heap.size, 3, none⟩ = some (.slice A2 R.length c2) := (by rw [cell_of_row _ _ _ _ _ _ (HBX.out w5 hb5)]; rfl); have s54 : w5.cell? ⟨w1.heap.size, 4, none⟩ = some (.int .i64 keep) := (by rw [cell_of_row _ _ _ _ _ _ (HBX.out w5 hb5)]; rfl); clear hb5))
            go_ret
            exact ⟨rfl, HB2.out.trans (HB5.out.mono HB2.out.size)⟩
        · rcases Bool.eq_false_or_eq_true (Op.bytesLess k.toList b.toList) with l1 | l1
          · have HMX := Lib.hid (show ∀ f t, (f = a ∧ t = b ∨ f = a ∧ t = b ∨ f = a ∧ t = b) → From W1 33 #[.agg #[.string L, .string M_, .string F, .slice A2 R.length c2, .int .i64 keep], .string f, .string t] (.bool true) from fun f t hft => by
                rcases hft with ⟨e1, e2⟩ | ⟨e1, e2⟩ | ⟨e1, e2⟩
                · rw [e1, e2]; have h := HFL.out.meets keep a b (by assumption) (by assumption); rw [GM.out] at h; exact h
                · rw [e1, e2]; have h := HFL.out.meets keep a b (by assumption) (by assumption); rw [GM.out] at h; exact h
                · rw [e1, e2]; have h := HFL.out.meets keep a b (by assumption) (by assumption); rw [GM.out] at h; exact h)
            clear o3
            go_wp2_with (first | (go_at_call 33; refine Calls.mono (From.go (HMX.out _ _ (by first | exact .inl ⟨rfl, rfl⟩ | exact .inr (.inl ⟨rfl, rfl⟩) | exact .inr (.inr ⟨rfl, rfl⟩))) (by first | exact Below.refl _ _ | exact HB5.out)) ?_; rintro e w5 ⟨rfl, hb5⟩; (try clear s50 s51 s52 s53 s54); have HB5 := Lib.hid hb5; have s50 : w5.cell? ⟨w1.heap.size, 0, none⟩ = some (.string L) := (by rw [cell_of_row _ _ _ _ _ _ (HBX.out w5 hb5)]; rfl); have s51 : w5.cell? ⟨w1.heap.size, 1, none⟩ = some (.string M_) := (by rw [cell_of_row _ _ _ _ _ _ (HBX.out w5 hb5)]; rfl); have s52 : w5.cell? ⟨w1.heap.size, 2, none⟩ = some (.string F) := (by rw [cell_of_row _ _ _ _ _ _ (HBX.out w5 hb5)]; rfl); have s53 : w5.cell? ⟨w1.heap.size, 3, none⟩ = some (.slice A2 R.length c2) := (by rw [cell_of_row _ _ _ _ _ _ (HBX.out w5 hb5)]; rfl); have s54 : w5.cell? ⟨w1.heap.size, 4, none⟩ = some (.int .i64 keep) := (by rw [cell_of_row _ _ _ _ _ _ (HBX.out w5 hb5)]; rfl); clear hb5) | (go_at_call 50; refine Calls.mono (From.go HMS.out (by first | exact Below.refl _ _ | exact HB5.out)) ?_; rintro e w5 ⟨rfl, hb5⟩; (try clear s50 s51 s52 s53 s54); have HB5 := Lib.hid hb5; have s50 : w5.cell? ⟨w1.heap.size, 0, none⟩ = some (.string L) := (by rw [cell_of_row _ _ _ _ _ _ (HBX.out w5 hb5)]; rfl); have s51 : w5.cell? ⟨w1.heap.size, 1, none⟩ = some (.string M_) := (by rw [cell_of_row _ _ _ _ _ _ (HBX.out w5 hb5)]; rfl); have s52 : w5.cell? ⟨w1.heap.size, 2, none⟩ = some (.string F) := (by rw [cell_of_row _ _ _ _ _ _ (HBX.out w5 hb5)]; rfl); have s53 : w5.cell? ⟨w1.heap.size, 3, none⟩ = some (.slice A2 R.length c2) := (by rw [cell_of_row _ _ _ _ _ _ (HBX.out w5 hb5)]; rfl); have s54 : w5.cell? ⟨w1.heap.size, 4, none⟩ = some (.int .i64 keep) := (by rw [cell_of_row _ _ _ _ _ _ (HBX.out w5 hb5)]; rfl); clear hb5))
            go_ret
            exact ⟨rfl, HB2.out.trans (HB5.out.mono HB2.out.size)⟩
          · have HMX := Lib.hid (show ∀ f t, (f = a ∧ t = b ∨ f = a ∧ t = b ∨ f = a ∧ t = k) → From W1 33 #[.agg #[.string L, .string M_, .string F, .slice A2 R.length c2, .int .i64 keep], .string f, .string t] (.bool true) from fun f t hft => by
                rcases hft with ⟨e1, e2⟩ | ⟨e1, e2⟩ | ⟨e1, e2⟩
                · rw [e1, e2]; have h := HFL.out.meets keep a b (by assumption) (by assumption); rw [GM.out] at h; exact h
                · rw [e1, e2]; have h := HFL.out.meets keep a b (by assumption) (by assumption); rw [GM.out] at h; exact h
                · rw [e1, e2]; have h := HFL.out.meets keep a k (by assumption) (by assumption); rw [HMD.out.meets_up HKA.out HKB.out HKK.out GM.out l1] at h; exact h)
            clear o3
            go_wp2_with (first | (go_at_call 33; refine Calls.mono (From.go (HMX.out _ _ (by first | exact .inl ⟨rfl, rfl⟩ | exact .inr (.inl ⟨rfl, rfl⟩) | exact .inr (.inr ⟨rfl, rfl⟩))) (by first | exact Below.refl _ _ | exact HB5.out)) ?_; rintro e w5 ⟨rfl, hb5⟩; (try clear s50 s51 s52 s53 s54); have HB5 := Lib.hid hb5; have s50 : w5.cell? ⟨w1.heap.size, 0, none⟩ = some (.string L) := (by rw [cell_of_row _ _ _ _ _ _ (HBX.out w5 hb5)]; rfl); have s51 : w5.cell? ⟨w1.heap.size, 1, none⟩ = some (.string M_) := (by rw [cell_of_row _ _ _ _ _ _ (HBX.out w5 hb5)]; rfl); have s52 : w5.cell? ⟨w1.heap.size, 2, none⟩ = some (.string F) := (by rw [cell_of_row _ _ _ _ _ _ (HBX.out w5 hb5)]; rfl); have s53 : w5.cell? ⟨w1.heap.size, 3, none⟩ = some (.slice A2 R.length c2) := (by rw [cell_of_row _ _ _ _ _ _ (HBX.out w5 hb5)]; rfl); have s54 : w5.cell? ⟨w1.heap.size, 4, none⟩ = some (.int .i64 keep) := (by rw [cell_of_row _ _ _ _ _ _ (HBX.out w5 hb5)]; rfl); clear hb5) | (go_at_call 50; refine Calls.mono (From.go HMS.out (by first | exact Below.refl _ _ | exact HB5.out)) ?_; rintro e w5 ⟨rfl, hb5⟩; (try clear s50 s51 s52 s53 s54); have HB5 := Lib.hid hb5; have s50 : w5.cell? ⟨w1.heap.size, 0, none⟩ = some (.string L) := (by rw [cell_of_row _ _ _ _ _ _ (HBX.out w5 hb5)]; rfl); have s51 : w5.cell? ⟨w1.heap.size, 1, none⟩ = some (.string M_) := (by rw [cell_of_row _ _ _ _ _ _ (HBX.out w5 hb5)]; rfl); have s52 : w5.cell? ⟨w1.heap.size, 2, none⟩ = some (.string F) := (by rw [cell_of_row _ _ _ _ _ _ (HBX.out w5 hb5)]; rfl); have s53 : w5.cell? ⟨w1.heap.size, 3, none⟩ = some (.slice A2 R.length c2) := (by rw [cell_of_row _ _ _ _ _ _ (HBX.out w5 hb5)]; rfl); have s54 : w5.cell? ⟨w1.heap.size, 4, none⟩ = some (.int .i64 keep) := (by rw [cell_of_row _ _ _ _ _ _ (HBX.out w5 hb5)]; rfl); clear hb5))
            go_ret
            exact ⟨rfl, HB2.out.trans (HB5.out.mono HB2.out.size)⟩
      · rw [gm] at HMI HMS
        clear gm
        go_wp2_with (first | (go_at_call 33; refine Calls.mono (From.go HMI.out (by first | exact Below.refl _ _ | exact HB5.out)) ?_; rintro e w5 ⟨rfl, hb5⟩; (try clear s50 s51 s52 s53 s54); have HB5 := Lib.hid hb5; have s50 : w5.cell? ⟨w1.heap.size, 0, none⟩ = some (.string L) := (by rw [cell_of_row _ _ _ _ _ _ (HBX.out w5 hb5)]; rfl); have s51 : w5.cell? ⟨w1.heap.size, 1, none⟩ = some (.string M_) := (by rw [cell_of_row _ _ _ _ _ _ (HBX.out w5 hb5)]; rfl); have s52 : w5.cell? ⟨w1.heap.size, 2, none⟩ = some (.string F) := (by rw [cell_of_row _ _ _ _ _ _ (HBX.out w5 hb5)]; rfl); have s53 : w5.cell? ⟨w1.heap.size, 3, none⟩ = some (.slice A2 R.length c2) := (by rw [cell_of_row _ _ _ _ _ _ (HBX.out w5 hb5)]; rfl); have s54 : w5.cell? ⟨w1.heap.size, 4, none⟩ = some (.int .i64 keep) := (by rw [cell_of_row _ _ _ _ _ _ (HBX.out w5 hb5)]; rfl); clear hb5) | (go_at_call 50; refine Calls.mono (From.go HMS.out (by first | exact Below.refl _ _ | exact HB5.out)) ?_; rintro e w5 ⟨rfl, hb5⟩; (try clear s50 s51 s52 s53 s54); have HB5 := Lib.hid hb5; have s50 : w5.cell? ⟨w1.heap.size, 0, none⟩ = some (.string L) := (by rw [cell_of_row _ _ _ _ _ _ (HBX.out w5 hb5)]; rfl); have s51 : w5.cell? ⟨w1.heap.size, 1, none⟩ = some (.string M_) := (by rw [cell_of_row _ _ _ _ _ _ (HBX.out w5 hb5)]; rfl); have s52 : w5.cell? ⟨w1.heap.size, 2, none⟩ = some (.string F) := (by rw [cell_of_row _ _ _ _ _ _ (HBX.out w5 hb5)]; rfl); have s53 : w5.cell? ⟨w1.heap.size, 3, none⟩ = some (.slice A2 R.length c2) := (by rw [cell_of_row _ _ _ _ _ _ (HBX.out w5 hb5)]; rfl); have s54 : w5.cell? ⟨w1.heap.size, 4, none⟩ = some (.int .i64 keep) := (by rw [cell_of_row _ _ _ _ _ _ (HBX.out w5 hb5)]; rfl); clear hb5))
        go_ret
        exact ⟨rfl, HB2.out.trans (HB5.out.mono HB2.out.size)⟩

end Go.Proofs.Ytakadkhgcjndmaa.W
