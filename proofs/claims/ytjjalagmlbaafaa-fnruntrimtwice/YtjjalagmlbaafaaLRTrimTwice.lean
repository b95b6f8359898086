/-
  The law FnRunTrimTwice (P35), as a walk over the contracts.
-/
import Derived.Test.YtjjalagmlbaafaaGE
namespace Go.Proofs.Ytjjalagmlbaafaa.W
open Go.RowKit K R

theorem ret_true {p : Prop} [Decidable p] (h : p) : Ending.returned (.bool (decide p)) = .returned (.bool true) := by rw [decide_eq_true h]

set_option maxHeartbeats 8000000 in
set_option maxRecDepth 100000 in
theorem lawRunTrimTwice (w : World) (A : Option Addr) (n c : Nat) (hb0 : Bytes w w.heap.size A n) (hnc : n ≤ c) (hc : c ≤ maxLen) :
    Calls Try.prog 10 #[.slice A n c] w fun e w' => e = .returned (.bool true) ∧ Below w.heap.size w w' := by
  by_cases hbig : (1048576 : Int) < (n : Int)
  · clear hb0
    go_enter Try.func10, Try.ntmps10
    go_wp2
    go_ret
    exact ⟨rfl, Below.refl _ _⟩
  go_enter Try.func10, Try.ntmps10
  go_wp2_with fail
  go_at_call 32
  refine Calls.mono (drawRunTrim w A n c hb0 hnc hc) ?_
  rintro e w1 ⟨A1, c1, l, A9, c9, times, bot, ht4, rfl, hf, hn9, hb⟩
  have HF := Lib.hid hf
  have HN := Lib.hid (show FewN w1 A9 times from ⟨ht4, hn9⟩)
  have HB := Lib.hid hb
  have hl45 := hf.len
  clear hb0 hf hn9 hb
  go_wp2_with fail
  go_at_call 33
  refine Calls.mono (trimI_few HF.out HN.out bot) ?_
  rintro e w2 ⟨A2, c2, rfl, hf_, b_⟩
  replace HF := Lib.hid (HF.out.below b_)
  replace HN := Lib.hid (HN.out.below b_)
  replace HB := Lib.hid (HB.out.trans (b_.mono HB.out.size))
  have HX := Lib.hid hf_
  clear hf_ b_
  go_wp2_with fail
  go_at_call 34
  refine Calls.mono (trimS_few HF.out HN.out bot) ?_
  rintro e w3 ⟨A3, c3, rfl, hf_, b_⟩
  replace HF := Lib.hid (HF.out.below b_)
  replace HN := Lib.hid (HN.out.below b_)
  replace HX := Lib.hid (HX.out.below b_)
  replace HB := Lib.hid (HB.out.trans (b_.mono HB.out.size))
  have HM := Lib.hid hf_
  clear hf_ b_
  go_wp2_with fail
  go_at_call 26
  refine Calls.mono (same_few HX.out HM.out) ?_
  rintro e w4 ⟨rfl, b_⟩
  replace HF := Lib.hid (HF.out.below b_)
  replace HN := Lib.hid (HN.out.below b_)
  replace HX := Lib.hid (HX.out.below b_)
  replace HM := Lib.hid (HM.out.below b_)
  replace HB := Lib.hid (HB.out.trans (b_.mono HB.out.size))
  clear b_
  clear HM
  have HC := Lib.hid (runT_few HF.out)
  rcases Bool.eq_false_or_eq_true (runB l) with hrun | hrun
  · rw [hrun] at HC
    go_wp2_with fail
    go_at_call 24
    refine Calls.mono (HC.out) ?_
    rintro e w5 ⟨rfl, b_⟩
    replace HF := Lib.hid (HF.out.below b_)
    replace HN := Lib.hid (HN.out.below b_)
    replace HX := Lib.hid (HX.out.below b_)
    replace HB := Lib.hid (HB.out.trans (b_.mono HB.out.size))
    clear b_
    clear HC
    clear HX
    go_wp2_with fail
    go_at_call 33
    refine Calls.mono (trimI_few HF.out HN.out false) ?_
    rintro e w6 ⟨A5, c5, rfl, hf_, b_⟩
    replace HF := Lib.hid (HF.out.below b_)
    replace HN := Lib.hid (HN.out.below b_)
    replace HB := Lib.hid (HB.out.trans (b_.mono HB.out.size))
    have HY := Lib.hid hf_
    clear hf_ b_
    go_wp2_with fail
    go_at_call 33
    refine Calls.mono (trimI_few HF.out (fewN_nil w6) false) ?_
    rintro e w7 ⟨A6, c6, rfl, hf_, b_⟩
    replace HF := Lib.hid (HF.out.below b_)
    replace HN := Lib.hid (HN.out.below b_)
    replace HY := Lib.hid (HY.out.below b_)
    replace HB := Lib.hid (HB.out.trans (b_.mono HB.out.size))
    have HW := Lib.hid hf_
    clear hf_ b_
    obtain ⟨t1, t2, t3⟩ := trim_twice hrun times
    have HT1 := Lib.hid t1
    have hy45 := HY.out.len
    have hw45 := HW.out.len
    have hkq := keysO_le l
    have HKG := Lib.hid (show ∀ W, Few W A1 c1 l → Calls Try.prog 35 #[.slice A1 l.length c1] W (New W (keysO l)) from fun W h => keysT_few h)
    have hts : times.length ≤ 4 := ht4
    have e1 : ((trimO l [] false).length : Int) * ((times.length : Int) + 1) = (((trimO l [] false).length * (times.length + 1) : Nat) : Int) := by simp
    have HEQ := Lib.hid (show (((trimO l [] false).length : Int) == ((keysO l).length : Int)) = true by rw [t2]; simp)
    have HLE := Lib.hid (show ((trimO l times false).length : Int) ≤ ((trimO l [] false).length : Int) * ((times.length : Int) + 1) by rw [e1]; exact Int.ofNat_le.mpr t3)
    have HWR := Lib.hid (show wrap64 (((trimO l [] false).length : Int) * ((times.length : Int) + 1)) = ((trimO l [] false).length : Int) * ((times.length : Int) + 1) from by
      rw [e1]
      have hm : (trimO l [] false).length * (times.length + 1) ≤ 45 * 5 := Nat.mul_le_mul hw45 (by omega)
      generalize (trimO l [] false).length * (times.length + 1) = N at hm ⊢
      unfold wrap64
      omega)
    have HC := Lib.hid (trimI_few (ct := c9) HY.out HN.out false)
    rw [t1] at HC
    clear t1 t2 t3 e1 hrun
    obtain ⟨y, hy⟩ : ∃ y, y = trimO l times false := ⟨_, rfl⟩
    obtain ⟨fw, hfw⟩ : ∃ y, y = trimO l [] false := ⟨_, rfl⟩
    obtain ⟨ks, hks⟩ : ∃ y, y = keysO l := ⟨_, rfl⟩
    rw [← hy] at HC HY HLE hy45
    rw [← hfw] at HEQ HLE HWR hw45
    rw [← hks] at HEQ hkq HKG
    rw [← hy, ← hfw]
    clear HW hy hfw hks HT1
    go_wp2_with fail
    go_at_call 33
    refine Calls.mono (HC.out) ?_
    rintro e w8 ⟨A7, c7, rfl, hf_, b_⟩
    replace HF := Lib.hid (HF.out.below b_)
    replace HN := Lib.hid (HN.out.below b_)
    replace HY := Lib.hid (HY.out.below b_)
    replace HB := Lib.hid (HB.out.trans (b_.mono HB.out.size))
    have HZ := Lib.hid hf_
    clear hf_ b_
    go_wp2_with fail
    go_at_call 26
    refine Calls.mono (same_few HZ.out HY.out) ?_
    rintro e w9 ⟨rfl, b_⟩
    replace HF := Lib.hid (HF.out.below b_)
    replace HN := Lib.hid (HN.out.below b_)
    replace HY := Lib.hid (HY.out.below b_)
    replace HZ := Lib.hid (HZ.out.below b_)
    replace HB := Lib.hid (HB.out.trans (b_.mono HB.out.size))
    clear b_
    clear HZ
    clear HY
    clear HC
    go_wp2_with fail
    go_at_call 35
    refine Calls.mono (HKG.out w9 HF.out) ?_
    rintro e w10 ⟨kv_, rfl, ok_, b_⟩
    obtain ⟨A8, c8, hkv_, -, -, -⟩ := ok_.parts
    subst hkv_
    replace HF := Lib.hid (HF.out.below b_)
    replace HN := Lib.hid (HN.out.below b_)
    replace HB := Lib.hid (HB.out.trans (b_.mono HB.out.size))
    clear ok_ b_ HKG
    have q1 := HEQ.out
    go_wp2
    go_ret
    exact ⟨ret_true (by rw [HWR.out]; exact HLE.out), HB.out⟩
  · rw [hrun] at HC
    go_wp2_with fail
    go_at_call 24
    refine Calls.mono (HC.out) ?_
    rintro e w5 ⟨rfl, b_⟩
    replace HF := Lib.hid (HF.out.below b_)
    replace HN := Lib.hid (HN.out.below b_)
    replace HX := Lib.hid (HX.out.below b_)
    replace HB := Lib.hid (HB.out.trans (b_.mono HB.out.size))
    clear b_
    clear HC hrun
    go_wp2_with fail
    go_at_call 34
    refine Calls.mono (trimS_few HF.out HN.out bot) ?_
    rintro e w6 ⟨A4, c4, rfl, hf_, b_⟩
    replace HF := Lib.hid (HF.out.below b_)
    replace HN := Lib.hid (HN.out.below b_)
    replace HX := Lib.hid (HX.out.below b_)
    replace HB := Lib.hid (HB.out.trans (b_.mono HB.out.size))
    have HM := Lib.hid hf_
    clear hf_ b_
    go_wp2_with fail
    go_at_call 26
    refine Calls.mono (same_few HX.out HM.out) ?_
    rintro e w7 ⟨rfl, b_⟩
    replace HF := Lib.hid (HF.out.below b_)
    replace HN := Lib.hid (HN.out.below b_)
    replace HX := Lib.hid (HX.out.below b_)
    replace HM := Lib.hid (HM.out.below b_)
    replace HB := Lib.hid (HB.out.trans (b_.mono HB.out.size))
    clear b_
    go_wp2
    go_ret
    exact ⟨rfl, HB.out⟩

end Go.Proofs.Ytjjalagmlbaafaa.W
