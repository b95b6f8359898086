/-
  The law FnRunJoinThree (P32), as a walk over the contracts.
-/
import Derived.Test.YtfpgjkanmanajaaGK
namespace Go.Proofs.Ytfpgjkanmanajaa.W
open Go.RowKit K R

set_option maxHeartbeats 8000000 in
set_option maxRecDepth 100000 in
theorem lawRunJoinThree (w : World) (A : Option Addr) (n c : Nat) (hb0 : Bytes w w.heap.size A n) (hnc : n ≤ c) (hc : c ≤ maxLen) (A9 : Option Addr) (n9 c9 : Nat) (hb9 : Bytes w w.heap.size A9 n9) (hnc9 : n9 ≤ c9) (hc9 : c9 ≤ maxLen) :
    Calls Try.prog 7 #[.slice A n c, .slice A9 n9 c9] w fun e w' => e = .returned (.bool true) ∧ Below w.heap.size w w' := by
  by_cases hbig : (1048576 : Int) < (n : Int)
  · clear hb0
    go_enter Try.func7, Try.ntmps7
    go_wp2
    go_ret
    exact ⟨rfl, Below.refl _ _⟩
  by_cases hbig9 : (1048576 : Int) < (n9 : Int)
  · clear hb0
    go_enter Try.func7, Try.ntmps7
    go_wp2
    go_ret
    exact ⟨rfl, Below.refl _ _⟩
  go_enter Try.func7, Try.ntmps7
  go_wp2_with fail
  go_at_call 31
  refine Calls.mono (drawRunJoin w A n c hb0 hnc hc) ?_
  rintro e w1 ⟨A1, A2, c1, c2, l, l2, rfl, hf, hg, hb⟩
  have HF := Lib.hid hf
  have HG := Lib.hid hg
  have HB := Lib.hid hb
  have hl45 := hf.len
  have hl245 := hg.len
  have HB9 := Lib.hid (bytes_moreJ (hb9.keep fun b o h => hb.cell (p := ⟨b, o, none⟩) h) hb.size)
  clear hb9
  clear hb0 hf hg hb
  go_wp2_with fail
  go_at_call 31
  refine Calls.mono (drawRunJoin w1 A9 n9 c9 HB9.out hnc9 hc9) ?_
  rintro e w2 ⟨A8, A7, c8, c7, l3, l4, rfl, hf_, -, b_⟩
  replace HF := Lib.hid (HF.out.below b_)
  replace HG := Lib.hid (HG.out.below b_)
  replace HB := Lib.hid (HB.out.trans (b_.mono HB.out.size))
  have HH := Lib.hid hf_
  clear b_ HB9 hf_
  obtain ⟨r, hr⟩ : ∃ r, joinF l l2 = r := ⟨_, rfl⟩
  obtain ⟨q, hq⟩ : ∃ q, joinB l l2 = q := ⟨_, rfl⟩
  have HJR := Lib.hid hr
  have HJQ := Lib.hid hq
  clear hr hq
  go_wp2_with fail
  go_at_call 32
  refine Calls.mono (joinS_is HF.out HG.out HJR.out HJQ.out) ?_
  rintro e w3 ⟨A3, c3, rfl, hf_, b_⟩
  replace HF := Lib.hid (HF.out.below b_)
  replace HG := Lib.hid (HG.out.below b_)
  replace HH := Lib.hid (HH.out.below b_)
  replace HB := Lib.hid (HB.out.trans (b_.mono HB.out.size))
  have HM := Lib.hid hf_
  clear hf_ b_
  go_wp2_with fail
  go_at_call 26
  refine Calls.mono (joinI_is HF.out HG.out HJR.out HJQ.out) ?_
  rintro e w4 ⟨A4, c4, rfl, hf_, b_⟩
  replace HF := Lib.hid (HF.out.below b_)
  replace HG := Lib.hid (HG.out.below b_)
  replace HH := Lib.hid (HH.out.below b_)
  replace HM := Lib.hid (HM.out.below b_)
  replace HB := Lib.hid (HB.out.trans (b_.mono HB.out.size))
  have HX := Lib.hid hf_
  clear hf_ b_
  cases q with
  | false =>
    go_wp2_with fail
    go_at_call 27
    refine Calls.mono (same_few HX.out HM.out) ?_
    rintro e w5 ⟨rfl, b_⟩
    replace HF := Lib.hid (HF.out.below b_)
    replace HG := Lib.hid (HG.out.below b_)
    replace HH := Lib.hid (HH.out.below b_)
    replace HM := Lib.hid (HM.out.below b_)
    replace HX := Lib.hid (HX.out.below b_)
    replace HB := Lib.hid (HB.out.trans (b_.mono HB.out.size))
    clear b_
    go_wp2_with fail
    go_at_call 27
    refine Calls.mono (same_few HX.out HM.out) ?_
    rintro e w6 ⟨rfl, b_⟩
    replace HF := Lib.hid (HF.out.below b_)
    replace HG := Lib.hid (HG.out.below b_)
    replace HH := Lib.hid (HH.out.below b_)
    replace HM := Lib.hid (HM.out.below b_)
    replace HX := Lib.hid (HX.out.below b_)
    replace HB := Lib.hid (HB.out.trans (b_.mono HB.out.size))
    clear b_
    go_wp2
    go_ret
    exact ⟨rfl, HB.out⟩
  | true =>
    go_wp2_with fail
    go_at_call 27
    refine Calls.mono (same_few HX.out HM.out) ?_
    rintro e w5 ⟨rfl, b_⟩
    replace HF := Lib.hid (HF.out.below b_)
    replace HG := Lib.hid (HG.out.below b_)
    replace HH := Lib.hid (HH.out.below b_)
    replace HM := Lib.hid (HM.out.below b_)
    replace HX := Lib.hid (HX.out.below b_)
    replace HB := Lib.hid (HB.out.trans (b_.mono HB.out.size))
    clear b_
    clear HM
    obtain ⟨r2, hr2⟩ : ∃ r2, joinF r l3 = r2 := ⟨_, rfl⟩
    obtain ⟨q2, hq2⟩ : ∃ q2, joinB r l3 = q2 := ⟨_, rfl⟩
    obtain ⟨r3, hr3⟩ : ∃ r3, joinF l2 l3 = r3 := ⟨_, rfl⟩
    obtain ⟨q3, hq3⟩ : ∃ q3, joinB l2 l3 = q3 := ⟨_, rfl⟩
    obtain ⟨r4, hr4⟩ : ∃ r4, joinF l r3 = r4 := ⟨_, rfl⟩
    obtain ⟨q4, hq4⟩ : ∃ q4, joinB l r3 = q4 := ⟨_, rfl⟩
    have H3 := Lib.hid (show q2 = true → q3 = true ∧ q4 = true ∧ r4 = r2 from fun h => by
      obtain ⟨k1, k2, k3⟩ := joined_three HJQ.out (show joinB (joinF l l2) l3 = true by rw [HJR.out, hq2, h])
      rw [hr3] at k2 k3
      rw [HJR.out] at k3
      exact ⟨hq3.symm.trans k1, hq4.symm.trans k2, by rw [← hr4, ← hr2, k3]⟩)
    have HR2 := Lib.hid hr2
    have HQ2 := Lib.hid hq2
    have HR3 := Lib.hid hr3
    have HQ3 := Lib.hid hq3
    have HR4 := Lib.hid hr4
    have HQ4 := Lib.hid hq4
    clear hr2 hq2 hr3 hq3 hr4 hq4
    go_wp2_with fail
    go_at_call 26
    refine Calls.mono (joinI_is HX.out HH.out HR2.out HQ2.out) ?_
    rintro e w6 ⟨A5, c5, rfl, hf_, b_⟩
    replace HF := Lib.hid (HF.out.below b_)
    replace HG := Lib.hid (HG.out.below b_)
    replace HH := Lib.hid (HH.out.below b_)
    replace HX := Lib.hid (HX.out.below b_)
    replace HB := Lib.hid (HB.out.trans (b_.mono HB.out.size))
    have HY := Lib.hid hf_
    clear hf_ b_
    go_wp2_with fail
    go_at_call 26
    refine Calls.mono (joinI_is HG.out HH.out HR3.out HQ3.out) ?_
    rintro e w7 ⟨A6, c6, rfl, hf_, b_⟩
    replace HF := Lib.hid (HF.out.below b_)
    replace HG := Lib.hid (HG.out.below b_)
    replace HH := Lib.hid (HH.out.below b_)
    replace HX := Lib.hid (HX.out.below b_)
    replace HY := Lib.hid (HY.out.below b_)
    replace HB := Lib.hid (HB.out.trans (b_.mono HB.out.size))
    have HZ := Lib.hid hf_
    clear hf_ b_
    go_wp2_with fail
    go_at_call 26
    refine Calls.mono (joinI_is HF.out HZ.out HR4.out HQ4.out) ?_
    rintro e w8 ⟨A10, c10, rfl, hf_, b_⟩
    replace HF := Lib.hid (HF.out.below b_)
    replace HG := Lib.hid (HG.out.below b_)
    replace HH := Lib.hid (HH.out.below b_)
    replace HX := Lib.hid (HX.out.below b_)
    replace HY := Lib.hid (HY.out.below b_)
    replace HZ := Lib.hid (HZ.out.below b_)
    replace HB := Lib.hid (HB.out.trans (b_.mono HB.out.size))
    have HW := Lib.hid hf_
    clear hf_ b_
    cases q2 with
    | false =>
      go_wp2
      go_ret
      exact ⟨rfl, HB.out⟩
    | true =>
      obtain ⟨k1, k2, k3⟩ := H3.out rfl
      clear HR2 HQ2 HR3 HQ3 HR4 HQ4 H3
      subst k1 k2 k3
      go_wp2_with fail
      go_at_call 27
      refine Calls.mono (same_few HW.out HY.out) ?_
      rintro e w9 ⟨rfl, b_⟩
      replace HF := Lib.hid (HF.out.below b_)
      replace HG := Lib.hid (HG.out.below b_)
      replace HH := Lib.hid (HH.out.below b_)
      replace HX := Lib.hid (HX.out.below b_)
      replace HY := Lib.hid (HY.out.below b_)
      replace HZ := Lib.hid (HZ.out.below b_)
      replace HW := Lib.hid (HW.out.below b_)
      replace HB := Lib.hid (HB.out.trans (b_.mono HB.out.size))
      clear b_
      go_wp2
      go_ret
      exact ⟨rfl, HB.out⟩

end Go.Proofs.Ytfpgjkanmanajaa.W
