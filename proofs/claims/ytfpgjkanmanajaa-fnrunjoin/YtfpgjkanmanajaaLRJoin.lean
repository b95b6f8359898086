/-
  The law FnRunJoin (P30), as a walk over the contracts.
-/
import Derived.Test.YtfpgjkanmanajaaGK
namespace Go.Proofs.Ytfpgjkanmanajaa.W
open Go.RowKit K R

set_option maxHeartbeats 8000000 in
set_option maxRecDepth 100000 in
theorem lawRunJoin (w : World) (A : Option Addr) (n c : Nat) (hb0 : Bytes w w.heap.size A n) (hnc : n ≤ c) (hc : c ≤ maxLen) :
    Calls Try.prog 5 #[.slice A n c] w fun e w' => e = .returned (.bool true) ∧ Below w.heap.size w w' := by
  by_cases hbig : (1048576 : Int) < (n : Int)
  · clear hb0
    go_enter Try.func5, Try.ntmps5
    go_wp2
    go_ret
    exact ⟨rfl, Below.refl _ _⟩
  go_enter Try.func5, Try.ntmps5
  go_wp2_with fail
  go_at_call 31
  refine Calls.mono (drawRunJoin w A n c hb0 hnc hc) ?_
  rintro e w1 ⟨A1, A2, c1, c2, l, l2, rfl, hf, hg, hb⟩
  have HF := Lib.hid hf
  have HG := Lib.hid hg
  have HB := Lib.hid hb
  have hl45 := hf.len
  have hl245 := hg.len
  clear hb0 hf hg hb
  obtain ⟨r, hr⟩ : ∃ r, joinF l l2 = r := ⟨_, rfl⟩
  obtain ⟨q, hq⟩ : ∃ q, joinB l l2 = q := ⟨_, rfl⟩
  have HJR := Lib.hid hr
  have HJQ := Lib.hid hq
  clear hr hq
  go_wp2_with fail
  go_at_call 32
  refine Calls.mono (joinS_is HF.out HG.out HJR.out HJQ.out) ?_
  rintro e w2 ⟨A3, c3, rfl, hf_, b_⟩
  replace HF := Lib.hid (HF.out.below b_)
  replace HG := Lib.hid (HG.out.below b_)
  replace HB := Lib.hid (HB.out.trans (b_.mono HB.out.size))
  have HM := Lib.hid hf_
  clear hf_ b_
  go_wp2_with fail
  go_at_call 26
  refine Calls.mono (joinI_is HF.out HG.out HJR.out HJQ.out) ?_
  rintro e w3 ⟨A4, c4, rfl, hf_, b_⟩
  replace HF := Lib.hid (HF.out.below b_)
  replace HG := Lib.hid (HG.out.below b_)
  replace HM := Lib.hid (HM.out.below b_)
  replace HB := Lib.hid (HB.out.trans (b_.mono HB.out.size))
  have HX := Lib.hid hf_
  clear hf_ b_
  cases q with
  | false =>
    go_wp2_with fail
    go_at_call 27
    refine Calls.mono (same_few HX.out HM.out) ?_
    rintro e w4 ⟨rfl, b_⟩
    replace HF := Lib.hid (HF.out.below b_)
    replace HG := Lib.hid (HG.out.below b_)
    replace HM := Lib.hid (HM.out.below b_)
    replace HX := Lib.hid (HX.out.below b_)
    replace HB := Lib.hid (HB.out.trans (b_.mono HB.out.size))
    clear b_
    go_wp2_with fail
    go_at_call 27
    refine Calls.mono (same_few HX.out HM.out) ?_
    rintro e w5 ⟨rfl, b_⟩
    replace HF := Lib.hid (HF.out.below b_)
    replace HG := Lib.hid (HG.out.below b_)
    replace HM := Lib.hid (HM.out.below b_)
    replace HX := Lib.hid (HX.out.below b_)
    replace HB := Lib.hid (HB.out.trans (b_.mono HB.out.size))
    clear b_
    go_wp2
    go_ret
    exact ⟨rfl, HB.out⟩
  | true =>
    go_wp2_with fail
    go_at_call 27
    refine Calls.mono (same_few HX.out HM.out) ?_
    rintro e w4 ⟨rfl, b_⟩
    replace HF := Lib.hid (HF.out.below b_)
    replace HG := Lib.hid (HG.out.below b_)
    replace HM := Lib.hid (HM.out.below b_)
    replace HX := Lib.hid (HX.out.below b_)
    replace HB := Lib.hid (HB.out.trans (b_.mono HB.out.size))
    clear b_
    clear HM
    obtain ⟨k1, k2, k3, k4, k5, k6⟩ := both_ways HJQ.out
    rw [HJR.out] at k2 k5 k6
    have HK1 := Lib.hid k1
    have HK2 := Lib.hid k2
    have HK3 := Lib.hid k3
    have HK4 := Lib.hid k4
    have HK6 := Lib.hid k6
    have HEQ := Lib.hid (show ((r.length : Int) == (l.length : Int) + (l2.length : Int)) = true by rw [k5]; simp)
    have hr80 : r.length ≤ 90 := by omega
    clear k1 k2 k3 k4 k5 k6
    go_wp2_with fail
    go_at_call 26
    refine Calls.mono (joinI_is HG.out HF.out HK2.out HK1.out) ?_
    rintro e w5 ⟨A5, c5, rfl, hf_, b_⟩
    replace HF := Lib.hid (HF.out.below b_)
    replace HG := Lib.hid (HG.out.below b_)
    replace HX := Lib.hid (HX.out.below b_)
    replace HB := Lib.hid (HB.out.trans (b_.mono HB.out.size))
    have HY := Lib.hid hf_
    clear hf_ b_
    go_wp2_with fail
    go_at_call 26
    refine Calls.mono (joinI_is HF.out (few_nil _) HK4.out HK3.out) ?_
    rintro e w6 ⟨A6, c6, rfl, hf_, b_⟩
    replace HF := Lib.hid (HF.out.below b_)
    replace HG := Lib.hid (HG.out.below b_)
    replace HX := Lib.hid (HX.out.below b_)
    replace HY := Lib.hid (HY.out.below b_)
    replace HB := Lib.hid (HB.out.trans (b_.mono HB.out.size))
    have HN := Lib.hid hf_
    clear hf_ b_
    go_wp2_with fail
    go_at_call 24
    refine Calls.mono (runI_is HX.out HK6.out) ?_
    rintro e w7 ⟨rfl, b_⟩
    replace HF := Lib.hid (HF.out.below b_)
    replace HG := Lib.hid (HG.out.below b_)
    replace HX := Lib.hid (HX.out.below b_)
    replace HY := Lib.hid (HY.out.below b_)
    replace HN := Lib.hid (HN.out.below b_)
    replace HB := Lib.hid (HB.out.trans (b_.mono HB.out.size))
    clear b_
    have q1 := HEQ.out
    have ew : IntKind.i64.wrap ((l.length : Int) + (l2.length : Int)) = (l.length : Int) + (l2.length : Int) := i64_z _ (by omega) (by omega)
    go_wp2_with fail
    go_at_call 27
    refine Calls.mono (same_few HY.out HX.out) ?_
    rintro e w8 ⟨rfl, b_⟩
    replace HF := Lib.hid (HF.out.below b_)
    replace HG := Lib.hid (HG.out.below b_)
    replace HX := Lib.hid (HX.out.below b_)
    replace HY := Lib.hid (HY.out.below b_)
    replace HN := Lib.hid (HN.out.below b_)
    replace HB := Lib.hid (HB.out.trans (b_.mono HB.out.size))
    clear b_
    clear HY
    clear HX
    go_wp2_with fail
    go_at_call 27
    refine Calls.mono (same_few HN.out HF.out) ?_
    rintro e w9 ⟨rfl, b_⟩
    replace HF := Lib.hid (HF.out.below b_)
    replace HG := Lib.hid (HG.out.below b_)
    replace HN := Lib.hid (HN.out.below b_)
    replace HB := Lib.hid (HB.out.trans (b_.mono HB.out.size))
    clear b_
    go_wp2
    go_ret
    exact ⟨rfl, HB.out⟩

end Go.Proofs.Ytfpgjkanmanajaa.W
