/-
  The law FnBlockBack (P76), as a walk over the contracts.
-/
import Derived.Test.YtbckgmfopbpocaaDoorLB0
namespace Go.Proofs.YtbckgmfopbpocaaDoor.W
open Go.RowKit K R B
set_option maxHeartbeats 8000000 in
set_option maxRecDepth 100000 in
theorem lawBlockBack (w : World) (A : Option Addr) (n c : Nat) (hb0 : Bytes w w.heap.size A n) (hnc : n ≤ c) (hc : c ≤ maxLen) (hT : Tab w) (hE : ErrB w.heap.size w) :
    Calls Tryd.prog 3 #[.slice A n c] w fun e w' => e = .returned (.bool true) ∧ Below w.heap.size w w' := by
  by_cases hbig : (1048576 : Int) < (n : Int)
  · clear hb0
    go_enter Tryd.func3, Tryd.ntmps3
    go_wp2
    go_ret
    exact ⟨rfl, Below.refl _ _⟩
  go_enter Tryd.func3, Tryd.ntmps3
  go_wp2_with fail
  go_at_call 10
  refine Calls.mono (drawBlockText w A n c hb0 hnc hc) ?_
  rintro e w1 ⟨A1, c1, l, rfl, hf, hb⟩
  have HF := Lib.hid hf
  have HB := Lib.hid hb
  have hl45 := hf.len
  have HT := Lib.hid hT
  have HE := Lib.hid hE
  clear hb0 hf hb hT hE
  have HI := Lib.hid (show ∀ W, Below w.heap.size w W → Few W A1 c1 l → Calls Tryd.prog 11 #[.slice A1 l.length c1] W fun e w' => e = .returned (.string (ofL (blockL l))) ∧ Below W.heap.size W w' from fun W hb hf => textI_few hf (HT.out.on hb))
  have HS := Lib.hid (show ∀ W, Few W A1 c1 l → Calls Tryd.prog 12 #[.slice A1 l.length c1] W fun e w' => e = .returned (.string (ofL (blockL l))) ∧ Below W.heap.size W w' from fun W hf => textS_few hf)
  have hTs : (ofL (blockL l)).size ≤ 400 := by rw [ofL_size]; exact block_len l
  obtain ⟨T, hTT⟩ : ∃ T, T = ofL (blockL l) := ⟨_, rfl⟩
  rw [← hTT] at HI HS hTs
  have HTT := Lib.hid hTT
  clear hTT
  have e1 : (T.toList == T.toList) = true := by simp
  go_wp2_with fail
  go_at_call 11
  refine Calls.mono (HI.out _ HB.out HF.out) ?_
  rintro e w2 ⟨rfl, b_⟩
  replace HF := Lib.hid (HF.out.below b_)
  replace HB := Lib.hid (HB.out.trans (b_.mono HB.out.size))
  clear b_
  cases hte : T.toList.isEmpty with
  | true =>
    go_wp2_with fail
    go_at_call 12
    refine Calls.mono (HS.out _ HF.out) ?_
    rintro e w3 ⟨rfl, b_⟩
    replace HF := Lib.hid (HF.out.below b_)
    replace HB := Lib.hid (HB.out.trans (b_.mono HB.out.size))
    clear b_
    go_wp2_with fail
    go_at_call 12
    refine Calls.mono (HS.out _ HF.out) ?_
    rintro e w4 ⟨rfl, b_⟩
    replace HF := Lib.hid (HF.out.below b_)
    replace HB := Lib.hid (HB.out.trans (b_.mono HB.out.size))
    clear b_
    go_wp2
    go_ret
    exact ⟨rfl, HB.out⟩
  | false =>
    have HNE := Lib.hid (notEmpty HTT.out hte)
    have hTp : 1 ≤ T.size := by
      rcases Nat.eq_zero_or_pos T.size with h | h
      · exact absurd (List.eq_nil_of_length_eq_zero (by rw [HTT.out, ofL_size] at h; exact h)) HNE.out
      · exact h
    go_wp2_with fail
    go_at_call 12
    refine Calls.mono (HS.out _ HF.out) ?_
    rintro e w3 ⟨rfl, b_⟩
    replace HF := Lib.hid (HF.out.below b_)
    replace HB := Lib.hid (HB.out.trans (b_.mono HB.out.size))
    clear b_
    have HR := Lib.hid (show ∀ W, Below w.heap.size w W → Calls Tryd.prog 13 #[.string T] W fun e w' => ∃ A c, e = .returned (.tuple #[.slice A l.length c, .bool true]) ∧ Few w' A c l ∧ Below W.heap.size W w' from fun W hb => readSome (by omega) (HT.out.on hb) (errOn' HE.out hb) (by rw [HTT.out, ofL_data]; exact read_block HNE.out) hl45 HF.out.short)
    have hT4 : (T.size : Int) ≤ 400 := by omega
    go_wp2_with fail
    go_at_call 13
    refine Calls.mono (HR.out _ HB.out) ?_
    rintro e w4 ⟨AX, cX, rfl, hf_, b_⟩
    replace HF := Lib.hid (HF.out.below b_)
    replace HB := Lib.hid (HB.out.trans (b_.mono HB.out.size))
    have HX := Lib.hid hf_
    clear hf_ b_
    go_wp2_with fail
    go_at_call 14
    refine Calls.mono (same_few2 HX.out HF.out) ?_
    rintro e w5 ⟨rfl, b_⟩
    replace HF := Lib.hid (HF.out.below b_)
    replace HX := Lib.hid (HX.out.below b_)
    replace HB := Lib.hid (HB.out.trans (b_.mono HB.out.size))
    clear b_
    go_wp2
    go_ret
    exact ⟨rfl, HB.out⟩

end Go.Proofs.YtbckgmfopbpocaaDoor.W
