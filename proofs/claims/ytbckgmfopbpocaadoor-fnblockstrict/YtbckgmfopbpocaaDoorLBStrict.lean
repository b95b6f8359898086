/-
  The law FnBlockStrict (P77), as a walk over the contracts.
-/
import Derived.Test.YtbckgmfopbpocaaDoorLB1
namespace Go.Proofs.YtbckgmfopbpocaaDoor.W
open Go.RowKit K R B
set_option maxHeartbeats 8000000 in
set_option maxRecDepth 100000 in
theorem lawBlockStrict (w : World) (A : Option Addr) (n c : Nat) (hb0 : Bytes w w.heap.size A n) (hnc : n ≤ c) (hc : c ≤ maxLen) (hT : Tab w) (hE : ErrB w.heap.size w) :
    Calls Tryd.prog 4 #[.slice A n c] w fun e w' => e = .returned (.bool true) ∧ Below w.heap.size w w' := by
  by_cases hbig : (1048576 : Int) < (n : Int)
  · clear hb0
    go_enter Tryd.func4, Tryd.ntmps4
    go_wp2
    go_ret
    exact ⟨rfl, Below.refl _ _⟩
  go_enter Tryd.func4, Tryd.ntmps4
  go_wp2_with fail
  go_at_call 15
  refine Calls.mono (drawBlockRead w A n c hb0 hnc hc) ?_
  rintro e w1 ⟨s, rfl, hss, hb⟩
  have HB := Lib.hid hb
  have HT := Lib.hid hT
  have HE := Lib.hid hE
  clear hb0 hb hT hE
  have HRS := Lib.hid (fun W => readFS s W (by omega))
  have HRI := Lib.hid (fun (W : World) (hb : Below w.heap.size w W) => readFI s W (by omega) (HT.out.on hb) (errOn' HE.out hb))
  have HFIT := Lib.hid (read_fits (t := s.data.toList))
  have HOK := Lib.hid (show ∀ l, readL s.data.toList = some l → blockL l = s.data.toList from fun l h => (read_some.mp h).2)
  unfold ReadF at HRS HRI
  cases hr : readL s.data.toList with
  | none =>
    have hl45 := HFIT.out.1
    obtain ⟨l, hl⟩ : ∃ l, l = (readL s.data.toList).getD [] := ⟨_, rfl⟩
    have hno : (readL s.data.toList).isSome = false := by rw [hr]; rfl
    rw [← hl, hno] at HRS HRI
    rw [← hl] at hl45
    have HL0 := Lib.hid (show (l.length : Int) = 0 by rw [hl, hr]; rfl)
    clear hr hl hno HOK HFIT
    go_wp2_with fail
    go_at_call 16
    refine Calls.mono (HRS.out _) ?_
    rintro e w2 ⟨A_HW, c_HW, rfl, hf_, b_⟩
    replace HB := Lib.hid (HB.out.trans (b_.mono HB.out.size))
    have HW := Lib.hid hf_
    clear hf_ b_
    go_wp2_with fail
    go_at_call 13
    refine Calls.mono (HRI.out _ HB.out) ?_
    rintro e w3 ⟨A_HG, c_HG, rfl, hf_, b_⟩
    replace HW := Lib.hid (HW.out.below b_)
    replace HB := Lib.hid (HB.out.trans (b_.mono HB.out.size))
    have HG := Lib.hid hf_
    clear hf_ b_
    go_wp2_with fail
    go_at_call 14
    refine Calls.mono (same_few2 HG.out HW.out) ?_
    rintro e w4 ⟨rfl, b_⟩
    replace HW := Lib.hid (HW.out.below b_)
    replace HG := Lib.hid (HG.out.below b_)
    replace HB := Lib.hid (HB.out.trans (b_.mono HB.out.size))
    clear b_
    have hl0 := HL0.out
    go_wp2
    go_ret
    exact ⟨rfl, HB.out⟩
  | some l =>
    rw [hr] at HRS HRI HFIT
    simp only [Option.getD_some, Option.isSome_some] at HRS HRI HFIT
    have HBL := Lib.hid (show ofL (blockL l) = s by rw [HOK.out l hr, of_data])
    have hrun : runB l = true := (block_ne (l := l) (by rw [HOK.out l hr]; exact (read_some.mp hr).1)).1
    have hl45 := HFIT.out.1
    have HI := Lib.hid (show ∀ W A1 c1, Below w.heap.size w W → Few W A1 c1 l → Calls Tryd.prog 11 #[.slice A1 l.length c1] W fun e w' => e = .returned (.string s) ∧ Below W.heap.size W w' from fun W A1 c1 hb hf => by have := textI_few hf (HT.out.on hb); rwa [HBL.out] at this)
    have HK := Lib.hid (show ∀ W A1 c1, Few W A1 c1 l → Calls Tryd.prog 17 #[.slice A1 l.length c1] W fun e w' => e = .returned (.bool true) ∧ Below W.heap.size W w' from fun W A1 c1 hf => by have := runI W W.heap.size l.length c1 A1 l hf.ents (Nat.le_refl _) (by unfold maxLen; omega) hf.fit; rwa [hrun] at this)
    have e1 : (s.toList == s.toList) = true := by simp
    clear hr HOK HFIT hrun
    go_wp2_with fail
    go_at_call 16
    refine Calls.mono (HRS.out _) ?_
    rintro e w2 ⟨A_HW, c_HW, rfl, hf_, b_⟩
    replace HB := Lib.hid (HB.out.trans (b_.mono HB.out.size))
    have HW := Lib.hid hf_
    clear hf_ b_
    go_wp2_with fail
    go_at_call 13
    refine Calls.mono (HRI.out _ HB.out) ?_
    rintro e w3 ⟨A_HG, c_HG, rfl, hf_, b_⟩
    replace HW := Lib.hid (HW.out.below b_)
    replace HB := Lib.hid (HB.out.trans (b_.mono HB.out.size))
    have HG := Lib.hid hf_
    clear hf_ b_
    go_wp2_with fail
    go_at_call 14
    refine Calls.mono (same_few2 HG.out HW.out) ?_
    rintro e w4 ⟨rfl, b_⟩
    replace HW := Lib.hid (HW.out.below b_)
    replace HG := Lib.hid (HG.out.below b_)
    replace HB := Lib.hid (HB.out.trans (b_.mono HB.out.size))
    clear b_
    go_wp2_with fail
    go_at_call 11
    refine Calls.mono (HI.out _ _ _ HB.out HG.out) ?_
    rintro e w5 ⟨rfl, b_⟩
    replace HW := Lib.hid (HW.out.below b_)
    replace HG := Lib.hid (HG.out.below b_)
    replace HB := Lib.hid (HB.out.trans (b_.mono HB.out.size))
    clear b_
    go_wp2_with fail
    go_at_call 17
    refine Calls.mono (HK.out _ _ _ HG.out) ?_
    rintro e w6 ⟨rfl, b_⟩
    replace HW := Lib.hid (HW.out.below b_)
    replace HG := Lib.hid (HG.out.below b_)
    replace HB := Lib.hid (HB.out.trans (b_.mono HB.out.size))
    clear b_
    go_wp2
    go_ret
    exact ⟨rfl, HB.out⟩

end Go.Proofs.YtbckgmfopbpocaaDoor.W
