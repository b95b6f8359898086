/-
  The law FnBlockNone (P80), as a walk over the contracts.
-/
import Derived.Test.YtbckgmfopbpocaaDoorLB1
namespace Go.Proofs.YtbckgmfopbpocaaDoor.W
open Go.RowKit K R B
set_option maxHeartbeats 8000000 in
set_option maxRecDepth 100000 in
theorem lawBlockNone (w : World) (A : Option Addr) (n c : Nat) (hb0 : Bytes w w.heap.size A n) (hnc : n ≤ c) (hc : c ≤ maxLen) (hT : Tab w) (hE : ErrB w.heap.size w) :
    Calls Tryd.prog 7 #[.slice A n c] w fun e w' => e = .returned (.bool true) ∧ Below w.heap.size w w' := by
  by_cases hbig : (1048576 : Int) < (n : Int)
  · clear hb0
    go_enter Tryd.func7, Tryd.ntmps7
    go_wp2
    go_ret
    exact ⟨rfl, Below.refl _ _⟩
  go_enter Tryd.func7, Tryd.ntmps7
  go_wp2_with fail
  go_at_call 15
  refine Calls.mono (drawBlockRead w A n c hb0 hnc hc) ?_
  rintro e w1 ⟨s, rfl, hss, hb⟩
  have HB := Lib.hid hb
  have HT := Lib.hid hT
  have HE := Lib.hid hE
  clear hb0 hb hT hE
  have HRS := Lib.hid (fun W => readFS s W (by omega))
  have HRI := Lib.hid (fun (W : World) (hb : Below w.heap.size w W) => readFI s W (by omega) (HT.out.on hb) (errOn' HE.out hb))
  have HFIT := Lib.hid (read_fits (t := s.data.toList))
  have HOK := Lib.hid (show ∀ l, readL s.data.toList = some l → blockL l = s.data.toList from fun l h => (read_some.mp h).2)
  unfold ReadF at HRS HRI
  have hl45 := HFIT.out.1
  obtain ⟨l, hl⟩ : ∃ l, l = (readL s.data.toList).getD [] := ⟨_, rfl⟩
  obtain ⟨ok, hok⟩ : ∃ k, k = (readL s.data.toList).isSome := ⟨_, rfl⟩
  rw [← hl, ← hok] at HRS HRI
  rw [← hl] at hl45
  obtain ⟨T, hTT⟩ : ∃ T, T = ofL (blockL []) := ⟨_, rfl⟩
  have hbn : blockL [] ≠ [] := by rw [block_nil]; exact seal_ne _
  have hTs : T.size ≤ 400 := by rw [hTT, ofL_size]; exact block_len []
  have hte := emptyOf hTT hbn
  have HI := Lib.hid (show ∀ W, Below w.heap.size w W → Calls Tryd.prog 11 #[.slice none 0 0] W fun e w' => e = .returned (.string T) ∧ Below W.heap.size W w' from fun W hb => by have := textI_few (few_nil W) (HT.out.on hb); rw [hTT]; exact this)
  have HRT := Lib.hid (show ∀ W, Below w.heap.size w W → Calls Tryd.prog 13 #[.string T] W fun e w' => ∃ A c, e = .returned (.tuple #[.slice A 0 c, .bool true]) ∧ Few w' A c [] ∧ Below W.heap.size W w' from fun W hb => readSome (l := []) (by omega) (HT.out.on hb) (errOn' HE.out hb) (by rw [hTT, ofL_data]; exact read_nil) (by simp) (fun e he => (by cases he)))
  have HRE := Lib.hid (show ∀ W, Below w.heap.size w W → Calls Tryd.prog 13 #[.string ⟨#[]⟩] W fun e w' => ∃ v, e = .returned (.tuple #[v, .bool false]) ∧ Below W.heap.size W w' from fun W hb => readNone (by decide) (HT.out.on hb) (errOn' HE.out hb) read_empty)
  have e1 : (ok == ok) = true := by simp
  clear hl hok HFIT HOK hTT hbn
  go_wp2_with fail
  go_at_call 16
  refine Calls.mono (HRS.out _) ?_
  rintro e w2 ⟨A_HW, c_HW, rfl, hf_, b_⟩
  replace HB := Lib.hid (HB.out.trans (b_.mono HB.out.size))
  have HW := Lib.hid hf_
  clear hf_ b_
  go_wp2_with fail
  go_at_call 13
  refine Calls.mono (HRI.out _ HB.out) ?_
  rintro e w3 ⟨A_HG, c_HG, rfl, hf_, b_⟩
  replace HW := Lib.hid (HW.out.below b_)
  replace HB := Lib.hid (HB.out.trans (b_.mono HB.out.size))
  have HG := Lib.hid hf_
  clear hf_ b_
  go_wp2_with fail
  go_at_call 11
  refine Calls.mono (HI.out _ HB.out) ?_
  rintro e w4 ⟨rfl, b_⟩
  replace HW := Lib.hid (HW.out.below b_)
  replace HG := Lib.hid (HG.out.below b_)
  replace HB := Lib.hid (HB.out.trans (b_.mono HB.out.size))
  clear b_
  go_wp2_with fail
  go_at_call 13
  refine Calls.mono (HRT.out _ HB.out) ?_
  rintro e w5 ⟨A_HN, c_HN, rfl, hf_, b_⟩
  replace HW := Lib.hid (HW.out.below b_)
  replace HG := Lib.hid (HG.out.below b_)
  replace HB := Lib.hid (HB.out.trans (b_.mono HB.out.size))
  have HN := Lib.hid hf_
  clear hf_ b_
  go_wp2_with fail
  go_at_call 13
  refine Calls.mono (HRE.out _ HB.out) ?_
  rintro e w6 ⟨vX, rfl, b_⟩
  replace HW := Lib.hid (HW.out.below b_)
  replace HG := Lib.hid (HG.out.below b_)
  replace HN := Lib.hid (HN.out.below b_)
  replace HB := Lib.hid (HB.out.trans (b_.mono HB.out.size))
  clear b_
  go_wp2_with fail
  go_at_call 14
  refine Calls.mono (same_few2 HG.out HW.out) ?_
  rintro e w7 ⟨rfl, b_⟩
  replace HW := Lib.hid (HW.out.below b_)
  replace HG := Lib.hid (HG.out.below b_)
  replace HN := Lib.hid (HN.out.below b_)
  replace HB := Lib.hid (HB.out.trans (b_.mono HB.out.size))
  clear b_
  go_wp2_with fail
  go_at_call 11
  refine Calls.mono (HI.out _ HB.out) ?_
  rintro e w8 ⟨rfl, b_⟩
  replace HW := Lib.hid (HW.out.below b_)
  replace HG := Lib.hid (HG.out.below b_)
  replace HN := Lib.hid (HN.out.below b_)
  replace HB := Lib.hid (HB.out.trans (b_.mono HB.out.size))
  clear b_
  go_wp2
  go_ret
  exact ⟨rfl, HB.out⟩

end Go.Proofs.YtbckgmfopbpocaaDoor.W
