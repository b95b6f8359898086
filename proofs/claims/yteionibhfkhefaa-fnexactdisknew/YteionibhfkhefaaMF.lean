/-
  The exact law of DiskNew: of the program and of the model ten empty strings, in new memory.
-/
import Derived.Test.YteionibhfkhefaaME
namespace Go.Proofs.Yteionibhfkhefaa.W
open Go.RowKit K R

set_option maxHeartbeats 1000000 in
theorem newS (w : World) : Calls Try.prog 5 #[] w (NewS w (blanks 10)) := by
  obtain ⟨i0, hi, hz0, hz1, hz2⟩ := info_parts str_info
  go_enter Try.func5, Try.ntmps5
  go_wp2_with (at_make; refine wpList_make_full w rfl (.const (.int .i64 10)) (.const (.int .i64 10)) 22 rfl w.heap.size 9 i0 (.string ⟨#[]⟩) 1 Try.underlying22 hi hz0 hz1 .i64 .i64 _ _ 10 rfl rfl rfl rfl (by rw [hz2]; omega) (by unfold maxLen; omega) (Nat.le_refl _) ?_; intro w1 ho1 hg1)
  have HO1 := Lib.hid (made_own ho1)
  have HB1 := Lib.hid ((Below.refl w.heap.size w).grown hg1 (Nat.le_refl _) (fun k e => by cases e))
  clear ho1 hg1 hi hz0 hz1 hz2
  go_wp2
  go_ret
  exact ⟨_, rfl, HO1.out, HB1.out⟩
set_option maxHeartbeats 1000000 in
theorem newI (w : World) : Calls Try.prog 6 #[] w (NewS w (blanks 10)) := by
  obtain ⟨i0, hi, hz0, hz1, hz2⟩ := info_parts str_info
  go_enter Try.func6, Try.ntmps6
  go_wp2_with (at_make; refine wpList_make_full w rfl (.const (.int .i64 10)) (.const (.int .i64 10)) 22 rfl w.heap.size 9 i0 (.string ⟨#[]⟩) 1 Try.underlying22 hi hz0 hz1 .i64 .i64 _ _ 10 rfl rfl rfl rfl (by rw [hz2]; omega) (by unfold maxLen; omega) (Nat.le_refl _) ?_; intro w1 ho1 hg1)
  have HO1 := Lib.hid (made_own ho1)
  have HB1 := Lib.hid ((Below.refl w.heap.size w).grown hg1 (Nat.le_refl _) (fun k e => by cases e))
  clear ho1 hg1 hi hz0 hz1 hz2
  go_wp2
  go_ret
  exact ⟨_, rfl, HO1.out, HB1.out⟩

set_option maxHeartbeats 4000000 in
theorem exactDiskNew (w : World) : Calls Try.prog 3 #[] w fun e w' => e = .returned (.bool true) ∧ Below w.heap.size w w' := by
  have HS := Lib.hid newS
  have HI := Lib.hid newI
  have hl : (blanks 10).length = 10 := rfl
  obtain ⟨res, hres⟩ : ∃ res, res = blanks 10 := ⟨_, rfl⟩
  rw [← hres] at HS HI hl
  have hrl : res.length ≤ 1048576 := by omega
  clear hl hres
  go_enter Try.func3, Try.ntmps3
  go_wp2_with fail
  go_at_call 5
  (with_reducible refine Calls.mono (HS.out w) ?_)
  rintro e w1 ⟨v_, rfl, o_, b_⟩
  obtain ⟨AQ, cQ, hv_, hcQ, hmQ, s_⟩ := o_.parts
  subst hv_
  have hs_w1 := b_.size
  have HB := Lib.hid b_
  have Q := Lib.hid s_
  clear o_ b_ s_
  go_wp2_with fail
  go_at_call 6
  (with_reducible refine Calls.mono (HI.out w1) ?_)
  rintro e w2 ⟨v_, rfl, o_, b_⟩
  obtain ⟨AOG, cOG, hv_, hcOG, hmOG, s_⟩ := o_.parts
  subst hv_
  have hs_w2 := b_.size
  replace Q := Lib.hid (Q.out.below b_ (by omega))
  replace HB := Lib.hid (HB.out.trans (b_.mono HB.out.size))
  have OG := Lib.hid o_
  clear o_ b_ s_
  go_wp2_with fail
  go_at_call 7
  (with_reducible refine Calls.mono (eqL w2 w2.heap.size res.length _ res.length _ _ _ res res (strs_own OG.out) (Q.out.more (by omega)) (by unfold maxLen; omega) (by unfold maxLen; omega)) ?_)
  rw [sameL_self]
  rintro e w3 ⟨rfl, m_⟩
  have b_ := m_.below w2.heap.size
  have hs_w3 := b_.size
  replace Q := Lib.hid (Q.out.below b_ (by omega))
  replace OG := Lib.hid (OG.out.below b_)
  replace HB := Lib.hid (HB.out.trans (b_.mono HB.out.size))
  clear m_ b_
  go_wp2_with fail
  go_at_call 8
  (with_reducible refine Calls.mono (markS1 w3 w1.heap.size res.length cOG AOG res OG.out (by omega)) ?_)
  rintro e w4 ⟨rfl, o_, g_⟩
  have hs_w4 := g_.size
  have b_ := marked_below OG.out g_ (by omega)
  replace Q := Lib.hid (Q.out.below b_ (by omega))
  replace HB := Lib.hid (HB.out.trans (b_.mono (by omega)))
  replace OG := Lib.hid o_
  clear g_ b_ o_
  go_wp2_with fail
  go_at_call 9
  (with_reducible refine Calls.mono (heldS1 w4 w4.heap.size res.length cOG AOG (strs_own OG.out) (Nat.le_refl _) (by omega)) ?_)
  rintro e w5 ⟨rfl, b_⟩
  have hs_w5 := b_.size
  replace Q := Lib.hid (Q.out.below b_ (by omega))
  replace OG := Lib.hid (OG.out.below b_)
  replace HB := Lib.hid (HB.out.trans (b_.mono HB.out.size))
  clear b_
  go_wp2_with fail
  go_at_call 6
  (with_reducible refine Calls.mono (HI.out w5) ?_)
  rintro e w6 ⟨v_, rfl, o_, b_⟩
  obtain ⟨APH, cPH, hv_, hcPH, hmPH, s_⟩ := o_.parts
  subst hv_
  have hs_w6 := b_.size
  replace Q := Lib.hid (Q.out.below b_ (by omega))
  replace OG := Lib.hid (OG.out.below b_)
  replace HB := Lib.hid (HB.out.trans (b_.mono HB.out.size))
  have PH := Lib.hid s_
  clear o_ b_ s_
  go_wp2_with fail
  go_at_call 7
  (with_reducible refine Calls.mono (eqL w6 w6.heap.size res.length _ res.length _ _ _ res res (PH.out.more (by omega)) (Q.out.more (by omega)) (by unfold maxLen; omega) (by unfold maxLen; omega)) ?_)
  rw [sameL_self]
  rintro e w7 ⟨rfl, m_⟩
  have b_ := m_.below w6.heap.size
  have hs_w7 := b_.size
  replace Q := Lib.hid (Q.out.below b_ (by omega))
  replace OG := Lib.hid (OG.out.below b_)
  replace PH := Lib.hid (PH.out.below b_ (by omega))
  replace HB := Lib.hid (HB.out.trans (b_.mono HB.out.size))
  clear m_ b_
  clear PH
  clear Q
  go_wp2_with fail
  go_at_call 9
  (with_reducible refine Calls.mono (heldS1 w7 w7.heap.size res.length cOG AOG (strs_own OG.out) (Nat.le_refl _) (by omega)) ?_)
  rintro e w8 ⟨rfl, b_⟩
  have hs_w8 := b_.size
  replace OG := Lib.hid (OG.out.below b_)
  replace HB := Lib.hid (HB.out.trans (b_.mono HB.out.size))
  clear b_
  go_wp2
  go_ret
  exact ⟨rfl, HB.out⟩
end Go.Proofs.Yteionibhfkhefaa.W
