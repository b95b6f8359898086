/-
  The exact law of BlockText, as a walk over the contracts.
-/
import Derived.Test.YtbckgmfopbpocaaDoorB6
import Derived.Test.YtbckgmfopbpocaaDoorE6
import Derived.Test.YtbckgmfopbpocaaDoorE8
import Derived.Test.YtbckgmfopbpocaaDoorE9
namespace Go.Proofs.YtbckgmfopbpocaaDoor.W
open Go.RowKit K R B

set_option maxHeartbeats 8000000 in
set_option maxRecDepth 100000 in
theorem exactBlockText (w : World) (A : Option Addr) (n c : Nat) (l : List En) (hr : Ents w w.heap.size A n l) (hn : n ≤ maxLen) (hf : ∀ e ∈ l, e.key.size ≤ maxLen) (hT : Tab w) :
    Calls Tryd.prog 8 #[.slice A n c] w fun e w' => e = .returned (.bool true) ∧ Below w.heap.size w w' := by
  have hlen := hr.len
  subst hlen
  have HR := Lib.hid hr
  have HF := Lib.hid hf
  have HT := Lib.hid hT
  clear hr hf hT
  go_enter Tryd.func8, Tryd.ntmps8
  go_wp2_with fail
  go_at_call 18
  refine Calls.mono (szEnS w w.heap.size l.length c A l HR.out (Nat.le_refl _) hn HF.out) ?_
  rintro e w1 ⟨x, rfl, hx0, hx1, hx2, hb1⟩
  have HB := Lib.hid hb1
  have hs_w1 := hb1.size
  clear hb1
  by_cases hneg : x < 0
  · clear hx2
    go_wp2
    go_ret
    exact ⟨rfl, HB.out⟩
  · have hlen := (hx2 (by omega)).1
    clear hx2
    have HS := Lib.hid (show ∀ (W : World) (A : Option Addr) (c : Nat), Ents W W.heap.size A l.length l → Calls Tryd.prog 12 #[.slice A l.length c] W fun e w' => e = .returned (.string (ofL (blockL l))) ∧ Below W.heap.size W w' from fun W A c h => blockS W W.heap.size l.length c A l h (Nat.le_refl _) hn HF.out)
    have HI := Lib.hid (show ∀ (W : World) (A : Option Addr) (c : Nat), Ents W W.heap.size A l.length l → Tab W → Calls Tryd.prog 11 #[.slice A l.length c] W fun e w' => e = .returned (.string (ofL (blockL l))) ∧ Below W.heap.size W w' from fun W A c h hT => blockI W W.heap.size l.length c A l h (Nat.le_refl _) hn HF.out hT)
    obtain ⟨T, hTT⟩ : ∃ T, T = ofL (blockL l) := ⟨_, rfl⟩
    rw [← hTT] at HS HI
    clear hTT
    have e1 : (T.toList == T.toList) = true := by simp
    go_wp2_with fail
    go_at_call 19
    refine Calls.mono (copyE w1 w.heap.size l.length c A l (HR.out.below HB.out (Nat.le_refl _)) HB.out.size hlen) ?_
    rintro e w2 ⟨g_w2, c_w2, rfl, o_, b_⟩
    have hs_w2 := b_.size
    replace HB := Lib.hid (HB.out.trans (b_.mono HB.out.size))
    have E2 := Lib.hid (OwnE.ents o_ rfl)
    clear o_ b_
    go_wp2_with fail
    go_at_call 12
    refine Calls.mono (HS.out w2 _ _ (E2.out.more (by omega))) ?_
    rintro e w3 ⟨rfl, b_⟩
    clear E2
    have hs_w3 := b_.size
    replace HB := Lib.hid (HB.out.trans (b_.mono HB.out.size))
    clear b_
    go_wp2_with fail
    go_at_call 19
    refine Calls.mono (copyE w3 w.heap.size l.length c A l (HR.out.below HB.out (Nat.le_refl _)) HB.out.size hlen) ?_
    rintro e w4 ⟨g_w4, c_w4, rfl, o_, b_⟩
    have hs_w4 := b_.size
    replace HB := Lib.hid (HB.out.trans (b_.mono HB.out.size))
    have E3 := Lib.hid (OwnE.ents o_ rfl)
    clear o_ b_
    go_wp2_with fail
    go_at_call 11
    refine Calls.mono (HI.out w4 _ _ (E3.out.more (by omega)) (HT.out.on HB.out)) ?_
    rintro e w5 ⟨rfl, b_⟩
    have hs_w5 := b_.size
    replace E3 := Lib.hid (E3.out.below b_ (by omega))
    replace HB := Lib.hid (HB.out.trans (b_.mono HB.out.size))
    clear b_
    go_wp2_with fail
    go_at_call 19
    refine Calls.mono (copyE w5 w.heap.size l.length c A l (HR.out.below HB.out (Nat.le_refl _)) HB.out.size hlen) ?_
    rintro e w6 ⟨g_w6, c_w6, rfl, o_, b_⟩
    have hs_w6 := b_.size
    replace E3 := Lib.hid (E3.out.below b_ (by omega))
    replace HB := Lib.hid (HB.out.trans (b_.mono HB.out.size))
    have E4 := Lib.hid (OwnE.ents o_ rfl)
    clear o_ b_
    go_wp2_with fail
    go_at_call 20
    refine Calls.mono (eqEnS w6 w6.heap.size l.length _ _ _ _ l (E3.out.more (by omega)) (E4.out.more (by omega)) (Nat.le_refl _) hn) ?_
    rintro e w7 ⟨rfl, b_⟩
    have hs_w7 := b_.size
    replace E3 := Lib.hid (E3.out.below b_ (by omega))
    replace E4 := Lib.hid (E4.out.below b_ (by omega))
    replace HB := Lib.hid (HB.out.trans (b_.mono HB.out.size))
    clear b_
    go_wp2
    go_ret
    exact ⟨rfl, HB.out⟩

end Go.Proofs.YtbckgmfopbpocaaDoor.W
