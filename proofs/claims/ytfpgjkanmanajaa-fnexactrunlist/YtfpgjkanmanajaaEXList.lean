/-
  The exact law of RunList, as a walk over the contracts.
-/
import Derived.Test.YtfpgjkanmanajaaET
import Derived.Test.YtfpgjkanmanajaaEU
import Derived.Test.YtfpgjkanmanajaaER
namespace Go.Proofs.Ytfpgjkanmanajaa.W
open Go.RowKit K R

theorem grown_lowE {w w' : World} {B g : Nat} (hg : w.grownBy w' (some g)) (hB : B ≤ w.heap.size) (h : B ≤ g) : Below B w w' :=
  (Below.refl B w).grown hg hB fun k hk => by injection hk with hk; omega
theorem row_low {E : TypeId} {sz m : Nat} {w w' : World} {base B : Nat} {v : Value} {cs : List Value} (h : w.ownsRow base E sz v m cs) (hg : w.grownBy w' v.ownBlock) (hB : B ≤ w.heap.size) (hb : B ≤ base) : Below B w w' :=
  (Below.refl B w).grown hg hB fun k hk => Nat.le_trans hb (World.ownsRow.lt h k hk).1
theorem ents_marks {w : World} {base n c : Nat} {A : Option Addr} (h : OwnE w base (.slice A n c) (marksE n)) : Ents w w.heap.size A n (marksE n) := ownE_ents h
theorem listO_len (l : List En) (f u : ByteArray) (t : Int) : (listO l f u t).length ≤ l.length := by
  rw [← listO_is]
  exact Nat.le_trans (filt_len _ _) (keysO_le l)

set_option maxHeartbeats 8000000 in
set_option maxRecDepth 100000 in
theorem exactRunList (w : World) (A : Option Addr) (n c : Nat) (l : List En) (f u : ByteArray) (t : Int) (hr : Ents w w.heap.size A n l) (hn : n ≤ maxLen) (hf : ∀ e ∈ l, e.key.size ≤ maxLen) :
    Calls Try.prog 21 #[.slice A n c, .string f, .string u, .int .i64 t] w fun e w' => e = .returned (.bool true) ∧ Below w.heap.size w w' := by
  by_cases hbig : (1048576 : Int) < (f.size : Int)
  · clear hr
    go_enter Try.func21, Try.ntmps21
    go_wp2
    go_ret
    exact ⟨rfl, Below.refl _ _⟩
  by_cases hbig2 : (1048576 : Int) < (u.size : Int)
  · clear hr
    go_enter Try.func21, Try.ntmps21
    go_wp2
    go_ret
    exact ⟨rfl, Below.refl _ _⟩
  have hlen := hr.len
  subst hlen
  have HR := Lib.hid hr
  have HF := Lib.hid hf
  clear hr hf
  have hkl := listO_len l f u t
  go_enter Try.func21, Try.ntmps21
  go_wp2_with fail
  go_at_call 45
  refine Calls.mono (szEnS w w.heap.size l.length c A l HR.out (Nat.le_refl _) hn HF.out) ?_
  rintro e w1 ⟨x, rfl, hx0, hx1, hx2, hb1⟩
  have HB := Lib.hid hb1
  have hs_w1 := hb1.size
  clear hb1
  by_cases hneg : x < 0
  · clear hx2
    go_wp2
    go_ret
    exact ⟨rfl, HB.out⟩
  · have hlen := (hx2 (by omega)).1
    clear hx2
    have HS := Lib.hid (show ∀ (W : World) (A : Option Addr) (c : Nat), Ents W W.heap.size A l.length l → Calls Try.prog 43 #[.slice A l.length c, .string f, .string u, .int .i64 t] W (MadeE W (listO l f u t)) from fun W A c h => runListS W W.heap.size l.length c A l f u t h (Nat.le_refl _) hn HF.out)
    have HI := Lib.hid (show ∀ (W : World) (A : Option Addr) (c : Nat), Ents W W.heap.size A l.length l → l.length ≤ 1048576 → Calls Try.prog 42 #[.slice A l.length c, .string f, .string u, .int .i64 t] W (MadeE W (listO l f u t)) from fun W A c h hl => runListI W W.heap.size l.length c A l f u t h (Nat.le_refl _) hl HF.out)
    obtain ⟨res, hres⟩ : ∃ res, res = listO l f u t := ⟨_, rfl⟩
    rw [← hres] at HS HI hkl
    clear hres
    go_wp2_with fail
    go_at_call 46
    refine Calls.mono (copyE w1 w.heap.size l.length c A l (HR.out.below HB.out (Nat.le_refl _)) HB.out.size hlen) ?_
    rintro e w2 ⟨g_w2, c_w2, rfl, o_, b_⟩
    have hs_w2 := b_.size
    replace HB := Lib.hid (HB.out.trans (b_.mono HB.out.size))
    have E2 := Lib.hid (OwnE.ents o_ rfl)
    clear o_ b_
    go_wp2_with fail
    go_at_call 43
    refine Calls.mono (HS.out w2 _ _ E2.out) ?_
    rintro e w3 ⟨v3, rfl, o3, b_⟩
    obtain ⟨Aw, cw, hv3, -, -, q3⟩ := ownE_parts o3
    subst hv3
    clear E2
    have hs_w3 := b_.size
    replace HB := Lib.hid (HB.out.trans (b_.mono HB.out.size))
    have Q := Lib.hid q3
    clear o3 b_ q3
    go_wp2_with fail
    go_at_call 46
    refine Calls.mono (copyE w3 w.heap.size l.length c A l (HR.out.below HB.out (Nat.le_refl _)) HB.out.size hlen) ?_
    rintro e w4 ⟨g_w4, c_w4, rfl, o_, b_⟩
    have hs_w4 := b_.size
    replace Q := Lib.hid (Q.out.below b_ (by omega))
    replace HB := Lib.hid (HB.out.trans (b_.mono HB.out.size))
    have OX := Lib.hid o_
    have hxb_OX := World.ownsRow.lt o_ g_w4 rfl
    clear o_ b_
    go_wp2_with fail
    go_at_call 42
    refine Calls.mono (HI.out w4 _ _ (OwnE.ents OX.out rfl) (by omega)) ?_
    rintro e w5 ⟨v5, rfl, o5, b_⟩
    obtain ⟨Ag, cg, hv5, -, -, -⟩ := ownE_parts o5
    subst hv5
    have hs_w5 := b_.size
    replace OX := Lib.hid (rowBelow OX.out b_)
    replace Q := Lib.hid (Q.out.below b_ (by omega))
    replace HB := Lib.hid (HB.out.trans (b_.mono HB.out.size))
    have OG := Lib.hid o5
    clear o5 b_
    go_wp2_with fail
    go_at_call 47
    refine Calls.mono (eqEnS w5 w5.heap.size res.length _ _ _ _ res (ownE_ents OG.out) (Q.out.more (by omega)) (Nat.le_refl _) (by unfold maxLen; omega)) ?_
    rintro e w6 ⟨rfl, b_⟩
    have hs_w6 := b_.size
    replace OX := Lib.hid (rowBelow OX.out b_)
    replace OG := Lib.hid (rowBelow OG.out b_)
    replace Q := Lib.hid (Q.out.below b_ (by omega))
    replace HB := Lib.hid (HB.out.trans (b_.mono HB.out.size))
    clear b_
    go_wp2_with fail
    go_at_call 46
    refine Calls.mono (copyE w6 w.heap.size l.length c A l (HR.out.below HB.out (Nat.le_refl _)) HB.out.size hlen) ?_
    rintro e w7 ⟨g_w7, c_w7, rfl, o_, b_⟩
    have hs_w7 := b_.size
    replace OX := Lib.hid (rowBelow OX.out b_)
    replace OG := Lib.hid (rowBelow OG.out b_)
    replace Q := Lib.hid (Q.out.below b_ (by omega))
    replace HB := Lib.hid (HB.out.trans (b_.mono HB.out.size))
    have N7 := Lib.hid (OwnE.ents o_ rfl)
    clear o_ b_
    go_wp2_with fail
    go_at_call 47
    refine Calls.mono (eqEnS w7 w7.heap.size l.length _ _ _ _ l (ownE_ents OX.out) (N7.out.more (by omega)) (Nat.le_refl _) hn) ?_
    rintro e w8 ⟨rfl, b_⟩
    have hs_w8 := b_.size
    replace OX := Lib.hid (rowBelow OX.out b_)
    replace OG := Lib.hid (rowBelow OG.out b_)
    replace Q := Lib.hid (Q.out.below b_ (by omega))
    replace N7 := Lib.hid (N7.out.below b_ (by omega))
    replace HB := Lib.hid (HB.out.trans (b_.mono HB.out.size))
    clear b_
    clear N7
    go_wp2_with fail
    go_at_call 49
    refine Calls.mono (markE w8 w3.heap.size g_w4 l.length _ _ OX.out hlen) ?_
    rintro e w9 ⟨rfl, -, g_⟩
    have hs_w9 := g_.size
    have b_ := grown_lowE g_ (show w3.heap.size ≤ w8.heap.size by omega) hxb_OX.1
    clear OX
    replace OG := Lib.hid (rowGrown OG.out g_ (by omega))
    replace Q := Lib.hid (Q.out.below b_ (by omega))
    replace HB := Lib.hid (HB.out.trans (b_.mono (by omega)))
    clear b_ g_
    go_wp2_with fail
    go_at_call 47
    refine Calls.mono (eqEnS w9 w9.heap.size res.length _ _ _ _ res (ownE_ents OG.out) (Q.out.more (by omega)) (Nat.le_refl _) (by unfold maxLen; omega)) ?_
    rintro e w10 ⟨rfl, b_⟩
    have hs_w10 := b_.size
    replace OG := Lib.hid (rowBelow OG.out b_)
    replace Q := Lib.hid (Q.out.below b_ (by omega))
    replace HB := Lib.hid (HB.out.trans (b_.mono HB.out.size))
    clear b_
    go_wp2_with fail
    go_at_call 49
    refine Calls.mono (markE2 w10 w4.heap.size cg Ag _ OG.out (by omega)) ?_
    rintro e w11 ⟨rfl, o_, g_⟩
    have hs_w11 := g_.size
    have b_ := row_low OG.out g_ (show w4.heap.size ≤ w10.heap.size by omega) (Nat.le_refl _)
    replace OG := Lib.hid o_
    replace Q := Lib.hid (Q.out.below b_ (by omega))
    replace HB := Lib.hid (HB.out.trans (b_.mono (by omega)))
    clear o_ b_ g_
    go_wp2_with fail
    go_at_call 50
    refine Calls.mono (heldE w11 w11.heap.size res.length cg Ag (ents_marks OG.out) (Nat.le_refl _) (by omega)) ?_
    rintro e w12 ⟨rfl, b_⟩
    have hs_w12 := b_.size
    replace OG := Lib.hid (rowBelow OG.out b_)
    replace Q := Lib.hid (Q.out.below b_ (by omega))
    replace HB := Lib.hid (HB.out.trans (b_.mono HB.out.size))
    clear b_
    go_wp2_with fail
    go_at_call 46
    refine Calls.mono (copyE w12 w.heap.size l.length c A l (HR.out.below HB.out (Nat.le_refl _)) HB.out.size hlen) ?_
    rintro e w13 ⟨g_w13, c_w13, rfl, o_, b_⟩
    have hs_w13 := b_.size
    replace OG := Lib.hid (rowBelow OG.out b_)
    replace Q := Lib.hid (Q.out.below b_ (by omega))
    replace HB := Lib.hid (HB.out.trans (b_.mono HB.out.size))
    have ND := Lib.hid (OwnE.ents o_ rfl)
    clear o_ b_
    go_wp2_with fail
    go_at_call 42
    refine Calls.mono (HI.out w13 _ _ ND.out (by omega)) ?_
    rintro e w14 ⟨ve, rfl, oe, b_⟩
    obtain ⟨Ah, ch, hve, -, -, se⟩ := ownE_parts oe
    subst hve
    clear ND
    have hs_w14 := b_.size
    replace OG := Lib.hid (rowBelow OG.out b_)
    replace Q := Lib.hid (Q.out.below b_ (by omega))
    replace HB := Lib.hid (HB.out.trans (b_.mono HB.out.size))
    have PH := Lib.hid se
    clear oe b_ se
    go_wp2_with fail
    go_at_call 47
    refine Calls.mono (eqEnS w14 w14.heap.size res.length _ _ _ _ res (PH.out.more (by omega)) (Q.out.more (by omega)) (Nat.le_refl _) (by unfold maxLen; omega)) ?_
    rintro e w15 ⟨rfl, b_⟩
    have hs_w15 := b_.size
    replace OG := Lib.hid (rowBelow OG.out b_)
    replace Q := Lib.hid (Q.out.below b_ (by omega))
    replace PH := Lib.hid (PH.out.below b_ (by omega))
    replace HB := Lib.hid (HB.out.trans (b_.mono HB.out.size))
    clear b_
    clear PH
    clear Q
    go_wp2_with fail
    go_at_call 50
    refine Calls.mono (heldE w15 w15.heap.size res.length cg Ag (ents_marks OG.out) (Nat.le_refl _) (by omega)) ?_
    rintro e w16 ⟨rfl, b_⟩
    have hs_w16 := b_.size
    replace OG := Lib.hid (rowBelow OG.out b_)
    replace HB := Lib.hid (HB.out.trans (b_.mono HB.out.size))
    clear b_
    go_wp2
    go_ret
    exact ⟨rfl, HB.out⟩

end Go.Proofs.Ytfpgjkanmanajaa.W
