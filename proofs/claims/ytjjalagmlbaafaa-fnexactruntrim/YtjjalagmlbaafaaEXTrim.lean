/-
  The exact law of RunTrim, as a walk over the contracts.
-/
import Derived.Test.YtjjalagmlbaafaaGB
import Derived.Test.YtjjalagmlbaafaaGC
import Derived.Test.YtjjalagmlbaafaaER
namespace Go.Proofs.Ytjjalagmlbaafaa.W
open Go.RowKit K R

theorem grown_lowT {w w' : World} {B g : Nat} (hg : w.grownBy w' (some g)) (hB : B ≤ w.heap.size) (h : B ≤ g) : Below B w w' :=
  (Below.refl B w).grown hg hB fun k hk => by injection hk with hk; omega
theorem row_lowT {E : TypeId} {sz m : Nat} {w w' : World} {base B : Nat} {v : Value} {cs : List Value} (h : w.ownsRow base E sz v m cs) (hg : w.grownBy w' v.ownBlock) (hB : B ≤ w.heap.size) (hb : B ≤ base) : Below B w w' :=
  (Below.refl B w).grown hg hB fun k hk => Nat.le_trans hb (World.ownsRow.lt h k hk).1
theorem ents_marksT {w : World} {base n c : Nat} {A : Option Addr} (h : OwnE w base (.slice A n c) (marksE n)) : Ents w w.heap.size A n (marksE n) := ownE_ents h
theorem trimO_len (l : List En) (times : List Int) (bot : Bool) : (trimO l times bot).length ≤ l.length := by
  unfold trimO trimL
  split
  · split
    · exact Nat.le_trans (List.length_filter_le _ _) (List.length_filter_le _ _)
    · exact List.length_filter_le _ _
  · exact Nat.zero_le _
theorem markN1 (w : World) (base g n c K0 : Nat) (cs : List Value) (ho : w.ownsRow base 3 1 (.slice (some ⟨g, 0, none⟩) n c) n cs) (hn : n ≤ 1048576) (hK : K0 ≤ 1000000000) :
    Calls Try.prog 52 #[.slice (some ⟨g, 0, none⟩) n c, .int .i64 ((K0 : Nat) : Int)] w fun e w' => e = .returned (.int .i64 ((K0 + n : Nat) : Int)) ∧ w.grownBy w' (some g) := markN w base g n c K0 cs ho hn hK

set_option maxHeartbeats 8000000 in
set_option maxRecDepth 100000 in
theorem exactRunTrim (w : World) (A A2 : Option Addr) (n c nt ct : Nat) (l : List En) (times : List Int) (bot : Bool) (hr : Ents w w.heap.size A n l) (hr2 : Nums w w.heap.size A2 nt times) (hn : n ≤ maxLen) (hf : ∀ e ∈ l, e.key.size ≤ maxLen) :
    Calls Try.prog 19 #[.slice A n c, .slice A2 nt ct, .bool bot] w fun e w' => e = .returned (.bool true) ∧ Below w.heap.size w w' := by
  by_cases hbig : (1048576 : Int) < (nt : Int)
  · clear hr hr2
    go_enter Try.func19, Try.ntmps19
    go_wp2
    go_ret
    exact ⟨rfl, Below.refl _ _⟩
  have hlen := hr.len
  subst hlen
  have hlen := hr2.len
  subst hlen
  have hnt : times.length ≤ 1048576 := by omega
  have HR := Lib.hid hr
  have HR2 := Lib.hid hr2
  have HF := Lib.hid hf
  clear hr hr2 hf
  have hkl := trimO_len l times bot
  go_enter Try.func19, Try.ntmps19
  go_wp2_with fail
  go_at_call 44
  refine Calls.mono (szEnS w w.heap.size l.length c A l HR.out (Nat.le_refl _) hn HF.out) ?_
  rintro e w1 ⟨x, rfl, hx0, hx1, hx2, hb1⟩
  have HB := Lib.hid hb1
  have hs_w1 := hb1.size
  clear hb1
  by_cases hneg : x < 0
  · clear hx2
    go_wp2
    go_ret
    exact ⟨rfl, HB.out⟩
  · have hlen := (hx2 (by omega)).1
    clear hx2
    have HS := Lib.hid (show ∀ (W : World) (A A2 : Option Addr) (c ct : Nat), Ents W W.heap.size A l.length l → Nums W W.heap.size A2 times.length times → Calls Try.prog 34 #[.slice A l.length c, .slice A2 times.length ct, .bool bot] W (MadeT W (trimO l times bot)) from fun W A A2 c ct h h2 => runTrimS W W.heap.size l.length c times.length ct A A2 l times bot h h2 (Nat.le_refl _) hn (by unfold maxLen; omega) HF.out)
    have HI := Lib.hid (show ∀ (W : World) (A A2 : Option Addr) (c ct : Nat), Ents W W.heap.size A l.length l → Nums W W.heap.size A2 times.length times → Calls Try.prog 33 #[.slice A l.length c, .slice A2 times.length ct, .bool bot] W (MadeT W (trimO l times bot)) from fun W A A2 c ct h h2 => runTrimI W W.heap.size l.length c times.length ct A A2 l times bot h h2 (Nat.le_refl _) hn (by unfold maxLen; omega) HF.out)
    obtain ⟨res, hres⟩ : ∃ res, res = trimO l times bot := ⟨_, rfl⟩
    rw [← hres] at HS HI hkl
    clear hres
    go_wp2_with fail
    go_at_call 45
    refine Calls.mono (copyE w1 w.heap.size l.length c A l (HR.out.below HB.out (Nat.le_refl _)) HB.out.size hlen) ?_
    rintro e w2 ⟨g_w2, c_w2, rfl, o_, b_⟩
    have hs_w2 := b_.size
    replace HB := Lib.hid (HB.out.trans (b_.mono HB.out.size))
    have E2 := Lib.hid (OwnE.ents o_ rfl)
    clear o_ b_
    go_wp2_with fail
    go_at_call 50
    refine Calls.mono (copyN w2 w.heap.size times.length ct A2 times (HR2.out.below HB.out (Nat.le_refl _)) HB.out.size hnt) ?_
    rintro e w3 ⟨g_w3, c_w3, rfl, o_, b_⟩
    have hs_w3 := b_.size
    replace E2 := Lib.hid (E2.out.below b_ (by omega))
    replace HB := Lib.hid (HB.out.trans (b_.mono HB.out.size))
    have T2 := Lib.hid (OwnN.nums o_ rfl)
    clear o_ b_
    go_wp2_with fail
    go_at_call 34
    refine Calls.mono (HS.out w3 _ _ _ _ (E2.out.more (by omega)) T2.out) ?_
    rintro e w4 ⟨v3, rfl, o3, b_⟩
    obtain ⟨Aw, cw, hv3, -, -, q3⟩ := ownE_parts o3
    subst hv3
    clear E2
    clear T2
    have hs_w4 := b_.size
    replace HB := Lib.hid (HB.out.trans (b_.mono HB.out.size))
    have Q := Lib.hid q3
    clear o3 b_ q3
    go_wp2_with fail
    go_at_call 45
    refine Calls.mono (copyE w4 w.heap.size l.length c A l (HR.out.below HB.out (Nat.le_refl _)) HB.out.size hlen) ?_
    rintro e w5 ⟨g_w5, c_w5, rfl, o_, b_⟩
    have hs_w5 := b_.size
    replace Q := Lib.hid (Q.out.below b_ (by omega))
    replace HB := Lib.hid (HB.out.trans (b_.mono HB.out.size))
    have OX := Lib.hid o_
    have hxb_OX := World.ownsRow.lt o_ g_w5 rfl
    clear o_ b_
    go_wp2_with fail
    go_at_call 50
    refine Calls.mono (copyN w5 w.heap.size times.length ct A2 times (HR2.out.below HB.out (Nat.le_refl _)) HB.out.size hnt) ?_
    rintro e w6 ⟨g_w6, c_w6, rfl, o_, b_⟩
    have hs_w6 := b_.size
    replace OX := Lib.hid (rowBelow OX.out b_)
    replace Q := Lib.hid (Q.out.below b_ (by omega))
    replace HB := Lib.hid (HB.out.trans (b_.mono HB.out.size))
    have ON := Lib.hid o_
    have hxb_ON := World.ownsRow.lt o_ g_w6 rfl
    clear o_ b_
    go_wp2_with fail
    go_at_call 33
    refine Calls.mono (HI.out w6 _ _ _ _ (OwnE.ents OX.out rfl) (OwnN.nums ON.out rfl)) ?_
    rintro e w7 ⟨v5, rfl, o5, b_⟩
    obtain ⟨Ag, cg, hv5, -, -, -⟩ := ownE_parts o5
    subst hv5
    have hs_w7 := b_.size
    replace OX := Lib.hid (rowBelow OX.out b_)
    replace ON := Lib.hid (rowBelow ON.out b_)
    replace Q := Lib.hid (Q.out.below b_ (by omega))
    replace HB := Lib.hid (HB.out.trans (b_.mono HB.out.size))
    have OG := Lib.hid o5
    clear o5 b_
    go_wp2_with fail
    go_at_call 46
    refine Calls.mono (eqEnS w7 w7.heap.size res.length _ _ _ _ res (ownE_ents OG.out) (Q.out.more (by omega)) (Nat.le_refl _) (by unfold maxLen; omega)) ?_
    rintro e w8 ⟨rfl, b_⟩
    have hs_w8 := b_.size
    replace OX := Lib.hid (rowBelow OX.out b_)
    replace ON := Lib.hid (rowBelow ON.out b_)
    replace OG := Lib.hid (rowBelow OG.out b_)
    replace Q := Lib.hid (Q.out.below b_ (by omega))
    replace HB := Lib.hid (HB.out.trans (b_.mono HB.out.size))
    clear b_
    go_wp2_with fail
    go_at_call 45
    refine Calls.mono (copyE w8 w.heap.size l.length c A l (HR.out.below HB.out (Nat.le_refl _)) HB.out.size hlen) ?_
    rintro e w9 ⟨g_w9, c_w9, rfl, o_, b_⟩
    have hs_w9 := b_.size
    replace OX := Lib.hid (rowBelow OX.out b_)
    replace ON := Lib.hid (rowBelow ON.out b_)
    replace OG := Lib.hid (rowBelow OG.out b_)
    replace Q := Lib.hid (Q.out.below b_ (by omega))
    replace HB := Lib.hid (HB.out.trans (b_.mono HB.out.size))
    have N7 := Lib.hid (OwnE.ents o_ rfl)
    clear o_ b_
    go_wp2_with fail
    go_at_call 46
    refine Calls.mono (eqEnS w9 w9.heap.size l.length _ _ _ _ l (ownE_ents OX.out) (N7.out.more (by omega)) (Nat.le_refl _) hn) ?_
    rintro e w10 ⟨rfl, b_⟩
    have hs_w10 := b_.size
    replace OX := Lib.hid (rowBelow OX.out b_)
    replace ON := Lib.hid (rowBelow ON.out b_)
    replace OG := Lib.hid (rowBelow OG.out b_)
    replace Q := Lib.hid (Q.out.below b_ (by omega))
    replace N7 := Lib.hid (N7.out.below b_ (by omega))
    replace HB := Lib.hid (HB.out.trans (b_.mono HB.out.size))
    clear b_
    clear N7
    go_wp2_with fail
    go_at_call 50
    refine Calls.mono (copyN w10 w.heap.size times.length ct A2 times (HR2.out.below HB.out (Nat.le_refl _)) HB.out.size hnt) ?_
    rintro e w11 ⟨g_w11, c_w11, rfl, o_, b_⟩
    have hs_w11 := b_.size
    replace OX := Lib.hid (rowBelow OX.out b_)
    replace ON := Lib.hid (rowBelow ON.out b_)
    replace OG := Lib.hid (rowBelow OG.out b_)
    replace Q := Lib.hid (Q.out.below b_ (by omega))
    replace HB := Lib.hid (HB.out.trans (b_.mono HB.out.size))
    have N8 := Lib.hid (OwnN.nums o_ rfl)
    clear o_ b_
    go_wp2_with fail
    go_at_call 51
    refine Calls.mono (eqNS w11 w11.heap.size times.length _ _ _ _ times (OwnN.nums ON.out rfl) (N8.out.more (by omega)) (Nat.le_refl _) (by unfold maxLen; omega)) ?_
    rintro e w12 ⟨rfl, b_⟩
    have hs_w12 := b_.size
    replace OX := Lib.hid (rowBelow OX.out b_)
    replace ON := Lib.hid (rowBelow ON.out b_)
    replace OG := Lib.hid (rowBelow OG.out b_)
    replace Q := Lib.hid (Q.out.below b_ (by omega))
    replace N8 := Lib.hid (N8.out.below b_ (by omega))
    replace HB := Lib.hid (HB.out.trans (b_.mono HB.out.size))
    clear b_
    clear N8
    go_wp2_with fail
    go_at_call 48
    refine Calls.mono (markE w12 w4.heap.size g_w5 l.length _ _ OX.out hlen) ?_
    rintro e w13 ⟨rfl, -, g_⟩
    have hs_w13 := g_.size
    have b_ := grown_lowT g_ (show w4.heap.size ≤ w12.heap.size by omega) hxb_OX.1
    clear OX
    replace ON := Lib.hid (rowGrown ON.out g_ (by omega))
    replace OG := Lib.hid (rowGrown OG.out g_ (by omega))
    replace Q := Lib.hid (Q.out.below b_ (by omega))
    replace HB := Lib.hid (HB.out.trans (b_.mono (by omega)))
    clear b_ g_
    go_wp2_with fail
    go_at_call 52
    refine Calls.mono (markN1 w13 w5.heap.size g_w6 times.length _ (1 + 4 * l.length) _ ON.out hnt (by omega)) ?_
    rintro e w14 ⟨rfl, g_⟩
    have hs_w14 := g_.size
    have b_ := grown_lowT g_ (show w5.heap.size ≤ w13.heap.size by omega) hxb_ON.1
    clear ON
    replace OG := Lib.hid (rowGrown OG.out g_ (by omega))
    replace Q := Lib.hid (Q.out.below b_ (by omega))
    replace HB := Lib.hid (HB.out.trans (b_.mono (by omega)))
    clear b_ g_
    go_wp2_with fail
    go_at_call 46
    refine Calls.mono (eqEnS w14 w14.heap.size res.length _ _ _ _ res (ownE_ents OG.out) (Q.out.more (by omega)) (Nat.le_refl _) (by unfold maxLen; omega)) ?_
    rintro e w15 ⟨rfl, b_⟩
    have hs_w15 := b_.size
    replace OG := Lib.hid (rowBelow OG.out b_)
    replace Q := Lib.hid (Q.out.below b_ (by omega))
    replace HB := Lib.hid (HB.out.trans (b_.mono HB.out.size))
    clear b_
    go_wp2_with fail
    go_at_call 48
    refine Calls.mono (markE2 w15 w6.heap.size cg Ag _ OG.out (by omega)) ?_
    rintro e w16 ⟨rfl, o_, g_⟩
    have hs_w16 := g_.size
    have b_ := row_lowT OG.out g_ (show w6.heap.size ≤ w15.heap.size by omega) (Nat.le_refl _)
    replace OG := Lib.hid o_
    replace Q := Lib.hid (Q.out.below b_ (by omega))
    replace HB := Lib.hid (HB.out.trans (b_.mono (by omega)))
    clear o_ b_ g_
    go_wp2_with fail
    go_at_call 49
    refine Calls.mono (heldE w16 w16.heap.size res.length cg Ag (ents_marksT OG.out) (Nat.le_refl _) (by omega)) ?_
    rintro e w17 ⟨rfl, b_⟩
    have hs_w17 := b_.size
    replace OG := Lib.hid (rowBelow OG.out b_)
    replace Q := Lib.hid (Q.out.below b_ (by omega))
    replace HB := Lib.hid (HB.out.trans (b_.mono HB.out.size))
    clear b_
    go_wp2_with fail
    go_at_call 45
    refine Calls.mono (copyE w17 w.heap.size l.length c A l (HR.out.below HB.out (Nat.le_refl _)) HB.out.size hlen) ?_
    rintro e w18 ⟨g_w18, c_w18, rfl, o_, b_⟩
    have hs_w18 := b_.size
    replace OG := Lib.hid (rowBelow OG.out b_)
    replace Q := Lib.hid (Q.out.below b_ (by omega))
    replace HB := Lib.hid (HB.out.trans (b_.mono HB.out.size))
    have ND := Lib.hid (OwnE.ents o_ rfl)
    clear o_ b_
    go_wp2_with fail
    go_at_call 50
    refine Calls.mono (copyN w18 w.heap.size times.length ct A2 times (HR2.out.below HB.out (Nat.le_refl _)) HB.out.size hnt) ?_
    rintro e w19 ⟨g_w19, c_w19, rfl, o_, b_⟩
    have hs_w19 := b_.size
    replace OG := Lib.hid (rowBelow OG.out b_)
    replace Q := Lib.hid (Q.out.below b_ (by omega))
    replace ND := Lib.hid (ND.out.below b_ (by omega))
    replace HB := Lib.hid (HB.out.trans (b_.mono HB.out.size))
    have NE := Lib.hid (OwnN.nums o_ rfl)
    clear o_ b_
    go_wp2_with fail
    go_at_call 33
    refine Calls.mono (HI.out w19 _ _ _ _ (ND.out.more (by omega)) NE.out) ?_
    rintro e w20 ⟨ve, rfl, oe, b_⟩
    obtain ⟨Ah, ch, hve, -, -, se⟩ := ownE_parts oe
    subst hve
    clear ND
    clear NE
    have hs_w20 := b_.size
    replace OG := Lib.hid (rowBelow OG.out b_)
    replace Q := Lib.hid (Q.out.below b_ (by omega))
    replace HB := Lib.hid (HB.out.trans (b_.mono HB.out.size))
    have PH := Lib.hid se
    clear oe b_ se
    go_wp2_with fail
    go_at_call 46
    refine Calls.mono (eqEnS w20 w20.heap.size res.length _ _ _ _ res (PH.out.more (by omega)) (Q.out.more (by omega)) (Nat.le_refl _) (by unfold maxLen; omega)) ?_
    rintro e w21 ⟨rfl, b_⟩
    have hs_w21 := b_.size
    replace OG := Lib.hid (rowBelow OG.out b_)
    replace Q := Lib.hid (Q.out.below b_ (by omega))
    replace PH := Lib.hid (PH.out.below b_ (by omega))
    replace HB := Lib.hid (HB.out.trans (b_.mono HB.out.size))
    clear b_
    clear PH
    clear Q
    go_wp2_with fail
    go_at_call 49
    refine Calls.mono (heldE w21 w21.heap.size res.length cg Ag (ents_marksT OG.out) (Nat.le_refl _) (by omega)) ?_
    rintro e w22 ⟨rfl, b_⟩
    have hs_w22 := b_.size
    replace OG := Lib.hid (rowBelow OG.out b_)
    replace HB := Lib.hid (HB.out.trans (b_.mono HB.out.size))
    clear b_
    go_wp2
    go_ret
    exact ⟨rfl, HB.out⟩

end Go.Proofs.Ytjjalagmlbaafaa.W
