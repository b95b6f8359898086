/-
  The exact law of RunJoin, as a walk over the contracts.
-/
import Derived.Test.YtfpgjkanmanajaaGI
import Derived.Test.YtfpgjkanmanajaaGJ
import Derived.Test.YtfpgjkanmanajaaE9
import Derived.Test.YtfpgjkanmanajaaER
namespace Go.Proofs.Ytfpgjkanmanajaa.W
open Go.RowKit K R

theorem grown_lowJ {w w' : World} {B g : Nat} (hg : w.grownBy w' (some g)) (hB : B ≤ w.heap.size) (h : B ≤ g) : Below B w w' :=
  (Below.refl B w).grown hg hB fun k hk => by injection hk with hk; omega
theorem row_lowJ {E : TypeId} {sz m : Nat} {w w' : World} {base B : Nat} {v : Value} {cs : List Value} (h : w.ownsRow base E sz v m cs) (hg : w.grownBy w' v.ownBlock) (hB : B ≤ w.heap.size) (hb : B ≤ base) : Below B w w' :=
  (Below.refl B w).grown hg hB fun k hk => Nat.le_trans hb (World.ownsRow.lt h k hk).1
theorem ents_marksJ {w : World} {base n c : Nat} {A : Option Addr} (h : OwnE w base (.slice A n c) (marksE n)) : Ents w w.heap.size A n (marksE n) := ownE_ents h
theorem markEG1 (w : World) (base g n c K0 : Nat) (cs : List Value) (ho : w.ownsRow base 33 4 (.slice (some ⟨g, 0, none⟩) n c) n cs) (hn : n ≤ 1048576) (hK1 : 1 ≤ K0) (hK : K0 ≤ 1000000000) :
    Calls Try.prog 49 #[.slice (some ⟨g, 0, none⟩) n c, .int .i64 ((K0 : Nat) : Int)] w fun e w' => e = .returned (.int .i64 ((K0 + 4 * n : Nat) : Int)) ∧ w.grownBy w' (some g) :=
  (markEG w base g n c cs ho hn K0 hK1 hK).mono fun _ _ h => ⟨h.1, h.2.2⟩
theorem ownE_cap {w : World} {base n c : Nat} {A : Option Addr} {l : List En} (h : OwnE w base (.slice A n c) l) : l.length ≤ c ∧ c ≤ maxLen := by
  obtain ⟨A', c', hv, h1, h2, -⟩ := ownE_parts h
  injection hv with e1 e2 e3
  subst e3
  exact ⟨h1, h2⟩
/-- what RunJoin makes -/
def joinR (la lb : List En) : List En := if joinB la lb = true then joinL la lb else []
theorem joinR_len (la lb : List En) : (joinR la lb).length ≤ 40 := by
  unfold joinR
  split
  · next h =>
    unfold joinB at h
    rw [Bool.and_eq_true, Bool.and_eq_true] at h
    exact (run_iff.mp h.2.2).1
  · exact Nat.zero_le _

set_option maxHeartbeats 8000000 in
set_option maxRecDepth 100000 in
theorem exactRunJoin (w : World) (A A2 : Option Addr) (n c n2 c2 : Nat) (l l2 : List En) (hr : Ents w w.heap.size A n l) (hr2 : Ents w w.heap.size A2 n2 l2) (hn : n ≤ maxLen) (hn2 : n2 ≤ maxLen) (hf : ∀ e ∈ l, e.key.size ≤ maxLen) (hf2 : ∀ e ∈ l2, e.key.size ≤ maxLen) :
    Calls Try.prog 18 #[.slice A n c, .slice A2 n2 c2] w fun e w' => e = .returned (.bool true) ∧ Below w.heap.size w w' := by
  have hlen := hr.len
  subst hlen
  have hlen := hr2.len
  subst hlen
  have HR := Lib.hid hr
  have HR2 := Lib.hid hr2
  have HF := Lib.hid hf
  have HF2 := Lib.hid hf2
  clear hr hr2 hf hf2
  have hkl := joinR_len l l2
  go_enter Try.func18, Try.ntmps18
  go_wp2_with fail
  go_at_call 45
  refine Calls.mono (szEnL w w.heap.size l.length c A l HR.out (Nat.le_refl _) hn HF.out 1048576 (by omega) (by omega)) ?_
  rintro e w1 ⟨x, rfl, hx0, hx1, hx2, hb1⟩
  have HB := Lib.hid hb1
  have hs_w1 := hb1.size
  clear hb1
  by_cases hneg : x < 0
  · clear hx2
    go_wp2
    go_ret
    exact ⟨rfl, HB.out⟩
  · have hlen := (hx2 (by omega)).1
    clear hx2
    go_wp2_with fail
    go_at_call 45
    refine Calls.mono (szEnL w1 w.heap.size l2.length c2 A2 l2 (HR2.out.below HB.out (Nat.le_refl _)) HB.out.size hn2 HF2.out x (by omega) hx1) ?_
    rintro e w2 ⟨x', rfl, hx0', hx1', hx2', hb2⟩
    have hs_w2 := hb2.size
    replace HB := Lib.hid (HB.out.trans (hb2.mono HB.out.size))
    clear hb2
    by_cases hneg2 : x' < 0
    · clear hx2'
      go_wp2
      go_ret
      exact ⟨rfl, HB.out⟩
    · have hlen2 := (hx2' (by omega)).1
      clear hx2'
      have HS := Lib.hid (show ∀ (W : World) (A A2 : Option Addr) (c c2 : Nat), l.length ≤ c → c ≤ maxLen → Ents W W.heap.size A l.length l → Ents W W.heap.size A2 l2.length l2 → Calls Try.prog 32 #[.slice A l.length c, .slice A2 l2.length c2] W (JoinA W l l2) from fun W A A2 c c2 h0 hm h h2 => runJoinS W W.heap.size l.length c l2.length c2 A A2 l l2 h h2 (Nat.le_refl _) h0 hm hn2 HF.out HF2.out)
      have HI := Lib.hid (show ∀ (W : World) (A A2 : Option Addr) (c c2 : Nat), l.length ≤ c → Ents W W.heap.size A l.length l → Ents W W.heap.size A2 l2.length l2 → Calls Try.prog 26 #[.slice A l.length c, .slice A2 l2.length c2] W (JoinA W l l2) from fun W A A2 c c2 h0 h h2 => runJoinI W W.heap.size l.length c l2.length c2 A A2 l l2 h h2 (Nat.le_refl _) h0 hlen hlen2 HF.out HF2.out)
      unfold JoinA at HS HI
      rw [show (if joinB l l2 = true then joinL l l2 else []) = joinR l l2 from rfl] at HS HI
      obtain ⟨res, hres⟩ : ∃ res, res = joinR l l2 := ⟨_, rfl⟩
      obtain ⟨q, hq⟩ : ∃ q, q = joinB l l2 := ⟨_, rfl⟩
      rw [← hres, ← hq] at HS HI
      rw [← hres] at hkl
      clear hres hq
      go_wp2_with fail
      go_at_call 46
      refine Calls.mono (copyE w2 w.heap.size l.length c A l (HR.out.below HB.out (Nat.le_refl _)) HB.out.size hlen) ?_
      rintro e w3 ⟨g_w3, c_w3, rfl, o_, b_⟩
      have hs_w3 := b_.size
      replace HB := Lib.hid (HB.out.trans (b_.mono HB.out.size))
      have E2 := Lib.hid o_
      have hxb_E2 := World.ownsRow.lt o_ g_w3 rfl
      clear o_ b_
      go_wp2_with fail
      go_at_call 46
      refine Calls.mono (copyE w3 w.heap.size l2.length c2 A2 l2 (HR2.out.below HB.out (Nat.le_refl _)) HB.out.size hlen2) ?_
      rintro e w4 ⟨g_w4, c_w4, rfl, o_, b_⟩
      have hs_w4 := b_.size
      replace E2 := Lib.hid (rowBelow E2.out b_)
      replace HB := Lib.hid (HB.out.trans (b_.mono HB.out.size))
      have E3 := Lib.hid (OwnE.ents o_ rfl)
      clear o_ b_
      go_wp2_with fail
      go_at_call 32
      refine Calls.mono (HS.out w4 _ _ _ _ (ownE_cap E2.out).1 (ownE_cap E2.out).2 (OwnE.ents E2.out rfl) E3.out) ?_
      rintro e w5 ⟨v3, rfl, o3, b_⟩
      obtain ⟨Aw, cw, hv3, -, -, q3⟩ := ownE_parts o3
      subst hv3
      clear E2
      clear E3
      have hs_w5 := b_.size
      replace HB := Lib.hid (HB.out.trans (b_.mono HB.out.size))
      have Q := Lib.hid q3
      clear o3 b_ q3
      go_wp2_with fail
      go_at_call 46
      refine Calls.mono (copyE w5 w.heap.size l.length c A l (HR.out.below HB.out (Nat.le_refl _)) HB.out.size hlen) ?_
      rintro e w6 ⟨g_w6, c_w6, rfl, o_, b_⟩
      have hs_w6 := b_.size
      replace Q := Lib.hid (Q.out.below b_ (by omega))
      replace HB := Lib.hid (HB.out.trans (b_.mono HB.out.size))
      have OX := Lib.hid o_
      have hxb_OX := World.ownsRow.lt o_ g_w6 rfl
      clear o_ b_
      go_wp2_with fail
      go_at_call 46
      refine Calls.mono (copyE w6 w.heap.size l2.length c2 A2 l2 (HR2.out.below HB.out (Nat.le_refl _)) HB.out.size hlen2) ?_
      rintro e w7 ⟨g_w7, c_w7, rfl, o_, b_⟩
      have hs_w7 := b_.size
      replace OX := Lib.hid (rowBelow OX.out b_)
      replace Q := Lib.hid (Q.out.below b_ (by omega))
      replace HB := Lib.hid (HB.out.trans (b_.mono HB.out.size))
      have ON := Lib.hid o_
      have hxb_ON := World.ownsRow.lt o_ g_w7 rfl
      clear o_ b_
      go_wp2_with fail
      go_at_call 26
      refine Calls.mono (HI.out w7 _ _ _ _ (ownE_cap OX.out).1 (OwnE.ents OX.out rfl) (OwnE.ents ON.out rfl)) ?_
      rintro e w8 ⟨v5, rfl, o5, b_⟩
      obtain ⟨Ag, cg, hv5, -, -, -⟩ := ownE_parts o5
      subst hv5
      have hs_w8 := b_.size
      replace OX := Lib.hid (rowBelow OX.out b_)
      replace ON := Lib.hid (rowBelow ON.out b_)
      replace Q := Lib.hid (Q.out.below b_ (by omega))
      replace HB := Lib.hid (HB.out.trans (b_.mono HB.out.size))
      have OG := Lib.hid o5
      clear o5 b_
      have q0 : (q == q) = true := by simp
      go_wp2_with fail
      go_at_call 47
      refine Calls.mono (eqEnS w8 w8.heap.size res.length _ _ _ _ res (ownE_ents OG.out) (Q.out.more (by omega)) (Nat.le_refl _) (by unfold maxLen; omega)) ?_
      rintro e w9 ⟨rfl, b_⟩
      have hs_w9 := b_.size
      replace OX := Lib.hid (rowBelow OX.out b_)
      replace ON := Lib.hid (rowBelow ON.out b_)
      replace OG := Lib.hid (rowBelow OG.out b_)
      replace Q := Lib.hid (Q.out.below b_ (by omega))
      replace HB := Lib.hid (HB.out.trans (b_.mono HB.out.size))
      clear b_
      go_wp2_with fail
      go_at_call 46
      refine Calls.mono (copyE w9 w.heap.size l.length c A l (HR.out.below HB.out (Nat.le_refl _)) HB.out.size hlen) ?_
      rintro e w10 ⟨g_w10, c_w10, rfl, o_, b_⟩
      have hs_w10 := b_.size
      replace OX := Lib.hid (rowBelow OX.out b_)
      replace ON := Lib.hid (rowBelow ON.out b_)
      replace OG := Lib.hid (rowBelow OG.out b_)
      replace Q := Lib.hid (Q.out.below b_ (by omega))
      replace HB := Lib.hid (HB.out.trans (b_.mono HB.out.size))
      have N7 := Lib.hid (OwnE.ents o_ rfl)
      clear o_ b_
      go_wp2_with fail
      go_at_call 47
      refine Calls.mono (eqEnS w10 w10.heap.size l.length _ _ _ _ l (ownE_ents OX.out) (N7.out.more (by omega)) (Nat.le_refl _) hn) ?_
      rintro e w11 ⟨rfl, b_⟩
      have hs_w11 := b_.size
      replace OX := Lib.hid (rowBelow OX.out b_)
      replace ON := Lib.hid (rowBelow ON.out b_)
      replace OG := Lib.hid (rowBelow OG.out b_)
      replace Q := Lib.hid (Q.out.below b_ (by omega))
      replace N7 := Lib.hid (N7.out.below b_ (by omega))
      replace HB := Lib.hid (HB.out.trans (b_.mono HB.out.size))
      clear b_
      clear N7
      go_wp2_with fail
      go_at_call 46
      refine Calls.mono (copyE w11 w.heap.size l2.length c2 A2 l2 (HR2.out.below HB.out (Nat.le_refl _)) HB.out.size hlen2) ?_
      rintro e w12 ⟨g_w12, c_w12, rfl, o_, b_⟩
      have hs_w12 := b_.size
      replace OX := Lib.hid (rowBelow OX.out b_)
      replace ON := Lib.hid (rowBelow ON.out b_)
      replace OG := Lib.hid (rowBelow OG.out b_)
      replace Q := Lib.hid (Q.out.below b_ (by omega))
      replace HB := Lib.hid (HB.out.trans (b_.mono HB.out.size))
      have N8 := Lib.hid (OwnE.ents o_ rfl)
      clear o_ b_
      go_wp2_with fail
      go_at_call 47
      refine Calls.mono (eqEnS w12 w12.heap.size l2.length _ _ _ _ l2 (ownE_ents ON.out) (N8.out.more (by omega)) (Nat.le_refl _) hn2) ?_
      rintro e w13 ⟨rfl, b_⟩
      have hs_w13 := b_.size
      replace OX := Lib.hid (rowBelow OX.out b_)
      replace ON := Lib.hid (rowBelow ON.out b_)
      replace OG := Lib.hid (rowBelow OG.out b_)
      replace Q := Lib.hid (Q.out.below b_ (by omega))
      replace N8 := Lib.hid (N8.out.below b_ (by omega))
      replace HB := Lib.hid (HB.out.trans (b_.mono HB.out.size))
      clear b_
      clear N8
      go_wp2_with fail
      go_at_call 49
      refine Calls.mono (markEG1 w13 w5.heap.size g_w6 l.length _ (1) _ OX.out hlen (by omega) (by omega)) ?_
      rintro e w14 ⟨rfl, g_⟩
      have hs_w14 := g_.size
      have b_ := grown_lowJ g_ (show w5.heap.size ≤ w13.heap.size by omega) hxb_OX.1
      clear OX
      replace ON := Lib.hid (rowGrown ON.out g_ (by omega))
      replace OG := Lib.hid (rowGrown OG.out g_ (by omega))
      replace Q := Lib.hid (Q.out.below b_ (by omega))
      replace HB := Lib.hid (HB.out.trans (b_.mono (by omega)))
      clear b_ g_
      go_wp2_with fail
      go_at_call 49
      refine Calls.mono (markEG1 w14 w6.heap.size g_w7 l2.length _ (1 + 4 * l.length) _ ON.out hlen2 (by omega) (by omega)) ?_
      rintro e w15 ⟨rfl, g_⟩
      have hs_w15 := g_.size
      have b_ := grown_lowJ g_ (show w6.heap.size ≤ w14.heap.size by omega) hxb_ON.1
      clear ON
      replace OG := Lib.hid (rowGrown OG.out g_ (by omega))
      replace Q := Lib.hid (Q.out.below b_ (by omega))
      replace HB := Lib.hid (HB.out.trans (b_.mono (by omega)))
      clear b_ g_
      go_wp2_with fail
      go_at_call 47
      refine Calls.mono (eqEnS w15 w15.heap.size res.length _ _ _ _ res (ownE_ents OG.out) (Q.out.more (by omega)) (Nat.le_refl _) (by unfold maxLen; omega)) ?_
      rintro e w16 ⟨rfl, b_⟩
      have hs_w16 := b_.size
      replace OG := Lib.hid (rowBelow OG.out b_)
      replace Q := Lib.hid (Q.out.below b_ (by omega))
      replace HB := Lib.hid (HB.out.trans (b_.mono HB.out.size))
      clear b_
      go_wp2_with fail
      go_at_call 49
      refine Calls.mono (markE2 w16 w7.heap.size cg Ag _ OG.out (by omega)) ?_
      rintro e w17 ⟨rfl, o_, g_⟩
      have hs_w17 := g_.size
      have b_ := row_lowJ OG.out g_ (show w7.heap.size ≤ w16.heap.size by omega) (Nat.le_refl _)
      replace OG := Lib.hid o_
      replace Q := Lib.hid (Q.out.below b_ (by omega))
      replace HB := Lib.hid (HB.out.trans (b_.mono (by omega)))
      clear o_ b_ g_
      go_wp2_with fail
      go_at_call 50
      refine Calls.mono (heldE w17 w17.heap.size res.length cg Ag (ents_marksJ OG.out) (Nat.le_refl _) (by omega)) ?_
      rintro e w18 ⟨rfl, b_⟩
      have hs_w18 := b_.size
      replace OG := Lib.hid (rowBelow OG.out b_)
      replace Q := Lib.hid (Q.out.below b_ (by omega))
      replace HB := Lib.hid (HB.out.trans (b_.mono HB.out.size))
      clear b_
      go_wp2_with fail
      go_at_call 46
      refine Calls.mono (copyE w18 w.heap.size l.length c A l (HR.out.below HB.out (Nat.le_refl _)) HB.out.size hlen) ?_
      rintro e w19 ⟨g_w19, c_w19, rfl, o_, b_⟩
      have hs_w19 := b_.size
      replace OG := Lib.hid (rowBelow OG.out b_)
      replace Q := Lib.hid (Q.out.below b_ (by omega))
      replace HB := Lib.hid (HB.out.trans (b_.mono HB.out.size))
      have ND := Lib.hid o_
      have hxb_ND := World.ownsRow.lt o_ g_w19 rfl
      clear o_ b_
      go_wp2_with fail
      go_at_call 46
      refine Calls.mono (copyE w19 w.heap.size l2.length c2 A2 l2 (HR2.out.below HB.out (Nat.le_refl _)) HB.out.size hlen2) ?_
      rintro e w20 ⟨g_w20, c_w20, rfl, o_, b_⟩
      have hs_w20 := b_.size
      replace OG := Lib.hid (rowBelow OG.out b_)
      replace ND := Lib.hid (rowBelow ND.out b_)
      replace Q := Lib.hid (Q.out.below b_ (by omega))
      replace HB := Lib.hid (HB.out.trans (b_.mono HB.out.size))
      have NE := Lib.hid (OwnE.ents o_ rfl)
      clear o_ b_
      go_wp2_with fail
      go_at_call 26
      refine Calls.mono (HI.out w20 _ _ _ _ (ownE_cap ND.out).1 (OwnE.ents ND.out rfl) NE.out) ?_
      rintro e w21 ⟨ve, rfl, oe, b_⟩
      obtain ⟨Ah, ch, hve, -, -, se⟩ := ownE_parts oe
      subst hve
      clear ND
      clear NE
      have hs_w21 := b_.size
      replace OG := Lib.hid (rowBelow OG.out b_)
      replace Q := Lib.hid (Q.out.below b_ (by omega))
      replace HB := Lib.hid (HB.out.trans (b_.mono HB.out.size))
      have PH := Lib.hid se
      clear oe b_ se
      go_wp2_with fail
      go_at_call 47
      refine Calls.mono (eqEnS w21 w21.heap.size res.length _ _ _ _ res (PH.out.more (by omega)) (Q.out.more (by omega)) (Nat.le_refl _) (by unfold maxLen; omega)) ?_
      rintro e w22 ⟨rfl, b_⟩
      have hs_w22 := b_.size
      replace OG := Lib.hid (rowBelow OG.out b_)
      replace Q := Lib.hid (Q.out.below b_ (by omega))
      replace PH := Lib.hid (PH.out.below b_ (by omega))
      replace HB := Lib.hid (HB.out.trans (b_.mono HB.out.size))
      clear b_
      clear PH
      clear Q
      go_wp2_with fail
      go_at_call 50
      refine Calls.mono (heldE w22 w22.heap.size res.length cg Ag (ents_marksJ OG.out) (Nat.le_refl _) (by omega)) ?_
      rintro e w23 ⟨rfl, b_⟩
      have hs_w23 := b_.size
      replace OG := Lib.hid (rowBelow OG.out b_)
      replace HB := Lib.hid (HB.out.trans (b_.mono HB.out.size))
      clear b_
      go_wp2
      go_ret
      exact ⟨rfl, HB.out⟩

end Go.Proofs.Ytfpgjkanmanajaa.W
