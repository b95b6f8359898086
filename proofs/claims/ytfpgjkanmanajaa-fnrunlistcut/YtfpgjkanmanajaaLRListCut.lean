/-
  The law FnRunListCut (P38), as a walk over the contracts.
-/
import Derived.Test.YtfpgjkanmanajaaEV
namespace Go.Proofs.Ytfpgjkanmanajaa.W
open Go.RowKit K R

theorem bytes_more {w : World} {B B' n : Nat} {A : Option Addr} (h : Bytes w B A n) (hB : B ≤ B') : Bytes w B' A n := fun i hi => by
  obtain ⟨b, off, z, hA, hb, hz, hc⟩ := h i hi
  exact ⟨b, off, z, hA, Nat.lt_of_lt_of_le hb hB, hz, hc⟩
theorem row_lowL {E : TypeId} {sz m : Nat} {w w' : World} {base B : Nat} {v : Value} {cs : List Value} (h : w.ownsRow base E sz v m cs) (hg : w.grownBy w' v.ownBlock) (hB : B ≤ w.heap.size) (hb : B ≤ base) : Below B w w' :=
  (Below.refl B w).grown hg hB fun k hk => Nat.le_trans hb (World.ownsRow.lt h k hk).1
theorem listO_cut (l : List En) {f u k : ByteArray} (t : Int) (h1 : lt k f = false) (h2 : lt k u = true) : listO l f k t ++ listO l (k ++ ⟨#[97]⟩) u t = listO l f u t := by
  unfold listO
  split
  · rename_i h; exact list_cut h t h1 h2
  · rfl

set_option maxHeartbeats 8000000 in
set_option maxRecDepth 100000 in
theorem lawRunListCut (w : World) (A : Option Addr) (n c : Nat) (hb0 : Bytes w w.heap.size A n) (hnc : n ≤ c) (hc : c ≤ maxLen) (A9 : Option Addr) (n9 c9 : Nat) (hb9 : Bytes w w.heap.size A9 n9) (hnc9 : n9 ≤ c9) (hc9 : c9 ≤ maxLen) :
    Calls Try.prog 13 #[.slice A n c, .slice A9 n9 c9] w fun e w' => e = .returned (.bool true) ∧ Below w.heap.size w w' := by
  by_cases hbig : (1048576 : Int) < (n : Int)
  · clear hb0
    go_enter Try.func13, Try.ntmps13
    go_wp2
    go_ret
    exact ⟨rfl, Below.refl _ _⟩
  by_cases hbig9 : (1048576 : Int) < (n9 : Int)
  · clear hb0
    go_enter Try.func13, Try.ntmps13
    go_wp2
    go_ret
    exact ⟨rfl, Below.refl _ _⟩
  go_enter Try.func13, Try.ntmps13
  go_wp2_with fail
  go_at_call 41
  refine Calls.mono (drawRunList w A n c hb0 hnc hc) ?_
  rintro e w1 ⟨A1, c1, l, f, u, t, hf6, hu6, ht, rfl, hf, hb⟩
  have HF := Lib.hid hf
  have HB := Lib.hid hb
  have HB9 := Lib.hid (bytes_more (hb9.keep fun b o h => hb.cell (p := ⟨b, o, none⟩) h) hb.size)
  clear hb0 hb9 hf hb
  go_wp2_with fail
  go_at_call 44
  refine Calls.mono (drawKeyBegins w1 A9 n9 c9 HB9.out hnc9 hc9) ?_
  rintro e w2 ⟨k, k9, hk6, hk96, rfl, b_⟩
  replace HF := Lib.hid (HF.out.below b_)
  replace HB := Lib.hid (HB.out.trans (b_.mono HB.out.size))
  clear b_ HB9
  go_wp2_with fail
  go_at_call 42
  refine Calls.mono (listI_few HF.out f u (t : Nat)) ?_
  rintro e w3 ⟨A2, c2, rfl, hf_, b_⟩
  replace HF := Lib.hid (HF.out.below b_)
  replace HB := Lib.hid (HB.out.trans (b_.mono HB.out.size))
  have HL := Lib.hid hf_
  clear hf_ b_
  go_wp2_with fail
  go_at_call 43
  refine Calls.mono (listS_few HF.out f u (t : Nat)) ?_
  rintro e w4 ⟨A3, c3, rfl, hf_, b_⟩
  replace HF := Lib.hid (HF.out.below b_)
  replace HL := Lib.hid (HL.out.below b_)
  replace HB := Lib.hid (HB.out.trans (b_.mono HB.out.size))
  have HM := Lib.hid hf_
  clear hf_ b_
  go_wp2_with fail
  go_at_call 27
  refine Calls.mono (same_few HL.out HM.out) ?_
  rintro e w5 ⟨rfl, b_⟩
  replace HF := Lib.hid (HF.out.below b_)
  replace HL := Lib.hid (HL.out.below b_)
  replace HM := Lib.hid (HM.out.below b_)
  replace HB := Lib.hid (HB.out.trans (b_.mono HB.out.size))
  clear b_
  clear HM
  rcases Bool.eq_false_or_eq_true (Op.bytesLess k.toList f.toList) with f1 | f1
  · skip
    go_wp2_with fail
    go_at_call 43
    refine Calls.mono (listS_few HF.out f u (t : Nat)) ?_
    rintro e w6 ⟨A4, c4, rfl, hf_, b_⟩
    replace HF := Lib.hid (HF.out.below b_)
    replace HL := Lib.hid (HL.out.below b_)
    replace HB := Lib.hid (HB.out.trans (b_.mono HB.out.size))
    have HM := Lib.hid hf_
    clear hf_ b_
    go_wp2_with fail
    go_at_call 27
    refine Calls.mono (same_few HL.out HM.out) ?_
    rintro e w7 ⟨rfl, b_⟩
    replace HF := Lib.hid (HF.out.below b_)
    replace HL := Lib.hid (HL.out.below b_)
    replace HM := Lib.hid (HM.out.below b_)
    replace HB := Lib.hid (HB.out.trans (b_.mono HB.out.size))
    clear b_
    go_wp2
    go_ret
    exact ⟨rfl, HB.out⟩
  · rcases Bool.eq_false_or_eq_true (Op.bytesLess k.toList u.toList) with u1 | u1
    · have HCUT := Lib.hid (listO_cut l (t : Nat) (f := f) (u := u) (k := k) f1 u1)
      go_wp2_with fail
      go_at_call 42
      refine Calls.mono (listI_few HF.out f k (t : Nat)) ?_
      rintro e w6 ⟨A4, c4, rfl, hf_, b_⟩
      replace HF := Lib.hid (HF.out.below b_)
      replace HL := Lib.hid (HL.out.below b_)
      replace HB := Lib.hid (HB.out.trans (b_.mono HB.out.size))
      have HP := Lib.hid hf_
      clear hf_ b_
      have hk7 : ¬ (9223372036854775807 : Int) < (k.size : Int) + 1 := by omega
      have hk8 : ¬ 9223372036854775807 < k.size + 1 := by omega
      obtain ⟨ka, hka⟩ : ∃ ka, ka = k ++ (⟨#[97]⟩ : ByteArray) := ⟨_, rfl⟩
      have HC := Lib.hid (listI_few HF.out ka u (t : Nat))
      rw [← hka] at HCUT
      obtain ⟨q, hq⟩ : ∃ q, q = listO l ka u (t : Nat) := ⟨_, rfl⟩
      rw [← hq] at HC HCUT
      rw [hka] at HC
      clear hka hq
      go_wp2_with fail
      go_at_call 42
      refine Calls.mono (HC.out) ?_
      rintro e w7 ⟨A5, c5, rfl, hf_, b_⟩
      replace HF := Lib.hid (HF.out.below b_)
      replace HL := Lib.hid (HL.out.below b_)
      replace HP := Lib.hid (HP.out.below b_)
      replace HB := Lib.hid (HB.out.trans (b_.mono HB.out.size))
      have HQ := Lib.hid hf_
      clear hf_ b_
      have hp45 := HP.out.len
      have hq45 := HQ.out.len
      obtain ⟨p, hp⟩ : ∃ p, p = listO l f k (t : Nat) := ⟨_, rfl⟩
      obtain ⟨r, hr⟩ : ∃ r, r = listO l f u (t : Nat) := ⟨_, rfl⟩
      rw [← hp] at HP HCUT hp45
      rw [← hr] at HL HCUT
      rw [← hp, ← hr]
      clear hp hr HF
      have b0 : Below w7.heap.size w7 (w7.alloc (.cells #[] 33)) := (Below.refl _ _).alloc (Nat.le_refl _) _
      have HO0 := Lib.hid (emptyE w7)
      have HP0 := Lib.hid (HP.out.ents.below b0 (Nat.le_refl _))
      have HQ0 := Lib.hid (HQ.out.ents.below b0 (Nat.le_refl _))
      have HL0 := Lib.hid (HL.out.ents.below b0 (Nat.le_refl _))
      have HB0 := Lib.hid (HB.out.trans (b0.mono HB.out.size))
      have HSH := Lib.hid HL.out
      have HS0 := Lib.hid b0.size
      clear b0
      go_wp2_with (first | (at_builtin; refine app_ens rfl (.tmp 76) (.tmp 77) rfl (w7.alloc (.cells #[] 33)) w7.heap.size (.slice (some ⟨w7.heap.size, 0, none⟩) 0 0) [] rfl HO0.out w7.heap.size p.length c4 _ p rfl HP0.out (by simp; omega) HS0.out ?_; intro vb wb ob gb; have bl := row_lowL HO0.out gb HS0.out (Nat.le_refl _); have OB := Lib.hid ob; have HQ1 := Lib.hid (HQ0.out.below bl (Nat.le_refl _)); have HL1 := Lib.hid (HL0.out.below bl (Nat.le_refl _)); have HB1 := Lib.hid (HB0.out.trans (bl.mono HB.out.size)); have hs1 := Lib.hid (Nat.le_trans HS0.out bl.size); clear ob gb bl) | (at_builtin; refine app_ens rfl (.tmp 78) (.tmp 79) rfl wb w7.heap.size vb ([] ++ p) rfl OB.out w7.heap.size q.length c5 _ q rfl HQ1.out (by simp; omega) hs1.out ?_; intro vc wc oc gc; have bl := row_lowL OB.out gc hs1.out (Nat.le_refl _); have OC := Lib.hid oc; have HL2 := Lib.hid (HL1.out.below bl (Nat.le_refl _)); have HB2 := Lib.hid (HB1.out.trans (bl.mono HB.out.size)); have hs2 := Lib.hid (Nat.le_trans hs1.out bl.size); clear oc gc bl) | fail)
      have hoc := OC.out
      rw [List.nil_append, HCUT.out] at hoc
      obtain ⟨A7, c7, hv7, HF7⟩ := few_of hoc HL.out.len HL.out.short
      subst hv7
      have HL3 := Lib.hid (show Few wc A2 c2 r from ⟨HL.out.len, HL.out.short, HL2.out.more hs2.out, HL.out.cap, HL.out.most⟩)
      have HF8 := Lib.hid HF7
      clear hoc HF7
      go_wp2_with fail
      go_at_call 27
      refine Calls.mono (same_few HF8.out HL3.out) ?_
      rintro e w9 ⟨rfl, b_⟩
      have HB9 := Lib.hid (HB2.out.trans (b_.mono HB2.out.size))
      clear b_
      go_wp2
      go_ret
      exact ⟨rfl, HB9.out⟩
    · skip
      go_wp2_with fail
      go_at_call 43
      refine Calls.mono (listS_few HF.out f u (t : Nat)) ?_
      rintro e w6 ⟨A4, c4, rfl, hf_, b_⟩
      replace HF := Lib.hid (HF.out.below b_)
      replace HL := Lib.hid (HL.out.below b_)
      replace HB := Lib.hid (HB.out.trans (b_.mono HB.out.size))
      have HM := Lib.hid hf_
      clear hf_ b_
      go_wp2_with fail
      go_at_call 27
      refine Calls.mono (same_few HL.out HM.out) ?_
      rintro e w7 ⟨rfl, b_⟩
      replace HF := Lib.hid (HF.out.below b_)
      replace HL := Lib.hid (HL.out.below b_)
      replace HM := Lib.hid (HM.out.below b_)
      replace HB := Lib.hid (HB.out.trans (b_.mono HB.out.size))
      clear b_
      go_wp2
      go_ret
      exact ⟨rfl, HB.out⟩

end Go.Proofs.Ytfpgjkanmanajaa.W
