/-
  The exact law of RunKeys, as a walk over the contracts.
-/
import Derived.Test.YtalafgbagbdjlaaEE
import Derived.Test.YtalafgbagbdjlaaEF
import Derived.Test.YtalafgbagbdjlaaE9
namespace Go.Proofs.Ytalafgbagbdjlaa.W
open Go.RowKit K R

theorem grown_low {w w' : World} {B g : Nat} (hg : w.grownBy w' (some g)) (hB : B ≤ w.heap.size) (h : B ≤ g) : Below B w w' :=
  (Below.refl B w).grown hg hB fun k hk => by injection hk with hk; omega
theorem own_g {w w' : World} {base g : Nat} {v : Value} {l : List ByteArray} (h : Own w base v l) (hg : w.grownBy w' (some g)) (hlt : g < base) : Own w' base v l :=
  World.ownsRow.kept h hg (by
    cases e : v.ownBlock with
    | none => exact .inl rfl
    | some k => exact .inr fun x => by have := (World.ownsRow.lt h k e).1; injection x; omega)
theorem own_low {w w' : World} {base B : Nat} {v : Value} {l : List ByteArray} (h : Own w base v l) (hg : w.grownBy w' v.ownBlock) (hB : B ≤ w.heap.size) (hb : B ≤ base) : Below B w w' :=
  (Below.refl B w).grown hg hB fun k hk => Nat.le_trans hb (World.ownsRow.lt h k hk).1
theorem ownStrs {w : World} {base n c : Nat} {A : Option Addr} {l : List ByteArray} (h : Own w base (.slice A n c) l) : Strs w w.heap.size A n l := by
  obtain ⟨A', c', hv, -, -, hs⟩ := h.parts
  injection hv with e1 e2 e3
  subst e1 e2
  exact hs
theorem keysO_len (l : List En) : (keysO l).length ≤ l.length := by
  unfold keysO
  split
  · exact keysUp_len _ _
  · exact Nat.zero_le _

theorem mark1s (w : World) (base n c : Nat) (A : Option Addr) (l : List ByteArray) (ho : Own w base (.slice A n c) l) (h1 : n ≤ 1073741823) :
    Calls Try.prog 54 #[.slice A n c, .int .i64 1] w (Marked base 1 n (.slice A n c) w) := markS w base n c 1 A l ho (by omega) (by omega)
theorem held1s (w : World) (B n c : Nat) (A : Option Addr) (hr : Strs w B A n (marks 1 n)) (hB : B ≤ w.heap.size) (h1 : n ≤ 1073741823) :
    Calls Try.prog 55 #[.slice A n c, .int .i64 1] w fun e w' => e = .returned (.int .i64 ((1 + n : Nat) : Int)) ∧ Below w.heap.size w w' := heldS w B n c 1 A hr hB (by omega) (by omega)

set_option maxHeartbeats 8000000 in
set_option maxRecDepth 100000 in
theorem exactRunKeys (w : World) (A : Option Addr) (n c : Nat) (l : List En) (hr : Ents w w.heap.size A n l) (hn : n ≤ maxLen) (hf : ∀ e ∈ l, e.key.size ≤ maxLen) :
    Calls Try.prog 20 #[.slice A n c] w fun e w' => e = .returned (.bool true) ∧ Below w.heap.size w w' := by
  have hlen := hr.len
  subst hlen
  have HR := Lib.hid hr
  have HF := Lib.hid hf
  clear hr hf
  have hkl := keysO_len l
  go_enter Try.func20, Try.ntmps20
  go_wp2_with fail
  go_at_call 44
  refine Calls.mono (szEnS w w.heap.size l.length c A l HR.out (Nat.le_refl _) hn HF.out) ?_
  rintro e w1 ⟨x, rfl, hx0, hx1, hx2, hb1⟩
  have HB1 := Lib.hid hb1
  clear hb1
  by_cases hneg : x < 0
  · clear hx2
    go_wp2
    go_ret
    exact ⟨rfl, HB1.out⟩
  · have hlen := (hx2 (by omega)).1
    clear hx2
    have HS := Lib.hid (show ∀ (W : World) (A : Option Addr) (c : Nat), Ents W W.heap.size A l.length l → Calls Try.prog 38 #[.slice A l.length c] W (New W (keysO l)) from fun W A c h => runKeysS W W.heap.size l.length c A l h (Nat.le_refl _) (by omega) HF.out)
    have HI := Lib.hid (show ∀ (W : World) (A : Option Addr) (c : Nat), Ents W W.heap.size A l.length l → Calls Try.prog 35 #[.slice A l.length c] W (New W (keysO l)) from fun W A c h => runKeysI W W.heap.size l.length c A l h (Nat.le_refl _) (by omega) HF.out)
    obtain ⟨ks, hks⟩ : ∃ ks, ks = keysO l := ⟨_, rfl⟩
    rw [← hks] at HS HI hkl
    clear hks
    go_wp2_with fail
    go_at_call 45
    refine Calls.mono (copyE w1 w.heap.size l.length c A l (HR.out.below HB1.out (Nat.le_refl _)) HB1.out.size hlen) ?_
    rintro e w2 ⟨g_w2, c_w2, rfl, o_, b_⟩
    have HB2 := Lib.hid (HB1.out.trans (b_.mono HB1.out.size))
    have HE2 := Lib.hid (OwnE.ents o_ rfl)
    clear o_ b_ HB1
    go_wp2_with fail
    go_at_call 38
    refine Calls.mono (HS.out w2 _ _ HE2.out) ?_
    rintro e w3 ⟨v3, rfl, o3, b3⟩
    obtain ⟨Aw, cw, hv3, hcw, hmw, s3⟩ := o3.parts
    subst hv3
    have Q3 := Lib.hid s3
    have HB3 := Lib.hid (HB2.out.trans (b3.mono HB2.out.size))
    have HB3s := Lib.hid HB3.out.size
    clear o3 b3 s3 HB2 HE2
    go_wp2_with fail
    go_at_call 45
    refine Calls.mono (copyE w3 w.heap.size l.length c A l (HR.out.below HB3.out (Nat.le_refl _)) HB3.out.size hlen) ?_
    rintro e w4 ⟨g_w4, c_w4, rfl, o_, b_⟩
    have hs4 := b_.size
    have HB4 := Lib.hid (HB3.out.trans (b_.mono HB3.out.size))
    have OX4 := Lib.hid o_
    have hxb := World.ownsRow.lt o_ g_w4 rfl
    have HE4 := Lib.hid (OwnE.ents o_ rfl)
    have Q4 := Lib.hid (Q3.out.below b_ (Nat.le_refl _))
    have HB4s := Lib.hid HB4.out.size
    clear o_ b_ HB3 Q3
    go_wp2_with fail
    go_at_call 35
    refine Calls.mono (HI.out w4 _ _ HE4.out) ?_
    rintro e w5 ⟨v5, rfl, o5, b_⟩
    obtain ⟨Ag, cg, hv5, hcg, hmg, s5⟩ := o5.parts
    subst hv5
    have OG5 := Lib.hid o5
    have hs5 := b_.size
    have HB5 := Lib.hid (HB4.out.trans (b_.mono HB4.out.size))
    have OX5 := Lib.hid (rowBelow OX4.out b_)
    have HE5 := Lib.hid ((HE4.out.below b_ (Nat.le_refl _)).more b_.size)
    have Q5 := Lib.hid (Q4.out.below b_ (by omega))
    clear o5 b_ s5 HB4 OX4 HE4 Q4
    go_wp2_with fail
    go_at_call 53
    (with_reducible refine (eqL w5 w5.heap.size ks.length cg ks.length cw Ag Aw ks ks (ownStrs OG5.out) (Q5.out.more (by omega)) (by omega) (by omega)).mono ?_)
    rw [sameL_self]
    rintro e w6 ⟨rfl, m_⟩
    have b_ := m_.below w5.heap.size
    have hsw6 := b_.size
    have HB6 := Lib.hid (HB5.out.trans (b_.mono HB5.out.size))
    have OX6 := Lib.hid (rowBelow OX5.out b_)
    have HE6 := Lib.hid ((HE5.out.below b_ (Nat.le_refl _)).more b_.size)
    have OG6 := Lib.hid (OG5.out.below b_)
    have Q6 := Lib.hid (Q5.out.below b_ (by omega))
    clear m_ b_ HB5 OX5 HE5 OG5 Q5
    go_wp2_with fail
    go_at_call 45
    refine Calls.mono (copyE w6 w.heap.size l.length c A l (HR.out.below HB6.out (Nat.le_refl _)) HB6.out.size hlen) ?_
    rintro e w7 ⟨g_w7, c_w7, rfl, o_, b_⟩
    have hs7 := b_.size
    have HB7 := Lib.hid (HB6.out.trans (b_.mono HB6.out.size))
    have OX7 := Lib.hid (rowBelow OX6.out b_)
    have HE7 := Lib.hid ((HE6.out.below b_ (Nat.le_refl _)).more b_.size)
    have HN7 := Lib.hid (OwnE.ents o_ rfl)
    have OG7 := Lib.hid (OG6.out.below b_)
    have Q7 := Lib.hid (Q6.out.below b_ (by omega))
    clear o_ b_ HB6 OX6 HE6 OG6 Q6
    go_wp2_with fail
    go_at_call 46
    refine Calls.mono (eqEnS w7 w7.heap.size l.length _ _ _ _ l HE7.out HN7.out (Nat.le_refl _) hn) ?_
    rintro e w8 ⟨rfl, b_⟩
    have hs8 := b_.size
    have HB8 := Lib.hid (HB7.out.trans (b_.mono HB7.out.size))
    have OX8 := Lib.hid (rowBelow OX7.out b_)
    have OG8 := Lib.hid (OG7.out.below b_)
    have Q8 := Lib.hid (Q7.out.below b_ (by omega))
    clear b_ HB7 OX7 HE7 HN7 OG7 Q7
    go_wp2_with fail
    go_at_call 48
    refine Calls.mono (markE w8 w3.heap.size g_w4 l.length _ _ OX8.out hlen) ?_
    rintro e w9 ⟨rfl, -, g9⟩
    have hs9 := g9.size
    have b_ := grown_low g9 (show w3.heap.size ≤ w8.heap.size by omega) hxb.1
    have OG9 := Lib.hid (own_g OG8.out g9 hxb.2)
    have Q9 := Lib.hid (Q8.out.below b_ (Nat.le_refl _))
    have HB9 := Lib.hid (HB8.out.trans (b_.mono HB3s.out))
    clear g9 b_ OX8 OG8 Q8 HB8
    go_wp2_with fail
    go_at_call 53
    (with_reducible refine (eqL w9 w9.heap.size ks.length cg ks.length cw Ag Aw ks ks (ownStrs OG9.out) (Q9.out.more (by omega)) (by omega) (by omega)).mono ?_)
    rw [sameL_self]
    rintro e wa ⟨rfl, m_⟩
    have b_ := m_.below w9.heap.size
    have hswa := b_.size
    have HBa := Lib.hid (HB9.out.trans (b_.mono HB9.out.size))
    have OGa := Lib.hid (OG9.out.below b_)
    have Qa := Lib.hid (Q9.out.below b_ (by omega))
    clear m_ b_ HB9 OG9 Q9
    go_wp2_with fail
    go_at_call 54
    (with_reducible refine (mark1s wa w4.heap.size ks.length cg Ag ks OGa.out (by omega)).mono ?_)
    rintro e wb ⟨rfl, ob, gb⟩
    have b_ := own_low OGa.out gb (show w4.heap.size ≤ wa.heap.size by omega) (Nat.le_refl _)
    have hsb := gb.size
    have OGb := Lib.hid ob
    have Qb := Lib.hid (Qa.out.below b_ (by omega))
    have HBb := Lib.hid (HBa.out.trans (b_.mono HB4s.out))
    clear ob gb b_ OGa Qa HBa
    go_wp2_with fail
    go_at_call 55
    (with_reducible refine (held1s wb wb.heap.size ks.length cg Ag (ownStrs OGb.out) (Nat.le_refl _) (by omega)).mono ?_)
    rintro e wc ⟨rfl, b_⟩
    have hsc := b_.size
    have OGc := Lib.hid (OGb.out.below b_)
    have Qc := Lib.hid (Qb.out.below b_ (by omega))
    have HBc := Lib.hid (HBb.out.trans (b_.mono HBb.out.size))
    clear b_ OGb Qb HBb
    go_wp2_with fail
    go_at_call 45
    refine Calls.mono (copyE wc w.heap.size l.length c A l (HR.out.below HBc.out (Nat.le_refl _)) HBc.out.size hlen) ?_
    rintro e wd ⟨g_wd, c_wd, rfl, o_, b_⟩
    have hsd := b_.size
    have HBd := Lib.hid (HBc.out.trans (b_.mono HBc.out.size))
    have HNd := Lib.hid (OwnE.ents o_ rfl)
    have OGd := Lib.hid (OGc.out.below b_)
    have Qd := Lib.hid (Qc.out.below b_ (by omega))
    clear o_ b_ HBc OGc Qc
    go_wp2_with fail
    go_at_call 35
    refine Calls.mono (HI.out wd _ _ HNd.out) ?_
    rintro e we ⟨ve, rfl, oe, b_⟩
    obtain ⟨Ah, ch, hve, hch, hmh, se⟩ := oe.parts
    subst hve
    have Ph := Lib.hid se
    have hse := b_.size
    have HBe := Lib.hid (HBd.out.trans (b_.mono HBd.out.size))
    have OGe := Lib.hid (OGd.out.below b_)
    have Qe := Lib.hid (Qd.out.below b_ (by omega))
    clear oe b_ se HBd HNd OGd Qd
    go_wp2_with fail
    go_at_call 53
    (with_reducible refine (eqL we we.heap.size ks.length ch ks.length cw Ah Aw ks ks Ph.out (Qe.out.more (by omega)) (by omega) (by omega)).mono ?_)
    rw [sameL_self]
    rintro e wf ⟨rfl, m_⟩
    have b_ := m_.below we.heap.size
    have hswf := b_.size
    have HBf := Lib.hid (HBe.out.trans (b_.mono HBe.out.size))
    have OGf := Lib.hid (OGe.out.below b_)
    clear m_ b_ HBe OGe Qe Ph
    go_wp2_with fail
    go_at_call 55
    (with_reducible refine (held1s wf wf.heap.size ks.length cg Ag (ownStrs OGf.out) (Nat.le_refl _) (by omega)).mono ?_)
    rintro e wg ⟨rfl, b_⟩
    have HBg := Lib.hid (HBf.out.trans (b_.mono HBf.out.size))
    clear b_ OGf HBf
    go_wp2
    go_ret
    exact ⟨rfl, HBg.out⟩

end Go.Proofs.Ytalafgbagbdjlaa.W
