/-
  The exact law of sorting, as a walk over the contracts of the program's functions.
-/
import Derived.Test.YtipkhpijanhfiaaL5
namespace Go.Proofs.Ytipkhpijanhfiaa.W
open Go.RowKit K

theorem markS1 (w : World) (base n c : Nat) (A : Option Addr) (l : List ByteArray) (ho : Own w base (.slice A n c) l) (h1 : n ≤ 1073741823) :
    Calls Try.prog 32 #[.slice A n c, .int .i64 1] w (Marked base 1 n (.slice A n c) w) := markS w base n c 1 A l ho (by omega) (by omega)
theorem heldS1 (w : World) (B n c : Nat) (A : Option Addr) (hr : Strs w B A n (marks 1 n)) (hB : B ≤ w.heap.size) (h1 : n ≤ 1073741823) :
    Calls Try.prog 33 #[.slice A n c, .int .i64 1] w fun e w' => e = .returned (.int .i64 ((1 + n : Nat) : Int)) ∧ Below w.heap.size w w' := heldS w B n c 1 A hr hB (by omega) (by omega)

set_option maxHeartbeats 2000000 in
theorem exactKeysSort (H : ImplKeys) (w : World) (A : Option Addr) (n c : Nat) (l : List ByteArray) (hs : Strs w w.heap.size A n l) (hnc : n ≤ c) (hc : c ≤ maxLen) (hf : Fit l) :
    Calls Try.prog 10 #[.slice A n c] w fun e w' => e = .returned (.bool true) ∧ Below w.heap.size w w' := by
  have hlen := hs.len
  subst hlen
  have S0 := Lib.hid hs
  have FL := Lib.hid hf
  have hls := sort_len l
  clear hs hf
  go_enter Try.func10, Try.ntmps10
  go_wp2_with fail
  go_at_call 29
  refine (sizeS w w.heap.size l.length c 1048576 A l S0.out (by omega) FL.out (by omega)).mono ?_
  rintro e w' ⟨x, rfl, hx0, hx1, hx2, rfl⟩
  by_cases hneg : x < 0
  · clear hx2
    go_wp2
    go_ret
    exact ⟨rfl, Below.refl _ _⟩
  · have hlen := (hx2 (by omega)).1
    clear hx2
    -- what the model answers
    go_wp2_with fail
    go_at_call 30
    (with_reducible refine (copyS w w.heap.size l.length c A l S0.out (Nat.le_refl _) (by omega)).mono ?_)
    rintro e w1 ⟨v1, rfl, o1, b1⟩
    obtain ⟨A1, c1, hv1, hc1, hm1, s1⟩ := o1.parts
    subst hv1
    have T1 := Lib.hid s1
    have B1 := Lib.hid b1
    have hsz1 := b1.size
    clear o1 b1 s1
    go_wp2_with fail
    go_at_call 19
    (with_reducible refine (sortS w1 w1.heap.size l.length c1 A1 l T1.out (Nat.le_refl _) (by omega) FL.out).mono ?_)
    rintro e w2 ⟨v2, rfl, o2, b2⟩
    obtain ⟨A2, c2, hv2, hc2, hm2, s2⟩ := o2.parts
    subst hv2
    have W2 := Lib.hid s2
    have B2 := Lib.hid (B1.out.trans (b2.mono hsz1))
    have S2 := Lib.hid (S0.out.below B2.out (Nat.le_refl _))
    have hsz2 := B2.out.size
    clear o2 b2 s2 B1 T1
    -- the argument's copy
    go_wp2_with fail
    go_at_call 30
    (with_reducible refine (copyS w2 w.heap.size l.length c A l S2.out hsz2 (by omega)).mono ?_)
    rintro e w3 ⟨v3, rfl, o3, b3⟩
    obtain ⟨A3, c3, hv3, hc3, hm3, s3⟩ := o3.parts
    subst hv3
    have OX3 := Lib.hid o3
    have W3 := Lib.hid (W2.out.below b3 (Nat.le_refl _))
    have B3 := Lib.hid (B2.out.trans (b3.mono hsz2))
    have hsz3 := B3.out.size
    have h23 := b3.size
    clear o3 b3 s3 B2 S2 W2
    -- the program's answer
    go_wp2_with fail
    go_at_call 17
    (with_reducible refine (H.sort w3 l.length c3 A3 l OX3.out.strs.1 hc3 hm3 (by omega) FL.out).mono ?_)
    rintro e w4 ⟨v4, rfl, o4, b4⟩
    obtain ⟨A4, c4, hv4, hc4, hm4, s4⟩ := o4.parts
    subst hv4
    have OG4 := Lib.hid o4
    have HXB := Lib.hid (fun k hk => (World.ownsRow.lt OX3.out k hk).2)
    have OX4 := Lib.hid (OX3.out.below b4)
    have W4 := Lib.hid (W3.out.below b4 h23)
    have B4 := Lib.hid (B3.out.trans (b4.mono hsz3))
    have hsz4 := B4.out.size
    have h34 := b4.size
    clear o4 b4 s4 B3 W3 OX3
    go_wp2_with fail
    go_at_call 31
    (with_reducible refine (eqL w4 w4.heap.size (sort l).length c4 (sort l).length c2 A4 A2 (sort l) (sort l) OG4.out.strs.1 (W4.out.more (by omega)) (by omega) (by omega)).mono ?_)
    rw [sameL_self]
    rintro e w5 ⟨rfl, m5⟩
    have b5 := m5.below w4.heap.size
    have OG5 := Lib.hid (OG4.out.below b5)
    have OX5 := Lib.hid (OX4.out.below b5)
    have W5 := Lib.hid (m5.strs W4.out)
    have B5 := Lib.hid (B4.out.trans (b5.mono hsz4))
    have S5 := Lib.hid (S0.out.below B5.out (Nat.le_refl _))
    have hsz5 := B5.out.size
    have h35 : w3.heap.size ≤ w5.heap.size := by have := b5.size; omega
    clear m5 b5 OG4 OX4 W4 B4
    -- it writes into no argument
    go_wp2_with fail
    go_at_call 30
    (with_reducible refine (copyS w5 w.heap.size l.length c A l S5.out hsz5 (by omega)).mono ?_)
    rintro e w6 ⟨v6, rfl, o6, b6⟩
    obtain ⟨A6, c6, hv6, hc6, hm6, s6⟩ := o6.parts
    subst hv6
    have Y6 := Lib.hid s6
    have OG6 := Lib.hid (OG5.out.below b6)
    have OX6 := Lib.hid (OX5.out.below b6)
    have W6 := Lib.hid (W5.out.below b6 (by omega))
    have B6 := Lib.hid (B5.out.trans (b6.mono hsz5))
    have hsz6 := B6.out.size
    have h36 : w3.heap.size ≤ w6.heap.size := by have := b6.size; omega
    clear o6 b6 s6 OG5 OX5 W5 B5 S5
    go_wp2_with fail
    go_at_call 31
    (with_reducible refine (eqL w6 w6.heap.size l.length c3 l.length c6 A3 A6 l l OX6.out.strs.1 Y6.out (by omega) (by omega)).mono ?_)
    rw [sameL_self]
    rintro e w7 ⟨rfl, m7⟩
    have b7 := m7.below w6.heap.size
    have OG7 := Lib.hid (OG6.out.below b7)
    have OX7 := Lib.hid (OX6.out.below b7)
    have W7 := Lib.hid (m7.strs W6.out)
    have B7 := Lib.hid (B6.out.trans (b7.mono hsz6))
    have hsz7 := B7.out.size
    have h37 : w3.heap.size ≤ w7.heap.size := by have := b7.size; omega
    clear m7 b7 OG6 OX6 W6 B6 Y6
    -- the argument is marked: the answer stays
    go_wp2_with fail
    go_at_call 32
    (with_reducible refine (markS1 w7 w2.heap.size l.length c3 A3 l OX7.out (by omega)).mono ?_)
    rintro e w8 ⟨rfl, o8, g8⟩
    have b8 := marked_below OX7.out g8 (by omega)
    have OG8 := Lib.hid (own_apart OG7.out g8 HXB.out)
    have W8 := Lib.hid (W7.out.below b8 (Nat.le_refl _))
    have B8 := Lib.hid (B7.out.trans (b8.mono hsz2))
    have hsz8 := B8.out.size
    have h38 : w3.heap.size ≤ w8.heap.size := by have := b8.size; omega
    clear o8 g8 b8 OG7 OX7 W7 B7 HXB
    go_wp2_with fail
    go_at_call 31
    (with_reducible refine (eqL w8 w8.heap.size (sort l).length c4 (sort l).length c2 A4 A2 (sort l) (sort l) OG8.out.strs.1 (W8.out.more (by omega)) (by omega) (by omega)).mono ?_)
    rw [sameL_self]
    rintro e w9 ⟨rfl, m9⟩
    have b9 := m9.below w8.heap.size
    have OG9 := Lib.hid (OG8.out.below b9)
    have W9 := Lib.hid (m9.strs W8.out)
    have B9 := Lib.hid (B8.out.trans (b9.mono hsz8))
    have hsz9 := B9.out.size
    have h39 : w3.heap.size ≤ w9.heap.size := by have := b9.size; omega
    clear m9 b9 OG8 W8 B8
    -- the answer is marked, and holds the marks
    go_wp2_with fail
    go_at_call 32
    (with_reducible refine (markS1 w9 w3.heap.size (sort l).length c4 A4 (sort l) OG9.out (by omega)).mono ?_)
    rintro e wa ⟨rfl, oa, ga⟩
    have ba := marked_below OG9.out ga h39
    have OGa := Lib.hid oa
    have Wa := Lib.hid (W9.out.below ba h23)
    have Ba := Lib.hid (B9.out.trans (ba.mono hsz3))
    have hsza := Ba.out.size
    have h3a : w3.heap.size ≤ wa.heap.size := by have := ba.size; omega
    clear oa ga ba OG9 W9 B9
    go_wp2_with fail
    go_at_call 33
    (with_reducible refine (heldS1 wa wa.heap.size (sort l).length c4 A4 OGa.out.strs.1 (Nat.le_refl _) (by omega)).mono ?_)
    rintro e wb ⟨rfl, bb⟩
    have OGb := Lib.hid (OGa.out.below bb)
    have Wb := Lib.hid (Wa.out.below bb (by omega))
    have Bb := Lib.hid (Ba.out.trans (bb.mono hsza))
    have Sb := Lib.hid (S0.out.below Bb.out (Nat.le_refl _))
    have hszb := Bb.out.size
    have h3b : w3.heap.size ≤ wb.heap.size := by have := bb.size; omega
    clear bb OGa Wa Ba
    -- behind another call too
    go_wp2_with fail
    go_at_call 30
    (with_reducible refine (copyS wb w.heap.size l.length c A l Sb.out hszb (by omega)).mono ?_)
    rintro e wc ⟨vc, rfl, oc, bc⟩
    obtain ⟨Ac, cc, hvc, hcc, hmc, sc⟩ := oc.parts
    subst hvc
    have Zc := Lib.hid sc
    have OGc := Lib.hid (OGb.out.below bc)
    have Wc := Lib.hid (Wb.out.below bc (by omega))
    have Bc := Lib.hid (Bb.out.trans (bc.mono hszb))
    have hszc := Bc.out.size
    have h3c : w3.heap.size ≤ wc.heap.size := by have := bc.size; omega
    clear oc bc sc OGb Wb Bb Sb
    go_wp2_with fail
    go_at_call 17
    (with_reducible refine (H.sort wc l.length cc Ac l Zc.out hcc hmc (by omega) FL.out).mono ?_)
    rintro e wd ⟨vd, rfl, od, bd⟩
    obtain ⟨Ad, cd, hvd, hcd, hmd, sd⟩ := od.parts
    subst hvd
    have Vd := Lib.hid sd
    have OGd := Lib.hid (OGc.out.below bd)
    have Wd := Lib.hid (Wc.out.below bd (by omega))
    have Bd := Lib.hid (Bc.out.trans (bd.mono hszc))
    have hszd := Bd.out.size
    have h3d : w3.heap.size ≤ wd.heap.size := by have := bd.size; omega
    clear od bd sd OGc Wc Bc Zc
    go_wp2_with fail
    go_at_call 31
    (with_reducible refine (eqL wd wd.heap.size (sort l).length cd (sort l).length c2 Ad A2 (sort l) (sort l) Vd.out (Wd.out.more (by omega)) (by omega) (by omega)).mono ?_)
    rw [sameL_self]
    rintro e we ⟨rfl, me⟩
    have be := me.below wd.heap.size
    have OGe := Lib.hid (OGd.out.below be)
    have Be := Lib.hid (Bd.out.trans (be.mono hszd))
    have hsze := Be.out.size
    clear me be OGd Wd Bd Vd
    go_wp2_with fail
    go_at_call 33
    (with_reducible refine (heldS1 we we.heap.size (sort l).length c4 A4 OGe.out.strs.1 (Nat.le_refl _) (by omega)).mono ?_)
    rintro e wf ⟨rfl, bf⟩
    have Bf := Lib.hid (Be.out.trans (bf.mono hsze))
    clear bf OGe Be
    go_wp2
    go_ret
    exact ⟨rfl, Bf.out⟩

end Go.Proofs.Ytipkhpijanhfiaa.W
