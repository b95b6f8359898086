/-
  The exact laws of keys, as walks over the contracts of the program's functions.
-/
import Derived.Test.YtipkhpijanhfiaaL2
import Derived.Test.YtipkhpijanhfiaaS9
namespace Go.Proofs.Ytipkhpijanhfiaa.W
open Go.RowKit K

theorem own_len {w : World} {base n c : Nat} {A : Option Addr} {l : List ByteArray} (h : Own w base (.slice A n c) l) : n = l.length := by
  obtain ⟨A', c', hv, _⟩ := h.parts
  injection hv
theorem marked_below {w w' : World} {base : Nat} {v : Value} {l : List ByteArray} (h : Own w base v l) (hg : w.grownBy w' v.ownBlock) (hb : base ≤ w.heap.size) : Below base w w' :=
  (Below.refl base w).grown hg hb fun k hk => (World.ownsRow.lt h k hk).1
theorem own_apart {w w' : World} {b2 : Nat} {v1 v2 : Value} {l2 : List ByteArray} (h2 : Own w b2 v2 l2) (hg : w.grownBy w' v1.ownBlock) (hlt : ∀ k, v1.ownBlock = some k → k < b2) : Own w' b2 v2 l2 :=
  World.ownsRow.kept h2 hg (by
    cases e : v2.ownBlock with
    | none => exact .inl rfl
    | some k =>
      refine .inr fun x => ?_
      have h3 := (World.ownsRow.lt h2 k e).1
      have h4 := hlt k x.symm
      omega)

set_option maxHeartbeats 400000 in
theorem exactKeyOk (H : ImplKeys) (s : ByteArray) (w : World) (hs : s.size ≤ maxLen) :
    Calls Try.prog 8 #[.string s] w fun e w' => e = .returned (.bool true) ∧ Below w.heap.size w w' := by
  by_cases hbig : (1048576 : Int) < (s.size : Int)
  · go_enter Try.func8, Try.ntmps8
    go_wp2
    go_ret
    exact ⟨rfl, Below.refl _ _⟩
  · go_enter Try.func8, Try.ntmps8
    go_wp2_with (first | (go_at_call 28; refine (keyS _ _ hs).mono ?_; rintro e w' ⟨rfl, rfl⟩) | (go_at_call 21; refine (H.key _ _ hs).mono ?_; rintro e w1 ⟨rfl, m1⟩))
    go_ret
    exact ⟨rfl, m1.below _⟩

set_option maxHeartbeats 400000 in
theorem exactKeyBegins (H : ImplKeys) (k h : ByteArray) (w : World) (hk : k.size ≤ maxLen) (hh : h.size ≤ maxLen) :
    Calls Try.prog 11 #[.string k, .string h] w fun e w' => e = .returned (.bool true) ∧ Below w.heap.size w w' := by
  by_cases hbig : (1048576 : Int) < (k.size : Int)
  · go_enter Try.func11, Try.ntmps11
    go_wp2
    go_ret
    exact ⟨rfl, Below.refl _ _⟩
  · by_cases hbig2 : (1048576 : Int) < (h.size : Int)
    · go_enter Try.func11, Try.ntmps11
      go_wp2
      go_ret
      exact ⟨rfl, Below.refl _ _⟩
    · go_enter Try.func11, Try.ntmps11
      go_wp2_with (first | (go_at_call 24; refine (begS _ _ _).mono ?_; rintro e w' ⟨rfl, rfl⟩) | (go_at_call 23; refine (H.beg _ _ _ hk hh).mono ?_; rintro e w1 ⟨rfl, b1⟩))
      go_ret
      exact ⟨rfl, b1⟩

set_option maxHeartbeats 1000000 in
theorem exactKeysOk (H : ImplKeys) (w : World) (A : Option Addr) (n c : Nat) (l : List ByteArray) (hs : Strs w w.heap.size A n l) (hnc : n ≤ c) (hc : c ≤ maxLen) (hf : Fit l) :
    Calls Try.prog 9 #[.slice A n c] w fun e w' => e = .returned (.bool true) ∧ Below w.heap.size w w' := by
  have hlen := hs.len
  subst hlen
  have S0 := Lib.hid hs
  have FL := Lib.hid hf
  clear hs hf
  go_enter Try.func9, Try.ntmps9
  go_wp2_with fail
  go_at_call 29
  refine (sizeS w w.heap.size l.length c 1048576 A l S0.out (by omega) FL.out (by omega)).mono ?_
  rintro e w' ⟨x, rfl, hx0, hx1, hx2, rfl⟩
  by_cases hneg : x < 0
  · clear hx2
    go_wp2
    go_ret
    exact ⟨rfl, Below.refl _ _⟩
  · have hlen := (hx2 (by omega)).1
    clear hx2
    go_wp2_with fail
    go_at_call 30
    (with_reducible refine (copyS w w.heap.size l.length c A l S0.out (Nat.le_refl _) (by omega)).mono ?_)
    rintro e w1 ⟨v1, rfl, o1, b1⟩
    obtain ⟨A1, c1, hv1, hc1, hm1, s1⟩ := o1.parts
    subst hv1
    have T1 := Lib.hid s1
    have B1 := Lib.hid b1
    have hsz1 := b1.size
    clear o1 b1 s1
    go_wp2_with fail
    go_at_call 15
    (with_reducible refine (keysS w1 w1.heap.size l.length c1 A1 l T1.out (by omega) FL.out).mono ?_)
    rintro e w2 ⟨rfl, m2⟩
    have B2 := Lib.hid (B1.out.trans ((m2.below w1.heap.size).mono hsz1))
    have S2 := Lib.hid (S0.out.below B2.out (Nat.le_refl _))
    have hsz2 := B2.out.size
    clear m2 B1 T1
    go_wp2_with fail
    go_at_call 30
    (with_reducible refine (copyS w2 w.heap.size l.length c A l S2.out hsz2 (by omega)).mono ?_)
    rintro e w3 ⟨v3, rfl, o3, b3⟩
    obtain ⟨A3, c3, hv3, hc3, hm3, s3⟩ := o3.parts
    subst hv3
    have X3 := Lib.hid s3
    have B3 := Lib.hid (B2.out.trans (b3.mono hsz2))
    have S3 := Lib.hid (S0.out.below B3.out (Nat.le_refl _))
    have hsz3 := B3.out.size
    clear o3 b3 s3 B2 S2
    go_wp2_with fail
    go_at_call 14
    (with_reducible refine (H.keys w3 l.length c3 A3 l X3.out hc3 hm3 FL.out).mono ?_)
    rintro e w4 ⟨rfl, b4⟩
    have X4 := Lib.hid ((X3.out.below b4 (Nat.le_refl _)).more b4.size)
    have B4 := Lib.hid (B3.out.trans (b4.mono hsz3))
    have S4 := Lib.hid (S0.out.below B4.out (Nat.le_refl _))
    have hsz4 := B4.out.size
    clear b4 B3 S3 X3
    go_wp2_with fail
    go_at_call 30
    (with_reducible refine (copyS w4 w.heap.size l.length c A l S4.out hsz4 (by omega)).mono ?_)
    rintro e w5 ⟨v5, rfl, o5, b5⟩
    obtain ⟨A5, c5, hv5, hc5, hm5, s5⟩ := o5.parts
    subst hv5
    have Y5 := Lib.hid s5
    have X5 := Lib.hid ((X4.out.below b5 (Nat.le_refl _)).more b5.size)
    have B5 := Lib.hid (B4.out.trans (b5.mono hsz4))
    have hsz5 := B5.out.size
    clear o5 b5 s5 B4 S4 X4
    go_wp2_with fail
    go_at_call 31
    (with_reducible refine (eqL w5 w5.heap.size l.length c3 l.length c5 A3 A5 l l X5.out Y5.out (by omega) (by omega)).mono ?_)
    rw [sameL_self]
    rintro e w6 ⟨rfl, m6⟩
    have B6 := Lib.hid (B5.out.trans ((m6.below w5.heap.size).mono hsz5))
    clear m6
    go_wp2
    go_ret
    exact ⟨rfl, B6.out⟩

set_option maxHeartbeats 1000000 in
theorem exactKeyFirst (H : ImplKeys) (w : World) (A : Option Addr) (n c : Nat) (l : List ByteArray) (f : ByteArray) (hs : Strs w w.heap.size A n l) (hnc : n ≤ c) (hc : c ≤ maxLen) (hf : Fit l) (hff : f.size ≤ maxLen) :
    Calls Try.prog 12 #[.slice A n c, .string f] w fun e w' => e = .returned (.bool true) ∧ Below w.heap.size w w' := by
  have hlen := hs.len
  subst hlen
  have S0 := Lib.hid hs
  have FL := Lib.hid hf
  clear hs hf
  by_cases hbig : (1048576 : Int) < (f.size : Int)
  · go_enter Try.func12, Try.ntmps12
    go_wp2
    go_ret
    exact ⟨rfl, Below.refl _ _⟩
  · go_enter Try.func12, Try.ntmps12
    go_wp2_with fail
    go_at_call 29
    refine (sizeS w w.heap.size l.length c 1048576 A l S0.out (by omega) FL.out (by omega)).mono ?_
    rintro e w' ⟨x, rfl, hx0, hx1, hx2, rfl⟩
    by_cases hneg : x < 0
    · clear hx2
      go_wp2
      go_ret
      exact ⟨rfl, Below.refl _ _⟩
    · have hlen := (hx2 (by omega)).1
      clear hx2
      go_wp2_with fail
      go_at_call 30
      (with_reducible refine (copyS w w.heap.size l.length c A l S0.out (Nat.le_refl _) (by omega)).mono ?_)
      rintro e w1 ⟨v1, rfl, o1, b1⟩
      obtain ⟨A1, c1, hv1, hc1, hm1, s1⟩ := o1.parts
      subst hv1
      have T1 := Lib.hid s1
      have B1 := Lib.hid b1
      have hsz1 := b1.size
      clear o1 b1 s1
      go_wp2_with fail
      go_at_call 26
      (with_reducible refine (firstS w1 w1.heap.size l.length c1 A1 l f T1.out (by omega) FL.out).mono ?_)
      rintro e w2 ⟨rfl, m2⟩
      have B2 := Lib.hid (B1.out.trans ((m2.below w1.heap.size).mono hsz1))
      have S2 := Lib.hid (S0.out.below B2.out (Nat.le_refl _))
      have hsz2 := B2.out.size
      clear m2 B1 T1
      go_wp2_with fail
      go_at_call 30
      (with_reducible refine (copyS w2 w.heap.size l.length c A l S2.out hsz2 (by omega)).mono ?_)
      rintro e w3 ⟨v3, rfl, o3, b3⟩
      obtain ⟨A3, c3, hv3, hc3, hm3, s3⟩ := o3.parts
      subst hv3
      have X3 := Lib.hid s3
      have B3 := Lib.hid (B2.out.trans (b3.mono hsz2))
      have hsz3 := B3.out.size
      clear o3 b3 s3 B2 S2
      go_wp2_with fail
      go_at_call 27
      (with_reducible refine (H.first w3 l.length c3 A3 l f X3.out hc3 hm3 FL.out hff).mono ?_)
      rintro e w4 ⟨rfl, b4⟩
      have X4 := Lib.hid ((X3.out.below b4 (Nat.le_refl _)).more b4.size)
      have B4 := Lib.hid (B3.out.trans (b4.mono hsz3))
      have S4 := Lib.hid (S0.out.below B4.out (Nat.le_refl _))
      have hsz4 := B4.out.size
      clear b4 B3 X3
      go_wp2_with fail
      go_at_call 30
      (with_reducible refine (copyS w4 w.heap.size l.length c A l S4.out hsz4 (by omega)).mono ?_)
      rintro e w5 ⟨v5, rfl, o5, b5⟩
      obtain ⟨A5, c5, hv5, hc5, hm5, s5⟩ := o5.parts
      subst hv5
      have Y5 := Lib.hid s5
      have X5 := Lib.hid ((X4.out.below b5 (Nat.le_refl _)).more b5.size)
      have B5 := Lib.hid (B4.out.trans (b5.mono hsz4))
      have hsz5 := B5.out.size
      clear o5 b5 s5 B4 S4 X4
      go_wp2_with fail
      go_at_call 31
      (with_reducible refine (eqL w5 w5.heap.size l.length c3 l.length c5 A3 A5 l l X5.out Y5.out (by omega) (by omega)).mono ?_)
      rw [sameL_self]
      rintro e w6 ⟨rfl, m6⟩
      have B6 := Lib.hid (B5.out.trans ((m6.below w5.heap.size).mono hsz5))
      clear m6
      go_wp2
      go_ret
      exact ⟨rfl, B6.out⟩

end Go.Proofs.Ytipkhpijanhfiaa.W
