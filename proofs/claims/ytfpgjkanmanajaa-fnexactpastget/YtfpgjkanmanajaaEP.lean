/-
  What the laws of runs draw: entries, keys and times.
-/
import Derived.Test.YtfpgjkanmanajaaEO
import Derived.Test.YtfpgjkanmanajaaJ3
import Derived.Test.YtfpgjkanmanajaaEE
import Derived.OwnWalk
namespace Go.Proofs.Ytfpgjkanmanajaa.W
open Go.RowKit K R

theorem below_g {w a b : World} {g : Nat} (h : Below w.heap.size w a) (hg : a.grownBy b (some g)) (hlt : w.heap.size ≤ g) : Below w.heap.size w b :=
  h.grown hg h.size (fun k e => by injection e; omega)
/-- entries that are there: few, with short keys -/
structure Few (w : World) (A : Option Addr) (c : Nat) (l : List En) : Prop where
  len : l.length ≤ 45
  short : ∀ e ∈ l, e.key.size ≤ 6
  ents : Ents w w.heap.size A l.length l
  cap : l.length ≤ c
  most : c ≤ maxLen
theorem Few.fit {w : World} {A : Option Addr} {c : Nat} {l : List En} (h : Few w A c l) : ∀ e ∈ l, e.key.size ≤ maxLen := fun e he => by have := h.short e he; unfold maxLen; omega
theorem Few.below {w w' : World} {A : Option Addr} {c : Nat} {l : List En} (h : Few w A c l) (hb : Below w.heap.size w w') : Few w' A c l := ⟨h.len, h.short, (h.ents.below hb (Nat.le_refl _)).more hb.size, h.cap, h.most⟩
theorem few_of {w : World} {base : Nat} {v : Value} {l : List En} (h : OwnE w base v l) (hl : l.length ≤ 45) (hs : ∀ e ∈ l, e.key.size ≤ 6) : ∃ A c, v = .slice A l.length c ∧ Few w A c l := by
  obtain ⟨A, c, hv, h1, h2, h3⟩ := ownE_parts h
  exact ⟨A, c, hv, ⟨hl, hs, h3, h1, h2⟩⟩
theorem short_keys {l : List En} (h : ∀ e ∈ l, e.key.size ≤ 6) : Short (keysL l) := fun s hs => by
  obtain ⟨e, he, rfl⟩ := mem_keysL.mp hs
  exact h e he
theorem keysL_len (l : List En) : (keysL l).length ≤ l.length := keysUp_len _ _

/-- a run, a key and a time -/
def AtD (w : World) (e : Ending) (w' : World) : Prop :=
  ∃ (A : Option Addr) (c : Nat) (l : List En) (s : ByteArray) (t : Nat), s.size ≤ 6 ∧ t ≤ 70 ∧ e = .returned (.tuple #[.slice A l.length c, .string s, .int .i64 (t : Nat)]) ∧ Few w' A c l ∧ Below w.heap.size w w'

set_option maxHeartbeats 1000000 in
theorem drawRunAt (w : World) (A : Option Addr) (n c : Nat) (hb : Bytes w w.heap.size A n) (hnc : n ≤ c) (hc : c ≤ maxLen) :
    Calls Try.prog 28 #[.slice A n c] w (AtD w) := by
  go_enter Try.func28, Try.ntmps28
  go_wp2_with fail
  go_at_call 59
  refine Calls.mono (openR w A n c hb hnc hc) ?_
  rintro e w1 ⟨A1, n1, c1, rfl, hr1, hb1⟩
  have hg1 : w.heap.size < w1.heap.size := (Array.getElem?_eq_some_iff.1 hr1.blk).1
  have HB1 := Lib.hid hb1
  have HR1 := Lib.hid hr1
  clear hb hr1 hb1
  go_wp2_with fail
  go_at_call 60
  refine Calls.mono (offDr w1 w.heap.size 0 n1 c1 A1 HR1.out (by omega)) ?_
  rintro e w2 ⟨v, l, p2, hll, hsh, hp2, rfl, ho2, hr2, hg2⟩
  obtain ⟨A2, c2, hv, hc2, hm2, he2⟩ := ownE_parts ho2
  subst hv
  have HSH := Lib.hid hsh
  have HB2 := Lib.hid (below_g HB1.out hg2 (Nat.le_refl _))
  have HO2 := Lib.hid ho2
  have HR2 := Lib.hid hr2
  have HE2 := Lib.hid he2
  have hs2 := hg2.size
  clear hsh ho2 hr2 hg2 he2 HB1 HR1
  go_wp2_with fail
  go_at_call 68
  refine Calls.mono (keysOfS w2 w2.heap.size l.length c2 A2 l HE2.out (Nat.le_refl _) (by omega)) ?_
  rintro e w3 ⟨kv, rfl, ho3, hb3⟩
  obtain ⟨A3, c3, hkv, -, -, hs3⟩ := ho3.parts
  subst hkv
  have hkl := keysL_len l
  have HK3 := Lib.hid hs3
  have HF3 := Lib.hid (ho3.far (g := w.heap.size) (by omega))
  have HO3 := Lib.hid (rowBelow HO2.out hb3)
  have HR3 := Lib.hid (HR2.out.below hb3 (by omega))
  have HB3 := Lib.hid (HB2.out.trans (hb3.mono HB2.out.size))
  have hs3' := hb3.size
  clear ho3 hb3 hs3 HO2 HR2 HB2 HE2
  go_wp2_with fail
  go_at_call 67
  refine Calls.mono (nearD w3 w.heap.size p2 n1 c1 A1 w3.heap.size _ c3 A3 (keysL l) HR3.out (by omega) HK3.out (Nat.le_refl _) HF3.out (short_keys HSH.out) (by omega)) ?_
  rintro e w4 ⟨s, p4, hs6, hp4, rfl, hr4, hg4⟩
  have HO4 := Lib.hid (rowGrown HO3.out hg4 hg1)
  have HR4 := Lib.hid hr4
  have HB4 := Lib.hid (below_g HB3.out hg4 (Nat.le_refl _))
  clear hr4 hg4 HO3 HR3 HB3 HK3 HF3
  go_wp2_with fail
  go_at_call 61
  refine Calls.mono (pick w4 w.heap.size p4 n1 c1 A1 70 HR4.out (by omega) (by omega)) ?_
  rintro e w5 ⟨x, rfl, hx0, hx1, hr5, hg5⟩
  obtain ⟨X, rfl⟩ := Int.eq_ofNat_of_zero_le hx0
  obtain ⟨A5, c5, hv5, HF5⟩ := few_of (rowGrown HO4.out hg5 hg1) (by omega) HSH.out
  injection hv5 with q1 q2 q3
  subst q1 q3
  have HF := Lib.hid HF5
  have HB5 := Lib.hid (below_g HB4.out hg5 (Nat.le_refl _))
  clear hr5 hg5 HO4 HR4 HB4 HF5
  go_wp2
  go_ret3
  exact ⟨A2, c2, l, s, X, hs6, by omega, rfl, HF.out, HB5.out⟩

end Go.Proofs.Ytfpgjkanmanajaa.W
