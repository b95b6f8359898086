/-
  Contracts of the functions that draw key lists: short lists of short strings.
-/
import Derived.Test.YtipkhpijanhfiaaDK1
namespace Go.Proofs.Ytipkhpijanhfiaa.W
open Go.RowKit K

/-- a slice of short strings is drawn, at most L of them, in a row of its own from block 'base' on; only the reader and new memory have turned -/
def ListD (L d base g p n c : Nat) (A : Option Addr) (w : World) (e : Ending) (w' : World) : Prop :=
  ∃ (v : Value) (l : List ByteArray) (p' : Nat), l.length ≤ L ∧ Short l ∧ p' ≤ p + d ∧ e = .returned v ∧ Own w' base v l ∧ Rd w' g p' A n c ∧ w.grownBy w' (some g)

theorem Short.put {l : List ByteArray} {s : ByteArray} (h : Short l) (hs : s.size ≤ 6) : Short (put l s) := by
  intro x hx
  rcases mem_put.mp hx with rfl | hx
  · exact hs
  · exact h x hx
theorem Short.nil : Short [] := fun s hs => by cases hs
theorem Short.snoc {l : List ByteArray} {s : ByteArray} (h : Short l) (hs : s.size ≤ 6) : Short (l ++ [s]) := by
  intro x hx
  rcases List.mem_append.mp hx with hx | hx
  · exact h x hx
  · rw [List.mem_singleton.mp hx]; exact hs
theorem Own.grown {w w' : World} {base g : Nat} {v : Value} {l : List ByteArray} (h : Own w base v l) (hg : w.grownBy w' (some g)) (hlt : g < base) : Own w' base v l :=
  World.ownsRow.kept h hg (by
    cases e : v.ownBlock with
    | none => exact .inl rfl
    | some k => exact .inr (fun x => by have := (World.ownsRow.lt h k e).1; injection x; omega))
theorem Own.far {w : World} {base g : Nat} {A : Option Addr} {m cc : Nat} {l : List ByteArray} (h : Own w base (.slice A m cc) l) (hlt : g < base) : ∀ b o, A = some ⟨b, o, none⟩ → b ≠ g := by
  rintro b o rfl
  have := (World.ownsRow.lt h b rfl).1
  omega
theorem Rd.below {w w' : World} {g p n c B : Nat} {A : Option Addr} (h : Rd w g p A n c) (hb : Below B w w') (hlt : g < B) : Rd w' g p A n c :=
  ⟨(hb.block g hlt).trans h.blk, h.len, h.bytes.keep fun b o hbo => hb.cell (p := ⟨b, o, none⟩) (by show b < B; omega)⟩
theorem grown_below {a w w' : World} {r : Option Nat} (h : a.grownBy w r) (hb : Below w.heap.size w w') : a.grownBy w' r :=
  ⟨hb.os.trans h.os, hb.tape.trans h.tape, hb.output.trans h.output, Nat.le_trans h.size hb.size, fun k hk hn => (hb.block k (Nat.lt_of_lt_of_le hk h.size)).trans (h.block k hk hn)⟩

/-- at the loop's head: so many keys are to come -/
def LoopL (w : World) (M g p n c : Nat) (A : Option Addr) (keys nv : Value) (wr : World) : Prop :=
  ∃ (l : List ByteArray) (k q : Nat), nv = .int .i64 (k : Nat) ∧ l.length + k ≤ M ∧ k ≤ M ∧ q + 20 * k ≤ p + 1 + 20 * M ∧ Short l ∧ Own wr w.heap.size keys l ∧ Rd wr g q A n c ∧ w.grownBy wr (some g)

set_option maxHeartbeats 1000000 in
theorem keysD (w : World) (g p n c M : Nat) (A : Option Addr) (hr : Rd w g p A n c) (hp : p ≤ 800000) (hM : M ≤ 100) :
    Calls Try.prog 36 #[.pointer (some ⟨g, 0, none⟩), .int .i64 (M : Nat)] w (ListD M 2100 w.heap.size g p n c A w) := by
  have hglt : g < w.heap.size := (Array.getElem?_eq_some_iff.1 hr.blk).1
  have HR := Lib.hid (hr.alloc (.cells #[] 9))
  clear hr
  go_enter Try.func36, Try.ntmps36
  go_wp2_with fail
  go_at_call 35
  refine (pick _ g p n c A ((M : Int) + 1) HR.out (by omega) (by omega)).mono ?_
  rintro e w1 ⟨x, rfl, hx0, hx1, hr1, hg1⟩
  obtain ⟨X, rfl⟩ := Int.eq_ofNat_of_zero_le hx0
  have hX : X ≤ M := by omega
  have HR1 := Lib.hid hr1
  have HO1 := Lib.hid ((Own.empty w w.heap.size (Nat.le_refl _)).grown hg1 hglt)
  have HG1 := Lib.hid ((World.grownBy_alloc w (.cells #[] 9) (some g)).trans hg1)
  clear hx0 hx1 hr1 hg1
  go_wp2_with fail
  go_loopw [5, 6] (fun keys nv wr => LoopL w M g p n c A keys nv wr) (fun _ nv _ => (intOf nv).toNat)
  case atStart => exact ⟨[], X, p + 1, rfl, by simp; omega, hX, by omega, Short.nil, HO1.out, HR1.out, HG1.out⟩
  case round =>
    obtain ⟨l, k, q, rfl, hl, hkM, hq, hsh, ho, hr2, hg2⟩ := hrel
    have HSH := Lib.hid hsh
    have HR2 := Lib.hid hr2
    have HG2 := Lib.hid hg2
    have HO := Lib.hid ho
    have hsz := hg2.size
    clear hsh ho hr2 hg2 HR1 HO1 HG1
    by_cases hk : 0 < k
    · obtain ⟨V, cc, hv, hc1, hm1, hs1⟩ := HO.out.parts
      subst hv
      go_wp2_with fail
      go_at_call 40
      refine (nearD wr g q n c A wr.heap.size l.length cc V l HR2.out (by omega) hs1 (Nat.le_refl _) (HO.out.far hglt) HSH.out (by omega)).mono ?_
      rintro e w2 ⟨s, q2, hs6, hq2, rfl, hr3, hg3⟩
      have HO3 := Lib.hid (HO.out.grown hg3 hglt)
      have HS3 := Lib.hid (hs1.grown hg3 (Nat.le_refl _) (HO.out.far hglt))
      have HR3 := Lib.hid hr3
      have HG3 := Lib.hid (HG2.out.trans hg3)
      have hsz3 := hg3.size
      clear hs1 hr3 hg3 hc1 hm1
      go_wp2_with fail
      go_at_call 41
      refine (putS w2 wr.heap.size _ _ _ l s HS3.out hsz3 (by omega)).mono ?_
      intro e w3 hput
      obtain ⟨v3, rfl, hb3, ho3⟩ := hput.own HO3.out (by omega)
      have HO4 := Lib.hid ho3
      have HR4 := Lib.hid (HR3.out.below hb3 (Array.getElem?_eq_some_iff.1 HR3.out.blk).1)
      have HG4 := Lib.hid (grown_below HG3.out hb3)
      have hpl := length_put l s
      have HP := Lib.hid (HSH.out.put hs6)
      clear hput hb3 ho3
      go_wp2
      go_roundw
      case rel => exact ⟨put l s, k - 1, q2, by go_num, by omega, by omega, by omega, HP.out, HO4.out, HR4.out, HG4.out⟩
      case measure => simp [intOf]; omega
    · have hk0 : k = 0 := by omega
      subst hk0
      go_wp2
      go_ret
      exact ⟨_, l, q, by omega, HSH.out, by omega, rfl, HO.out, HR2.out, HG2.out⟩

end Go.Proofs.Ytipkhpijanhfiaa.W
