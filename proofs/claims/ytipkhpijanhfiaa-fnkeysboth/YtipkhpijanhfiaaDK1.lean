/-
  Contracts of the functions that draw keys and key lists: short strings, short lists. What is drawn is left open but for its length.
-/
import Derived.Test.YtipkhpijanhfiaaD2
import Derived.Test.YtipkhpijanhfiaaS6
namespace Go.Proofs.Ytipkhpijanhfiaa.W
open Go.RowKit K

/-- a string of at most L bytes is drawn, in at most d draws -/
def StrD (L d g p n c : Nat) (A : Option Addr) (w : World) (e : Ending) (w' : World) : Prop :=
  ∃ (s : ByteArray) (p' : Nat), s.size ≤ L ∧ p' ≤ p + d ∧ e = .returned (.string s) ∧ Rd w' g p' A n c ∧ w.grownBy w' (some g)

theorem lits_at (w : World) (ss : List ByteArray) (t : TypeId) (P : ByteArray → Prop) (hP : ∀ s ∈ ss, P s) :
    ∀ i, i < ss.length → ∃ s, (w.alloc (.cells (ss.map Value.string).toArray t)).cell? ⟨w.heap.size, i, none⟩ = some (.string s) ∧ P s := by
  intro i hi
  refine ⟨ss[i], ?_, hP _ (List.getElem_mem hi)⟩
  rw [cell_of_row _ _ _ _ _ _ (heap_alloc_new w _)]
  simp [hi]

/-- at the loop's head: so many letters are to come -/
def LoopK (w : World) (g p n c : Nat) (A : Option Addr) (out nv : Value) (wr : World) : Prop :=
  ∃ (s : ByteArray) (k q : Nat), out = .string s ∧ nv = .int .i64 (k : Nat) ∧ s.size + k ≤ 5 ∧ q + k ≤ p + 6 ∧ Rd wr g q A n c ∧ w.grownBy wr (some g)

set_option maxHeartbeats 1000000 in
theorem keyD (w : World) (g p n c : Nat) (A : Option Addr) (hr : Rd w g p A n c) (hp : p ≤ 950000) :
    Calls Try.prog 42 #[.pointer (some ⟨g, 0, none⟩)] w (StrD 5 10 g p n c A w) := by
  have hp1 : p ≤ 1000000 := by omega
  go_enter Try.func42, Try.ntmps42
  go_wp2_with fail
  go_at_call 35
  refine (pick w g p n c A 6 hr hp1 (by omega)).mono ?_
  rintro e w1 ⟨x, rfl, hx0, hx1, hr1, hg1⟩
  obtain ⟨X, rfl⟩ := Int.eq_ofNat_of_zero_le hx0
  have hX : X < 6 := by omega
  have HR1 := Lib.hid hr1
  have HG1 := Lib.hid hg1
  clear hr hx1 hr1 hg1
  go_wp2_with fail
  go_loopw [3, 4] (fun out nv wr => LoopK w g p n c A out nv wr) (fun _ nv _ => (intOf nv).toNat)
  case atStart => exact ⟨_, X, p + 1, rfl, rfl, by show 0 + X ≤ 5; omega, by omega, HR1.out, HG1.out⟩
  case round =>
    obtain ⟨s, k, q, rfl, rfl, hs, hq, hr2, hg2⟩ := hrel
    have HR2 := Lib.hid hr2
    have HG2 := Lib.hid hg2
    have hglt : g < wr.heap.size := (Array.getElem?_eq_some_iff.1 hr2.blk).1
    clear hr2 hg2 HR1 HG1
    by_cases hk : 0 < k
    · go_wp2_with fail
      go_at_call 50
      refine (ofR (fun s => s.size ≤ 1) _ g q n c wr.heap.size 5 A (HR2.out.alloc _) (by omega) (by omega) (by omega) (by omega) (lits_at wr [⟨#[97]⟩, ⟨#[98]⟩, ⟨#[97]⟩, ⟨#[99]⟩, ⟨#[100]⟩] _ (fun s => s.size ≤ 1) (by decide)) (by simp)).mono ?_
      rintro e w2 ⟨t, ht, rfl, hr3, hg3⟩
      have HG3 := Lib.hid (HG2.out.trans ((World.grownBy_alloc _ _ _).trans hg3))
      have HR3 := Lib.hid hr3
      clear hr3 hg3
      go_wp2
      go_roundw
      case rel => exact ⟨s ++ t, k - 1, q + 1, rfl, by go_num, by simp only [ByteArray.size_append]; omega, by omega, HR3.out, HG3.out⟩
      case measure => simp [intOf]; omega
    · have hk0 : k = 0 := by omega
      subst hk0
      go_wp2
      go_ret
      exact ⟨s, q, by omega, by omega, rfl, HR2.out, HG2.out⟩

theorem Strs.grown {w w' : World} {B n g : Nat} {A : Option Addr} {l : List ByteArray} (h : Strs w B A n l) (hg : w.grownBy w' (some g)) (hB : B ≤ w.heap.size) (hne : ∀ b o, A = some ⟨b, o, none⟩ → b ≠ g) : Strs w' B A n l :=
  ⟨h.len, fun i hi => by
    obtain ⟨b, off, hA, hb, hc⟩ := h.cell i hi
    exact ⟨b, off, hA, hb, (World.cell?_of_block (hg.block b (by omega) (fun e => hne b off hA (by injection e)))).trans hc⟩⟩

/-- each string is short -/
def Short (l : List ByteArray) : Prop := ∀ s ∈ l, s.size ≤ 6
theorem Short.get {l : List ByteArray} (h : Short l) {k : Nat} (hk : k < l.length) : l[k].size ≤ 6 := h _ (List.getElem_mem hk)
theorem Short.fit {l : List ByteArray} (h : Short l) : Fit l := fun s hs => by have := h s hs; unfold maxLen; omega

set_option maxHeartbeats 1000000 in
theorem nearD (w : World) (g p n c : Nat) (A : Option Addr) (B m cc : Nat) (V : Option Addr) (l : List ByteArray) (hr : Rd w g p A n c) (hp : p ≤ 900000) (hs : Strs w B V m l) (hB : B ≤ w.heap.size)
    (hne : ∀ b o, V = some ⟨b, o, none⟩ → b ≠ g) (hsh : Short l) (hm : m ≤ 1000000) :
    Calls Try.prog 40 #[.pointer (some ⟨g, 0, none⟩), .slice V m cc] w (StrD 6 20 g p n c A w) := by
  have hlen := hs.len
  subst hlen
  by_cases h0 : l.length = 0
  · have h0' : ((l.length : Int) == 0) = true := by simp [h0]
    clear h0 hne hs
    go_enter Try.func40, Try.ntmps40
    go_wp2_with fail
    go_at_call 42
    refine (keyD w g p n c A hr (by omega)).mono ?_
    rintro e w1 ⟨s, p', h1, h2, rfl, h3, h4⟩
    go_wp2
    go_ret
    exact ⟨s, p', by omega, by omega, rfl, h3, h4⟩
  · have h0' : ((l.length : Int) == 0) = false := by rw [beq_eq_false_iff_ne]; omega
    have hpos : 0 < l.length := by omega
    have HS := Lib.hid hs
    have HNE := Lib.hid hne
    have HSH := Lib.hid hsh
    clear h0 hs hne hsh
    go_enter Try.func40, Try.ntmps40
    go_wp2_with fail
    go_at_call 35
    refine (pick w g p n c A 4 hr (by omega) (by omega)).mono ?_
    rintro e w1 ⟨x, rfl, hx0, hx1, hr1, hg1⟩
    obtain ⟨X, rfl⟩ := Int.eq_ofNat_of_zero_le hx0
    have HR1 := Lib.hid hr1
    have HG1 := Lib.hid hg1
    clear hx0 hx1 hr1 hg1 hr
    by_cases hX : X = 0
    · subst hX
      go_wp2_with fail
      go_at_call 42
      refine (keyD w1 g (p + 1) n c A HR1.out (by omega)).mono ?_
      rintro e w2 ⟨s, p', h1, h2, rfl, h3, h4⟩
      have H4 := Lib.hid (HG1.out.trans h4)
      have H3 := Lib.hid h3
      clear h3 h4
      go_wp2
      go_ret
      exact ⟨s, p', by omega, by omega, rfl, H3.out, H4.out⟩
    · have hX' : ((X : Int) == 0) = false := by simp; omega
      go_wp2_with fail
      go_at_call 35
      refine (pick w1 g (p + 1) n c A (l.length : Int) HR1.out (by omega) (by omega)).mono ?_
      rintro e w2 ⟨y, rfl, hy0, hy1, hr2, hg2⟩
      obtain ⟨Y, rfl⟩ := Int.eq_ofNat_of_zero_le hy0
      have hY : Y < l.length := by omega
      have HG2 := Lib.hid (HG1.out.trans hg2)
      have HR2 := Lib.hid hr2
      clear hy0 hy1 hr2 hg2
      obtain ⟨b, off, hV, hb, hc⟩ := (HS.out.grown HG2.out hB HNE.out).cell Y hY
      subst hV
      have hk6 := HSH.out.get hY
      obtain ⟨kk, hkk⟩ : ∃ kk, kk = l[Y] := ⟨_, rfl⟩
      rw [← hkk] at hc hk6
      clear hkk
      go_wp2_with fail
      go_at_call 35
      refine (pick w2 g (p + 1 + 1) n c A 4 HR2.out (by omega) (by omega)).mono ?_
      rintro e w3 ⟨z, rfl, hz0, hz1, hr3, hg3⟩
      obtain ⟨Z, rfl⟩ := Int.eq_ofNat_of_zero_le hz0
      have HG3 := Lib.hid (HG2.out.trans hg3)
      have HR3 := Lib.hid hr3
      clear hz0 hz1 hr3 hg3 hc
      by_cases hZ0 : Z = 0
      · subst hZ0
        go_wp2_with fail
        go_at_call 35
        refine (pick w3 g (p + 1 + 1 + 1) n c A ((kk.size : Int) + 1) HR3.out (by omega) (by omega)).mono ?_
        rintro e w4 ⟨u, rfl, hu0, hu1, hr4, hg4⟩
        obtain ⟨U, rfl⟩ := Int.eq_ofNat_of_zero_le hu0
        have hU : U ≤ kk.size := by omega
        have HG4 := Lib.hid (HG3.out.trans hg4)
        have HR4 := Lib.hid hr4
        clear hu0 hu1 hr4 hg4
        go_wp2
        go_ret
        exact ⟨kk.extract 0 U, _, by simp; omega, by omega, rfl, HR4.out, HG4.out⟩
      · have hZ0' : ((Z : Int) == 0) = false := by simp; omega
        by_cases hZ1 : Z = 1
        · subst hZ1
          by_cases hk5 : kk.size < 5
          · have hk5' : (kk.size : Int) < 5 := by omega
            have hglt : g < w3.heap.size := (Array.getElem?_eq_some_iff.1 HR3.out.blk).1
            go_wp2_with fail
            go_at_call 50
            refine (ofR (fun s => s.size ≤ 1) _ g (p + 1 + 1 + 1) n c w3.heap.size 3 A (HR3.out.alloc _) (by omega) (by omega) (by omega) (by omega) (lits_at w3 [⟨#[97]⟩, ⟨#[98]⟩, ⟨#[100]⟩] _ (fun s => s.size ≤ 1) (by decide)) (by simp)).mono ?_
            rintro e w4 ⟨t, ht, rfl, hr4, hg4⟩
            have HG4 := Lib.hid (HG3.out.trans ((World.grownBy_alloc _ _ _).trans hg4))
            have HR4 := Lib.hid hr4
            clear hr4 hg4
            go_wp2
            go_ret
            exact ⟨kk ++ t, _, by simp only [ByteArray.size_append]; omega, by omega, rfl, HR4.out, HG4.out⟩
          · have hk5' : ¬ (kk.size : Int) < 5 := by omega
            go_wp2
            go_ret
            exact ⟨kk, _, hk6, by omega, rfl, HR3.out, HG3.out⟩
        · have hZ1' : ((Z : Int) == 1) = false := by simp; omega
          go_wp2
          go_ret
          exact ⟨kk, _, hk6, by omega, rfl, HR3.out, HG3.out⟩

end Go.Proofs.Ytipkhpijanhfiaa.W
