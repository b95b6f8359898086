/-
  Contracts of the reader of codes, out of which the laws draw their inputs: opening it, and drawing a number below a bound. What is drawn is left open but for its range.
-/
import Derived.Test.YtipkhpijanhfiaaProg
import Derived.WalkKit
import Derived.WalkLawsBesides
import Derived.WalkSpells
import Derived.Lib.Hide
import Derived.Handy
import Derived.Deep.QuietTactic
import Derived.BigQuiet
namespace Go.Proofs.Ytipkhpijanhfiaa.W
open Go.RowKit

/-- the first n bytes of a slice can be read, below block B -/
def Bytes (w : World) (B : Nat) (A : Option Addr) (n : Nat) : Prop :=
  ∀ i, i < n → ∃ b off z : Nat, A = some ⟨b, off, none⟩ ∧ b < B ∧ z ≤ 255 ∧ w.cell? ⟨b, off + i, none⟩ = some (.int .u8 (z : Nat))

theorem Bytes.keep {w w' : World} {B n : Nat} {A : Option Addr} (h : Bytes w B A n) (hk : ∀ b o, b < B → w'.cell? ⟨b, o, none⟩ = w.cell? ⟨b, o, none⟩) : Bytes w' B A n := by
  intro i hi
  obtain ⟨b, off, z, hA, hb, hz, hc⟩ := h i hi
  exact ⟨b, off, z, hA, hb, hz, (hk _ _ hb).trans hc⟩
theorem Bytes.two {w : World} {B n : Nat} {A : Option Addr} (h : Bytes w B A n) {i j : Nat} (hi : i < n) (hj : j < n) :
    ∃ b off z y : Nat, A = some ⟨b, off, none⟩ ∧ b < B ∧ z ≤ 255 ∧ y ≤ 255 ∧ w.cell? ⟨b, off + i, none⟩ = some (.int .u8 (z : Nat)) ∧ w.cell? ⟨b, off + j, none⟩ = some (.int .u8 (y : Nat)) := by
  obtain ⟨b, off, z, hA, hb, hz, hc⟩ := h i hi
  obtain ⟨b', off', y, hA', hb', hy, hc'⟩ := h j hj
  rw [hA] at hA'
  simp at hA'
  obtain ⟨rfl, rfl⟩ := hA'
  exact ⟨b, off, z, y, hA, hb, hz, hy, hc, hc'⟩

/-- block g holds a reader at place p of n bytes -/
structure Rd (w : World) (g p : Nat) (A : Option Addr) (n c : Nat) : Prop where
  blk : w.heap[g]? = some (.cells #[.slice A n c, .int .i64 (p : Nat)] 55)
  len : n ≤ 2000
  bytes : Bytes w g A n

theorem Rd.grown {w w' : World} {g p n c : Nat} {A : Option Addr} {r : Option Nat} (h : Rd w g p A n c) (hg : w.grownBy w' r) (hr : ∀ k, r = some k → g < k) : Rd w' g p A n c := by
  have hlt : g < w.heap.size := (Array.getElem?_eq_some_iff.1 h.blk).1
  refine ⟨?_, h.len, h.bytes.keep fun b o hb => ?_⟩
  · rw [hg.block g hlt (fun e => by have := hr _ e.symm; omega)]; exact h.blk
  · exact World.cell?_of_block (hg.block b (by omega) (fun e => by have := hr _ e.symm; omega))
theorem Rd.cell0 {w : World} {g p n c : Nat} {A : Option Addr} (h : Rd w g p A n c) : w.cell? ⟨g, 0, none⟩ = some (.slice A n c) := by rw [cell_of_row _ _ _ _ _ _ h.blk]; rfl
theorem Rd.cell1 {w : World} {g p n c : Nat} {A : Option Addr} (h : Rd w g p A n c) : w.cell? ⟨g, 1, none⟩ = some (.int .i64 (p : Nat)) := by rw [cell_of_row _ _ _ _ _ _ h.blk]; rfl
theorem Rd.free {w : World} {g p n c : Nat} {A : Option Addr} (h : Rd w g p A n c) (i : Nat) : w.frozen? ⟨g, i, none⟩ = false := frozen_of_row _ _ _ _ _ h.blk

/-- the reader has moved on by one -/
def next (w : World) (g p : Nat) : World := w.setCell ⟨g, 1, none⟩ (.int .i64 ((p : Int) + 1))
theorem Rd.step {w : World} {g p n c : Nat} {A : Option Addr} (h : Rd w g p A n c) : Rd (next w g p) g (p + 1) A n c := by
  refine ⟨?_, h.len, h.bytes.keep fun b o hb => ?_⟩
  · unfold next
    rw [heap_setCell_same _ _ _ _ _ _ h.blk]; rfl
  · exact World.cell?_of_block (heap_setCell_other _ _ _ _ (by simp; omega))
theorem Rd.drewN {w : World} {g p n c : Nat} {A : Option Addr} (h : Rd w g p A n c) (k : Nat) : Rd (w.drewN k) g p A n c := ⟨h.blk, h.len, h.bytes⟩
theorem next_grown (w : World) (g p : Nat) : w.grownBy (next w g p) (some g) :=
  ⟨rfl, rfl, rfl, by simp [next, World.setCell], fun k _ hk => heap_setCell_other _ _ _ _ (fun e => hk (by rw [e]))⟩
theorem grown_drewN {a w : World} {r : Option Nat} (h : a.grownBy w r) (n : Nat) : a.grownBy (w.drewN n) r := ⟨h.os, h.tape, h.output, h.size, h.block⟩

/-- what a draw below m hands back: a number in range; the reader is one place on, nothing else has turned -/
def Picked (g p n c : Nat) (A : Option Addr) (m : Int) (w : World) (e : Ending) (w' : World) : Prop :=
  ∃ x : Int, e = .returned (.int .i64 x) ∧ 0 ≤ x ∧ (x < m ∨ x = 0 ∧ m < 1) ∧ Rd w' g (p + 1) A n c ∧ w.grownBy w' (some g)

theorem picked_mk {g p n c : Nat} {A : Option Addr} {m : Int} {w : World} (h : Rd w g p A n c) (x : Int) (h0 : 0 ≤ x) (h1 : x < m ∨ x = 0 ∧ m < 1) (k : Nat) : Picked g p n c A m w (.returned (.int .i64 x)) ((next w g p).drewN k) :=
  ⟨x, rfl, h0, h1, h.step.drewN k, grown_drewN (next_grown w g p) k⟩
theorem picked_mk0 {g p n c : Nat} {A : Option Addr} {m : Int} {w : World} (h : Rd w g p A n c) (x : Int) (h0 : 0 ≤ x) (h1 : x < m ∨ x = 0 ∧ m < 1) : Picked g p n c A m w (.returned (.int .i64 x)) (next w g p) :=
  ⟨x, rfl, h0, h1, h.step, next_grown w g p⟩

theorem i64_nat (a : Nat) (h : a ≤ 9223372036854775807) : ∀ x : Int, x = (a : Int) → IntKind.i64.wrap x = (a : Int) := by
  rintro x rfl; exact IntWalk.i64_in _ ⟨by omega, by omega⟩

theorem xor_of (s : Nat) (h : s ≤ 1000000000) : ∃ X : Nat, bits .xor .i64 (s : Int) ((s : Int) / 64) = (X : Int) ∧ X ≤ 9223372036854775807 := by
  have hx : s ^^^ (s / 64) < 2 ^ 63 := Nat.xor_lt_two_pow (by omega) (by omega)
  refine ⟨s ^^^ (s / 64), ?_, by omega⟩
  have hs : (BitVec.ofInt 64 (s : Int)).toNat = s := by
    rw [BitVec.ofInt_natCast, BitVec.toNat_ofNat]; exact Nat.mod_eq_of_lt (by omega)
  have hd : (BitVec.ofInt 64 ((s : Int) / 64)).toNat = s / 64 := by
    have e : ((s : Int) / 64) = ((s / 64 : Nat) : Int) := by simp
    rw [e, BitVec.ofInt_natCast, BitVec.toNat_ofNat]; exact Nat.mod_eq_of_lt (by omega)
  show IntKind.i64.wrap ((BitVec.ofInt 64 (s : Int) ^^^ BitVec.ofInt 64 ((s : Int) / 64)).toNat : Int) = _
  rw [BitVec.toNat_xor, hs, hd, IntKind.wrap_i64]
  omega

/-- the numbers that a far draw reckons, step by step -/
structure Far (p n z y i1 i2 s1 s2 s3 s4 s5 q s6 s7 a7 b7 : Nat) : Prop where
  e1 : (p : Int).tmod n = i1
  e2 : IntKind.i64.wrap ((p : Int) * 7) = a7
  e3 : IntKind.i64.wrap ((a7 : Int) + 3) = b7
  e4 : (b7 : Int).tmod n = i2
  e5 : IntKind.i64.wrap ((z : Int) * 131) = s1
  e6 : IntKind.i64.wrap ((y : Int) * 1117) = s2
  e7 : IntKind.i64.wrap ((s1 : Int) + s2) = s3
  e8 : IntKind.i64.wrap ((p : Int) * 29) = s4
  e9 : IntKind.i64.wrap ((s3 : Int) + s4) = s5
  e10 : (p : Int) / n = q
  e10a : (p : Int).tdiv n = q
  e10b : IntKind.i64.wrap (q : Int) = q
  e11 : IntKind.i64.wrap ((q : Int) * 53) = s6
  e12 : IntKind.i64.wrap ((s5 : Int) + s6) = s7
  lt1 : i1 < n
  lt2 : i2 < n
  le7 : s7 ≤ 1000000000

theorem far_mk (p n z y : Nat) (hp : p ≤ 1000000) (hn : 0 < n) (hz : z ≤ 255) (hy : y ≤ 255) :
    Far p n z y (p % n) ((p * 7 + 3) % n) (z * 131) (y * 1117) (z * 131 + y * 1117) (p * 29) (z * 131 + y * 1117 + p * 29) (p / n) (p / n * 53) (z * 131 + y * 1117 + p * 29 + p / n * 53) (p * 7) (p * 7 + 3) := by
  have hq : p / n ≤ p := Nat.div_le_self _ _
  refine ⟨?_, i64_nat _ (by omega) _ (by simp), i64_nat _ (by omega) _ (by simp), ?_, i64_nat _ (by omega) _ (by simp), i64_nat _ (by omega) _ (by simp), i64_nat _ (by omega) _ (by simp), i64_nat _ (by omega) _ (by simp),
    i64_nat _ (by omega) _ (by simp), by simp, ?_, i64_nat _ (by omega) _ rfl, i64_nat _ (by omega) _ (by simp), i64_nat _ (by omega) _ (by simp), Nat.mod_lt _ hn, Nat.mod_lt _ hn, by omega⟩
  · rw [Int.tmod_eq_emod_of_nonneg (by omega)]; simp
  · rw [Int.tmod_eq_emod_of_nonneg (by omega)]; simp
  · rw [Int.tdiv_eq_ediv_of_nonneg (by omega)]; simp

set_option maxHeartbeats 1000000 in
set_option maxRecDepth 100000 in
theorem pick_far (w : World) (g p n c : Nat) (A : Option Addr) (m : Int) (h : Rd w g p A n c) (hp : p ≤ 1000000) (hm : 1 ≤ m) (hm2 : m ≤ 9223372036854775807) (hn : 0 < n) (hf : n ≤ p) :
    Calls Try.prog 35 #[.pointer (some ⟨g, 0, none⟩), .int .i64 m] w (Picked g p n c A m w) := by
  obtain ⟨b, off, z, y, rfl, hbg, hz, hy, hcz, hcy⟩ := h.step.bytes.two (Nat.mod_lt p hn) (Nat.mod_lt (p * 7 + 3) hn)
  have hfar := far_mk p n z y hp hn hz hy
  generalize p % n = i1 at *
  generalize (p * 7 + 3) % n = i2 at *
  generalize z * 131 = s1 at *
  generalize y * 1117 = s2 at *
  generalize s1 + s2 = s3 at *
  generalize p * 29 = s4 at *
  generalize s3 + s4 = s5 at *
  generalize p / n = q at *
  generalize q * 53 = s6 at *
  generalize s5 + s6 = s7 at *
  generalize p * 7 + 3 = b7 at *
  generalize p * 7 = a7 at *
  have hc0 := h.cell0
  have hc1 := h.cell1
  have hfz := h.free 1
  have hlen := h.len
  have hd0 := h.step.cell0
  have H := Lib.hid h
  have HF := Lib.hid hfar
  have HZ := Lib.hid hcz
  have HY := Lib.hid hcy
  have HD := Lib.hid hd0
  clear h hfar hcz hcy hd0
  have hm' : ¬ m < 1 := by omega
  have hn' : ((n : Int) == 0) = false := by simp; omega
  go_enter Try.func35, Try.ntmps35
  go_wp2
  change Code.wp _ _ _ _ (next w g p)
  have hcz := HZ.out
  have hcy := HY.out
  have hd0 := HD.out
  obtain ⟨e1, e2, e3, e4, e5, e6, e7, e8, e9, e10, e10a, e10b, e11, e12, l1, l2, l7⟩ := HF.out
  have r1 : (0 : Int) ≤ (i1 : Int) := by omega
  have r2 : (i1 : Int) < (n : Int) := by omega
  have r3 : (0 : Int) ≤ (i2 : Int) := by omega
  have r4 : (i2 : Int) < (n : Int) := by omega
  clear HF HZ HY HD hc0 hc1 hfz hn' hm' hf
  generalize hW : next w g p = W at *
  have HW := Lib.hid hW
  clear hW
  go_quiet (fail)
  clear e1 e2 e3 e4 e5 e6 e7 e8 e9 e10 e10a e10b e11 e12 hcz hcy hd0
  obtain ⟨X, hX, hX1⟩ := xor_of s7 l7
  go_wp2
  go_ret
  have hW := HW.out
  subst hW
  have k1 := Int.emod_nonneg (X : Int) (show m ≠ 0 by omega)
  have k2 := Int.emod_lt_of_pos (X : Int) (show 0 < m by omega)
  exact picked_mk H.out _ k1 (.inl k2) _

set_option maxHeartbeats 400000 in
set_option maxRecDepth 100000 in
theorem pick_near (w : World) (g p n c : Nat) (A : Option Addr) (m : Int) (h : Rd w g p A n c) (hp : p ≤ 1000000) (hm : 1 ≤ m) (hm2 : m ≤ 9223372036854775807) (hf : p < n) :
    Calls Try.prog 35 #[.pointer (some ⟨g, 0, none⟩), .int .i64 m] w (Picked g p n c A m w) := by
  obtain ⟨b, off, z, rfl, hbg, hz, hcz⟩ := h.step.bytes p hf
  have hcz' : w.cell? ⟨b, off + p, none⟩ = some (.int .u8 (z : Nat)) := by
    rw [← hcz]; exact (World.cell?_of_block (heap_setCell_other _ _ _ _ (by simp; omega))).symm
  have hc0 := h.cell0
  have hc1 := h.cell1
  have hfz := h.free 1
  have hlen := h.len
  have H := Lib.hid h
  clear h hcz
  have hm' : ¬ m < 1 := by omega
  have hn' : ((n : Int) == 0) = false := by simp; omega
  have hbg' : ¬ b = g := by omega
  have hbg2 : ¬ g = b := by omega
  go_enter Try.func35, Try.ntmps35
  go_wp2
  go_ret
  have k1 := Int.emod_nonneg (z : Int) (show m ≠ 0 by omega)
  have k2 := Int.emod_lt_of_pos (z : Int) (show 0 < m by omega)
  exact picked_mk0 H.out _ k1 (.inl k2)

set_option maxHeartbeats 400000 in
set_option maxRecDepth 100000 in
theorem pick_low (w : World) (g p n c : Nat) (A : Option Addr) (m : Int) (h : Rd w g p A n c) (hp : p ≤ 1000000) (hm : m < 1) :
    Calls Try.prog 35 #[.pointer (some ⟨g, 0, none⟩), .int .i64 m] w (Picked g p n c A m w) := by
  have hc0 := h.cell0
  have hc1 := h.cell1
  have hfz := h.free 1
  have H := Lib.hid h
  clear h
  go_enter Try.func35, Try.ntmps35
  go_wp2
  go_ret
  exact picked_mk0 H.out 0 (Int.le_refl _) (.inr ⟨rfl, hm⟩)

set_option maxHeartbeats 400000 in
set_option maxRecDepth 100000 in
theorem pick_none (w : World) (g p c : Nat) (A : Option Addr) (m : Int) (h : Rd w g p A 0 c) (hp : p ≤ 1000000) (hm : 1 ≤ m) :
    Calls Try.prog 35 #[.pointer (some ⟨g, 0, none⟩), .int .i64 m] w (Picked g p 0 c A m w) := by
  have hc0 := h.cell0
  have hc1 := h.cell1
  have hfz := h.free 1
  have H := Lib.hid h
  clear h
  have hm' : ¬ m < 1 := by omega
  go_enter Try.func35, Try.ntmps35
  go_wp2
  go_ret
  exact picked_mk0 H.out 0 (Int.le_refl _) (.inl (by omega))

/-- a draw below m -/
theorem pick (w : World) (g p n c : Nat) (A : Option Addr) (m : Int) (h : Rd w g p A n c) (hp : p ≤ 1000000) (hm2 : m ≤ 9223372036854775807) :
    Calls Try.prog 35 #[.pointer (some ⟨g, 0, none⟩), .int .i64 m] w (Picked g p n c A m w) := by
  by_cases hm : m < 1
  · exact pick_low w g p n c A m h hp hm
  · by_cases hn : n = 0
    · subst hn; exact pick_none w g p c A m h hp (by omega)
    · by_cases hf : p < n
      · exact pick_near w g p n c A m h hp (by omega) hm2 hf
      · exact pick_far w g p n c A m h hp (by omega) hm2 (by omega) (by omega)

end Go.Proofs.Ytipkhpijanhfiaa.W
