/-
  Contracts of the reader of codes, out of which the laws draw their inputs: opening it, and drawing a number below a bound. What is drawn is left open but for its range.
  Contracts of the other drawing functions: opening a reader on a slice of bytes, drawing one of some strings, and a string many times. What is drawn is left open but for its length.
  Contracts of the functions that draw keys and key lists: short strings, short lists. What is drawn is left open but for its length.
  Contracts of the functions that draw key lists: short lists of short strings.
  The contract of the function that draws texts out of order: a short list of short strings.
  Appending a slice of strings to one of the call's own, and the contracts of the drawing functions of the key laws.
  Contracts of the exact laws' helpers for slices of strings: measuring, copying, marking, and looking for the marks. Each at every slice that can be read.
  Contracts of the exact laws' marks: the text of a number, marking a slice, and looking for the marks.
  The contract of the exact laws' look for marks: a slice that holds the marks holds them.
  What a law is told of a slice of strings that came in: it can be read, and each string is one that Go can hold.
-/
import Derived.Test.YtklphdomjhliaaaDoorProg
import Derived.Test.YtklphdomjhliaaaDoorJ2
import Derived.WalkKit
import Derived.WalkLawsBesides
import Derived.WalkSpells
import Derived.Lib.Hide
import Derived.Handy
import Derived.Deep.QuietTactic
import Derived.BigQuiet
import Derived.Deep.RegionWith
namespace Go.Proofs.YtklphdomjhliaaaDoor.W
open Go.RowKit

/-- the first n bytes of a slice can be read, below block B -/
def Bytes (w : World) (B : Nat) (A : Option Addr) (n : Nat) : Prop :=
  ∀ i, i < n → ∃ b off z : Nat, A = some ⟨b, off, none⟩ ∧ b < B ∧ z ≤ 255 ∧ w.cell? ⟨b, off + i, none⟩ = some (.int .u8 (z : Nat))

theorem Bytes.keep {w w' : World} {B n : Nat} {A : Option Addr} (h : Bytes w B A n) (hk : ∀ b o, b < B → w'.cell? ⟨b, o, none⟩ = w.cell? ⟨b, o, none⟩) : Bytes w' B A n := by
  intro i hi
  obtain ⟨b, off, z, hA, hb, hz, hc⟩ := h i hi
  exact ⟨b, off, z, hA, hb, hz, (hk _ _ hb).trans hc⟩
theorem Bytes.two {w : World} {B n : Nat} {A : Option Addr} (h : Bytes w B A n) {i j : Nat} (hi : i < n) (hj : j < n) :
    ∃ b off z y : Nat, A = some ⟨b, off, none⟩ ∧ b < B ∧ z ≤ 255 ∧ y ≤ 255 ∧ w.cell? ⟨b, off + i, none⟩ = some (.int .u8 (z : Nat)) ∧ w.cell? ⟨b, off + j, none⟩ = some (.int .u8 (y : Nat)) := by
  obtain ⟨b, off, z, hA, hb, hz, hc⟩ := h i hi
  obtain ⟨b', off', y, hA', hb', hy, hc'⟩ := h j hj
  rw [hA] at hA'
  simp at hA'
  obtain ⟨rfl, rfl⟩ := hA'
  exact ⟨b, off, z, y, hA, hb, hz, hy, hc, hc'⟩

/-- block g holds a reader at place p of n bytes -/
structure Rd (w : World) (g p : Nat) (A : Option Addr) (n c : Nat) : Prop where
  blk : w.heap[g]? = some (.cells #[.slice A n c, .int .i64 (p : Nat)] 59)
  len : n ≤ 2000
  bytes : Bytes w g A n

theorem Rd.grown {w w' : World} {g p n c : Nat} {A : Option Addr} {r : Option Nat} (h : Rd w g p A n c) (hg : w.grownBy w' r) (hr : ∀ k, r = some k → g < k) : Rd w' g p A n c := by
  have hlt : g < w.heap.size := (Array.getElem?_eq_some_iff.1 h.blk).1
  refine ⟨?_, h.len, h.bytes.keep fun b o hb => ?_⟩
  · rw [hg.block g hlt (fun e => by have := hr _ e.symm; omega)]; exact h.blk
  · exact World.cell?_of_block (hg.block b (by omega) (fun e => by have := hr _ e.symm; omega))
theorem Rd.cell0 {w : World} {g p n c : Nat} {A : Option Addr} (h : Rd w g p A n c) : w.cell? ⟨g, 0, none⟩ = some (.slice A n c) := by rw [cell_of_row _ _ _ _ _ _ h.blk]; rfl
theorem Rd.cell1 {w : World} {g p n c : Nat} {A : Option Addr} (h : Rd w g p A n c) : w.cell? ⟨g, 1, none⟩ = some (.int .i64 (p : Nat)) := by rw [cell_of_row _ _ _ _ _ _ h.blk]; rfl
theorem Rd.free {w : World} {g p n c : Nat} {A : Option Addr} (h : Rd w g p A n c) (i : Nat) : w.frozen? ⟨g, i, none⟩ = false := frozen_of_row _ _ _ _ _ h.blk

/-- the reader has moved on by one -/
def next (w : World) (g p : Nat) : World := w.setCell ⟨g, 1, none⟩ (.int .i64 ((p : Int) + 1))
theorem Rd.step {w : World} {g p n c : Nat} {A : Option Addr} (h : Rd w g p A n c) : Rd (next w g p) g (p + 1) A n c := by
  refine ⟨?_, h.len, h.bytes.keep fun b o hb => ?_⟩
  · unfold next
    rw [heap_setCell_same _ _ _ _ _ _ h.blk]; rfl
  · exact World.cell?_of_block (heap_setCell_other _ _ _ _ (by simp; omega))
theorem Rd.drewN {w : World} {g p n c : Nat} {A : Option Addr} (h : Rd w g p A n c) (k : Nat) : Rd (w.drewN k) g p A n c := ⟨h.blk, h.len, h.bytes⟩
theorem next_grown (w : World) (g p : Nat) : w.grownBy (next w g p) (some g) :=
  ⟨rfl, rfl, rfl, by simp [next, World.setCell], fun k _ hk => heap_setCell_other _ _ _ _ (fun e => hk (by rw [e]))⟩
theorem grown_drewN {a w : World} {r : Option Nat} (h : a.grownBy w r) (n : Nat) : a.grownBy (w.drewN n) r := ⟨h.os, h.tape, h.output, h.size, h.block⟩

/-- what a draw below m hands back: a number in range; the reader is one place on, nothing else has turned -/
def Picked (g p n c : Nat) (A : Option Addr) (m : Int) (w : World) (e : Ending) (w' : World) : Prop :=
  ∃ x : Int, e = .returned (.int .i64 x) ∧ 0 ≤ x ∧ (x < m ∨ x = 0 ∧ m < 1) ∧ Rd w' g (p + 1) A n c ∧ w.grownBy w' (some g)

theorem picked_mk {g p n c : Nat} {A : Option Addr} {m : Int} {w : World} (h : Rd w g p A n c) (x : Int) (h0 : 0 ≤ x) (h1 : x < m ∨ x = 0 ∧ m < 1) (k : Nat) : Picked g p n c A m w (.returned (.int .i64 x)) ((next w g p).drewN k) :=
  ⟨x, rfl, h0, h1, h.step.drewN k, grown_drewN (next_grown w g p) k⟩
theorem picked_mk0 {g p n c : Nat} {A : Option Addr} {m : Int} {w : World} (h : Rd w g p A n c) (x : Int) (h0 : 0 ≤ x) (h1 : x < m ∨ x = 0 ∧ m < 1) : Picked g p n c A m w (.returned (.int .i64 x)) (next w g p) :=
  ⟨x, rfl, h0, h1, h.step, next_grown w g p⟩

theorem i64_nat (a : Nat) (h : a ≤ 9223372036854775807) : ∀ x : Int, x = (a : Int) → IntKind.i64.wrap x = (a : Int) := by
  rintro x rfl; exact IntWalk.i64_in _ ⟨by omega, by omega⟩

theorem xor_of (s : Nat) (h : s ≤ 1000000000) : ∃ X : Nat, bits .xor .i64 (s : Int) ((s : Int) / 64) = (X : Int) ∧ X ≤ 9223372036854775807 := by
  have hx : s ^^^ (s / 64) < 2 ^ 63 := Nat.xor_lt_two_pow (by omega) (by omega)
  refine ⟨s ^^^ (s / 64), ?_, by omega⟩
  have hs : (BitVec.ofInt 64 (s : Int)).toNat = s := by
    rw [BitVec.ofInt_natCast, BitVec.toNat_ofNat]; exact Nat.mod_eq_of_lt (by omega)
  have hd : (BitVec.ofInt 64 ((s : Int) / 64)).toNat = s / 64 := by
    have e : ((s : Int) / 64) = ((s / 64 : Nat) : Int) := by simp
    rw [e, BitVec.ofInt_natCast, BitVec.toNat_ofNat]; exact Nat.mod_eq_of_lt (by omega)
  show IntKind.i64.wrap ((BitVec.ofInt 64 (s : Int) ^^^ BitVec.ofInt 64 ((s : Int) / 64)).toNat : Int) = _
  rw [BitVec.toNat_xor, hs, hd, IntKind.wrap_i64]
  omega

/-- the numbers that a far draw reckons, step by step -/
structure PickF (p n z y i1 i2 s1 s2 s3 s4 s5 q s6 s7 a7 b7 : Nat) : Prop where
  e1 : (p : Int).tmod n = i1
  e2 : IntKind.i64.wrap ((p : Int) * 7) = a7
  e3 : IntKind.i64.wrap ((a7 : Int) + 3) = b7
  e4 : (b7 : Int).tmod n = i2
  e5 : IntKind.i64.wrap ((z : Int) * 131) = s1
  e6 : IntKind.i64.wrap ((y : Int) * 1117) = s2
  e7 : IntKind.i64.wrap ((s1 : Int) + s2) = s3
  e8 : IntKind.i64.wrap ((p : Int) * 29) = s4
  e9 : IntKind.i64.wrap ((s3 : Int) + s4) = s5
  e10 : (p : Int) / n = q
  e10a : (p : Int).tdiv n = q
  e10b : IntKind.i64.wrap (q : Int) = q
  e11 : IntKind.i64.wrap ((q : Int) * 53) = s6
  e12 : IntKind.i64.wrap ((s5 : Int) + s6) = s7
  lt1 : i1 < n
  lt2 : i2 < n
  le7 : s7 ≤ 1000000000

theorem pickF_mk (p n z y : Nat) (hp : p ≤ 1000000) (hn : 0 < n) (hz : z ≤ 255) (hy : y ≤ 255) :
    PickF p n z y (p % n) ((p * 7 + 3) % n) (z * 131) (y * 1117) (z * 131 + y * 1117) (p * 29) (z * 131 + y * 1117 + p * 29) (p / n) (p / n * 53) (z * 131 + y * 1117 + p * 29 + p / n * 53) (p * 7) (p * 7 + 3) := by
  have hq : p / n ≤ p := Nat.div_le_self _ _
  refine ⟨?_, i64_nat _ (by omega) _ (by simp), i64_nat _ (by omega) _ (by simp), ?_, i64_nat _ (by omega) _ (by simp), i64_nat _ (by omega) _ (by simp), i64_nat _ (by omega) _ (by simp), i64_nat _ (by omega) _ (by simp),
    i64_nat _ (by omega) _ (by simp), by simp, ?_, i64_nat _ (by omega) _ rfl, i64_nat _ (by omega) _ (by simp), i64_nat _ (by omega) _ (by simp), Nat.mod_lt _ hn, Nat.mod_lt _ hn, by omega⟩
  · rw [Int.tmod_eq_emod_of_nonneg (by omega)]; simp
  · rw [Int.tmod_eq_emod_of_nonneg (by omega)]; simp
  · rw [Int.tdiv_eq_ediv_of_nonneg (by omega)]; simp

set_option maxHeartbeats 1000000 in
set_option maxRecDepth 100000 in
theorem pick_far (w : World) (g p n c : Nat) (A : Option Addr) (m : Int) (h : Rd w g p A n c) (hp : p ≤ 1000000) (hm : 1 ≤ m) (hm2 : m ≤ 9223372036854775807) (hn : 0 < n) (hf : n ≤ p) :
    Calls Tryd.prog 19 #[.pointer (some ⟨g, 0, none⟩), .int .i64 m] w (Picked g p n c A m w) := by
  obtain ⟨b, off, z, y, rfl, hbg, hz, hy, hcz, hcy⟩ := h.step.bytes.two (Nat.mod_lt p hn) (Nat.mod_lt (p * 7 + 3) hn)
  have hfar := pickF_mk p n z y hp hn hz hy
  generalize p % n = i1 at *
  generalize (p * 7 + 3) % n = i2 at *
  generalize z * 131 = s1 at *
  generalize y * 1117 = s2 at *
  generalize s1 + s2 = s3 at *
  generalize p * 29 = s4 at *
  generalize s3 + s4 = s5 at *
  generalize p / n = q at *
  generalize q * 53 = s6 at *
  generalize s5 + s6 = s7 at *
  generalize p * 7 + 3 = b7 at *
  generalize p * 7 = a7 at *
  have hc0 := h.cell0
  have hc1 := h.cell1
  have hfz := h.free 1
  have hlen := h.len
  have hd0 := h.step.cell0
  have H := Lib.hid h
  have HF := Lib.hid hfar
  have HZ := Lib.hid hcz
  have HY := Lib.hid hcy
  have HD := Lib.hid hd0
  clear h hfar hcz hcy hd0
  have hm' : ¬ m < 1 := by omega
  have hn' : ((n : Int) == 0) = false := by simp; omega
  go_enter Tryd.func19, Tryd.ntmps19
  go_wp2
  change Code.wp _ _ _ _ (next w g p)
  have hcz := HZ.out
  have hcy := HY.out
  have hd0 := HD.out
  obtain ⟨e1, e2, e3, e4, e5, e6, e7, e8, e9, e10, e10a, e10b, e11, e12, l1, l2, l7⟩ := HF.out
  have r1 : (0 : Int) ≤ (i1 : Int) := by omega
  have r2 : (i1 : Int) < (n : Int) := by omega
  have r3 : (0 : Int) ≤ (i2 : Int) := by omega
  have r4 : (i2 : Int) < (n : Int) := by omega
  clear HF HZ HY HD hc0 hc1 hfz hn' hm' hf
  generalize hW : next w g p = W at *
  have HW := Lib.hid hW
  clear hW
  go_quiet (fail)
  clear e1 e2 e3 e4 e5 e6 e7 e8 e9 e10 e10a e10b e11 e12 hcz hcy hd0
  obtain ⟨X, hX, hX1⟩ := xor_of s7 l7
  go_wp2
  go_ret
  have hW := HW.out
  subst hW
  have k1 := Int.emod_nonneg (X : Int) (show m ≠ 0 by omega)
  have k2 := Int.emod_lt_of_pos (X : Int) (show 0 < m by omega)
  exact picked_mk H.out _ k1 (.inl k2) _

set_option maxHeartbeats 400000 in
set_option maxRecDepth 100000 in
theorem pick_near (w : World) (g p n c : Nat) (A : Option Addr) (m : Int) (h : Rd w g p A n c) (hp : p ≤ 1000000) (hm : 1 ≤ m) (hm2 : m ≤ 9223372036854775807) (hf : p < n) :
    Calls Tryd.prog 19 #[.pointer (some ⟨g, 0, none⟩), .int .i64 m] w (Picked g p n c A m w) := by
  obtain ⟨b, off, z, rfl, hbg, hz, hcz⟩ := h.step.bytes p hf
  have hcz' : w.cell? ⟨b, off + p, none⟩ = some (.int .u8 (z : Nat)) := by
    rw [← hcz]; exact (World.cell?_of_block (heap_setCell_other _ _ _ _ (by simp; omega))).symm
  have hc0 := h.cell0
  have hc1 := h.cell1
  have hfz := h.free 1
  have hlen := h.len
  have H := Lib.hid h
  clear h hcz
  have hm' : ¬ m < 1 := by omega
  have hn' : ((n : Int) == 0) = false := by simp; omega
  have hbg' : ¬ b = g := by omega
  have hbg2 : ¬ g = b := by omega
  go_enter Tryd.func19, Tryd.ntmps19
  go_wp2
  go_ret
  have k1 := Int.emod_nonneg (z : Int) (show m ≠ 0 by omega)
  have k2 := Int.emod_lt_of_pos (z : Int) (show 0 < m by omega)
  exact picked_mk0 H.out _ k1 (.inl k2)

set_option maxHeartbeats 400000 in
set_option maxRecDepth 100000 in
theorem pick_low (w : World) (g p n c : Nat) (A : Option Addr) (m : Int) (h : Rd w g p A n c) (hp : p ≤ 1000000) (hm : m < 1) :
    Calls Tryd.prog 19 #[.pointer (some ⟨g, 0, none⟩), .int .i64 m] w (Picked g p n c A m w) := by
  have hc0 := h.cell0
  have hc1 := h.cell1
  have hfz := h.free 1
  have H := Lib.hid h
  clear h
  go_enter Tryd.func19, Tryd.ntmps19
  go_wp2
  go_ret
  exact picked_mk0 H.out 0 (Int.le_refl _) (.inr ⟨rfl, hm⟩)

set_option maxHeartbeats 400000 in
set_option maxRecDepth 100000 in
theorem pick_none (w : World) (g p c : Nat) (A : Option Addr) (m : Int) (h : Rd w g p A 0 c) (hp : p ≤ 1000000) (hm : 1 ≤ m) :
    Calls Tryd.prog 19 #[.pointer (some ⟨g, 0, none⟩), .int .i64 m] w (Picked g p 0 c A m w) := by
  have hc0 := h.cell0
  have hc1 := h.cell1
  have hfz := h.free 1
  have H := Lib.hid h
  clear h
  have hm' : ¬ m < 1 := by omega
  go_enter Tryd.func19, Tryd.ntmps19
  go_wp2
  go_ret
  exact picked_mk0 H.out 0 (Int.le_refl _) (.inl (by omega))

/-- a draw below m -/
theorem pick (w : World) (g p n c : Nat) (A : Option Addr) (m : Int) (h : Rd w g p A n c) (hp : p ≤ 1000000) (hm2 : m ≤ 9223372036854775807) :
    Calls Tryd.prog 19 #[.pointer (some ⟨g, 0, none⟩), .int .i64 m] w (Picked g p n c A m w) := by
  by_cases hm : m < 1
  · exact pick_low w g p n c A m h hp hm
  · by_cases hn : n = 0
    · subst hn; exact pick_none w g p c A m h hp (by omega)
    · by_cases hf : p < n
      · exact pick_near w g p n c A m h hp (by omega) hm2 hf
      · exact pick_far w g p n c A m h hp (by omega) hm2 (by omega) (by omega)

end Go.Proofs.YtklphdomjhliaaaDoor.W

namespace Go.Proofs.YtklphdomjhliaaaDoor.W
open Go.RowKit

/-- a reader is opened in a new block -/
def Opened (w : World) (e : Ending) (w' : World) : Prop :=
  ∃ (A : Option Addr) (n c : Nat), e = .returned (.pointer (some ⟨w.heap.size, 0, none⟩)) ∧ Rd w' w.heap.size 0 A n c ∧ Below w.heap.size w w'

theorem Bytes.less {w : World} {B n k : Nat} {A : Option Addr} (h : Bytes w B A n) (hk : k ≤ n) : Bytes w B A k := fun i hi => h i (by omega)

theorem opened_mk (w : World) (A : Option Addr) (n c : Nat) (hn : n ≤ 2000) (hb : Bytes w w.heap.size A n) : Opened w (.returned (.pointer (some ⟨w.heap.size, 0, none⟩))) (w.alloc (.cells #[.slice A n c, .int .i64 0] 59)) :=
  ⟨A, n, c, rfl, ⟨heap_alloc_new w _, hn, hb.keep fun b _ hb => World.cell?_of_block (Below.heap_alloc w _ b hb)⟩, (Below.refl _ _).alloc (Nat.le_refl _) _⟩

set_option maxHeartbeats 400000 in
theorem openR (w : World) (A : Option Addr) (n c : Nat) (hb : Bytes w w.heap.size A n) (hnc : n ≤ c) (hc : c ≤ maxLen) :
    Calls Tryd.prog 17 #[.slice A n c] w (Opened w) := by
  unfold maxLen at hc
  by_cases hn : n ≤ 2000
  · have hn' : ¬ (2000 : Int) < (n : Int) := by omega
    have HB := Lib.hid hb
    clear hb
    go_enter Tryd.func17, Tryd.ntmps17
    go_wp2
    go_ret
    exact opened_mk w A n c hn HB.out
  · have hn' : (2000 : Int) < (n : Int) := by omega
    obtain ⟨b, off, z, rfl, _⟩ := hb 0 (by omega)
    have HB := Lib.hid hb
    clear hb
    go_enter Tryd.func17, Tryd.ntmps17
    go_wp2
    go_ret
    exact opened_mk w _ 2000 c (by omega) (HB.out.less (by omega))

/-- one of some strings is drawn: it has what all of them have -/
def Drawn (P : ByteArray → Prop) (g p n c : Nat) (A : Option Addr) (w : World) (e : Ending) (w' : World) : Prop :=
  ∃ s : ByteArray, P s ∧ e = .returned (.string s) ∧ Rd w' g (p + 1) A n c ∧ w.grownBy w' (some g)

set_option maxHeartbeats 400000 in
theorem ofR (P : ByteArray → Prop) (w : World) (g p n c h k : Nat) (A : Option Addr) (hr : Rd w g p A n c) (hp : p ≤ 1000000) (hk : 0 < k) (hk2 : k ≤ 1000) (hg : h ≠ g)
    (hs : ∀ i, i < k → ∃ s, w.cell? ⟨h, i, none⟩ = some (.string s) ∧ P s) (hlt : h < w.heap.size) :
    Calls Tryd.prog 20 #[.pointer (some ⟨g, 0, none⟩), .slice (some ⟨h, 0, none⟩) k k] w (Drawn P g p n c A w) := by
  have hkk : (k : Int) ≤ 9223372036854775807 := by omega
  have HS := Lib.hid hs
  clear hs
  go_enter Tryd.func20, Tryd.ntmps20
  go_wp2_with fail
  go_at_call 19
  refine (pick w g p n c A (k : Int) hr hp hkk).mono ?_
  rintro e w1 ⟨x, rfl, hx0, hx1, hr1, hg1⟩
  obtain ⟨X, rfl⟩ := Int.eq_ofNat_of_zero_le hx0
  have hX : X < k := by omega
  obtain ⟨s, hc, hPs⟩ := HS.out X hX
  have hc1 : w1.cell? ⟨h, X, none⟩ = some (.string s) := by rw [← hc]; exact World.cell?_of_block (hg1.block h hlt (fun e => hg (by injection e)))
  clear hc hr
  go_wp2
  go_ret
  exact ⟨s, hPs, rfl, hr1, hg1⟩

/-- a string so many times: its length is told -/
def Many (L : Nat) (w : World) (e : Ending) (w' : World) : Prop := ∃ s : ByteArray, s.size = L ∧ e = .returned (.string s) ∧ w = w'

theorem many_odd {a b n T : Nat} (hn : n % 2 = 1) (h : a + n * b = T) : (a + b) + (n / 2) * (b + b) = T := by
  obtain ⟨m, rfl⟩ : ∃ m, n = 2 * m + 1 := ⟨n / 2, by omega⟩
  have e : (2 * m + 1) / 2 = m := by omega
  rw [e]
  rw [Nat.add_mul, Nat.one_mul, Nat.mul_assoc] at h
  rw [Nat.mul_add]
  omega
theorem many_even {a b n T : Nat} (hn : n % 2 = 0) (h : a + n * b = T) : a + (n / 2) * (b + b) = T := by
  obtain ⟨m, rfl⟩ : ∃ m, n = 2 * m := ⟨n / 2, by omega⟩
  have e : (2 * m) / 2 = m := by omega
  rw [e]
  rw [Nat.mul_assoc] at h
  rw [Nat.mul_add]
  omega

theorem Rd.alloc {w : World} {g p n c : Nat} {A : Option Addr} (h : Rd w g p A n c) (o : Obj) : Rd (w.alloc o) g p A n c := h.grown (World.grownBy_alloc w o none) (by simp)
theorem two_at (w : World) (a b : UInt8) {t : TypeId} : ∀ i, i < 2 → ∃ s, (w.alloc (.cells #[.string ⟨#[a]⟩, .string ⟨#[b]⟩] t)).cell? ⟨w.heap.size, i, none⟩ = some (.string s) ∧ s.size ≤ 1 := by
  intro i hi
  rw [cell_of_row _ _ _ _ _ _ (heap_alloc_new w _)]
  rcases (by omega : i = 0 ∨ i = 1) with rfl | rfl
  · exact ⟨⟨#[a]⟩, rfl, Nat.le_refl _⟩
  · exact ⟨⟨#[b]⟩, rfl, Nat.le_refl _⟩

end Go.Proofs.YtklphdomjhliaaaDoor.W

namespace Go.Proofs.YtklphdomjhliaaaDoor.W
open Go.RowKit K

/-- a string of at most L bytes is drawn, in at most d draws -/
def StrD (L d g p n c : Nat) (A : Option Addr) (w : World) (e : Ending) (w' : World) : Prop :=
  ∃ (s : ByteArray) (p' : Nat), s.size ≤ L ∧ p' ≤ p + d ∧ e = .returned (.string s) ∧ Rd w' g p' A n c ∧ w.grownBy w' (some g)

theorem lits_at (w : World) (ss : List ByteArray) (t : TypeId) (P : ByteArray → Prop) (hP : ∀ s ∈ ss, P s) :
    ∀ i, i < ss.length → ∃ s, (w.alloc (.cells (ss.map Value.string).toArray t)).cell? ⟨w.heap.size, i, none⟩ = some (.string s) ∧ P s := by
  intro i hi
  refine ⟨ss[i], ?_, hP _ (List.getElem_mem hi)⟩
  rw [cell_of_row _ _ _ _ _ _ (heap_alloc_new w _)]
  simp [hi]

/-- at the loop's head: so many letters are to come -/
def LoopK (w : World) (g p n c : Nat) (A : Option Addr) (out nv : Value) (wr : World) : Prop :=
  ∃ (s : ByteArray) (k q : Nat), out = .string s ∧ nv = .int .i64 (k : Nat) ∧ s.size + k ≤ 5 ∧ q + k ≤ p + 6 ∧ Rd wr g q A n c ∧ w.grownBy wr (some g)

set_option maxHeartbeats 1000000 in
theorem keyD (w : World) (g p n c : Nat) (A : Option Addr) (hr : Rd w g p A n c) (hp : p ≤ 950000) :
    Calls Tryd.prog 43 #[.pointer (some ⟨g, 0, none⟩)] w (StrD 5 10 g p n c A w) := by
  have hp1 : p ≤ 1000000 := by omega
  go_enter Tryd.func43, Tryd.ntmps43
  go_wp2_with fail
  go_at_call 19
  refine (pick w g p n c A 6 hr hp1 (by omega)).mono ?_
  rintro e w1 ⟨x, rfl, hx0, hx1, hr1, hg1⟩
  obtain ⟨X, rfl⟩ := Int.eq_ofNat_of_zero_le hx0
  have hX : X < 6 := by omega
  have HR1 := Lib.hid hr1
  have HG1 := Lib.hid hg1
  clear hr hx1 hr1 hg1
  go_wp2_with fail
  go_loopw [3, 4] (fun out nv wr => LoopK w g p n c A out nv wr) (fun _ nv _ => (intOf nv).toNat)
  case atStart => exact ⟨_, X, p + 1, rfl, rfl, by show 0 + X ≤ 5; omega, by omega, HR1.out, HG1.out⟩
  case round =>
    obtain ⟨s, k, q, rfl, rfl, hs, hq, hr2, hg2⟩ := hrel
    have HR2 := Lib.hid hr2
    have HG2 := Lib.hid hg2
    have hglt : g < wr.heap.size := (Array.getElem?_eq_some_iff.1 hr2.blk).1
    clear hr2 hg2 HR1 HG1
    by_cases hk : 0 < k
    · go_wp2_with fail
      go_at_call 20
      refine (ofR (fun s => s.size ≤ 1) _ g q n c wr.heap.size 5 A (HR2.out.alloc _) (by omega) (by omega) (by omega) (by omega) (lits_at wr [⟨#[97]⟩, ⟨#[98]⟩, ⟨#[97]⟩, ⟨#[99]⟩, ⟨#[100]⟩] _ (fun s => s.size ≤ 1) (by decide)) (by simp)).mono ?_
      rintro e w2 ⟨t, ht, rfl, hr3, hg3⟩
      have HG3 := Lib.hid (HG2.out.trans ((World.grownBy_alloc _ _ _).trans hg3))
      have HR3 := Lib.hid hr3
      clear hr3 hg3
      go_wp2
      go_roundw
      case rel => exact ⟨s ++ t, k - 1, q + 1, rfl, by go_num, by simp only [ByteArray.size_append]; omega, by omega, HR3.out, HG3.out⟩
      case measure => simp [intOf]; omega
    · have hk0 : k = 0 := by omega
      subst hk0
      go_wp2
      go_ret
      exact ⟨s, q, by omega, by omega, rfl, HR2.out, HG2.out⟩

theorem Strs.grown {w w' : World} {B n g : Nat} {A : Option Addr} {l : List ByteArray} (h : Strs w B A n l) (hg : w.grownBy w' (some g)) (hB : B ≤ w.heap.size) (hne : ∀ b o, A = some ⟨b, o, none⟩ → b ≠ g) : Strs w' B A n l :=
  ⟨h.len, fun i hi => by
    obtain ⟨b, off, hA, hb, hc⟩ := h.cell i hi
    exact ⟨b, off, hA, hb, (World.cell?_of_block (hg.block b (by omega) (fun e => hne b off hA (by injection e)))).trans hc⟩⟩

/-- each string is short -/
def Short (l : List ByteArray) : Prop := ∀ s ∈ l, s.size ≤ 6
theorem Short.get {l : List ByteArray} (h : Short l) {k : Nat} (hk : k < l.length) : l[k].size ≤ 6 := h _ (List.getElem_mem hk)
theorem Short.fit {l : List ByteArray} (h : Short l) : Fit l := fun s hs => by have := h s hs; unfold maxLen; omega

set_option maxHeartbeats 1000000 in
theorem nearD (w : World) (g p n c : Nat) (A : Option Addr) (B m cc : Nat) (V : Option Addr) (l : List ByteArray) (hr : Rd w g p A n c) (hp : p ≤ 900000) (hs : Strs w B V m l) (hB : B ≤ w.heap.size)
    (hne : ∀ b o, V = some ⟨b, o, none⟩ → b ≠ g) (hsh : Short l) (hm : m ≤ 1000000) :
    Calls Tryd.prog 34 #[.pointer (some ⟨g, 0, none⟩), .slice V m cc] w (StrD 6 20 g p n c A w) := by
  have hlen := hs.len
  subst hlen
  by_cases h0 : l.length = 0
  · have h0' : ((l.length : Int) == 0) = true := by simp [h0]
    clear h0 hne hs
    go_enter Tryd.func34, Tryd.ntmps34
    go_wp2_with fail
    go_at_call 43
    refine (keyD w g p n c A hr (by omega)).mono ?_
    rintro e w1 ⟨s, p', h1, h2, rfl, h3, h4⟩
    go_wp2
    go_ret
    exact ⟨s, p', by omega, by omega, rfl, h3, h4⟩
  · have h0' : ((l.length : Int) == 0) = false := by rw [beq_eq_false_iff_ne]; omega
    have hpos : 0 < l.length := by omega
    have HS := Lib.hid hs
    have HNE := Lib.hid hne
    have HSH := Lib.hid hsh
    clear h0 hs hne hsh
    go_enter Tryd.func34, Tryd.ntmps34
    go_wp2_with fail
    go_at_call 19
    refine (pick w g p n c A 4 hr (by omega) (by omega)).mono ?_
    rintro e w1 ⟨x, rfl, hx0, hx1, hr1, hg1⟩
    obtain ⟨X, rfl⟩ := Int.eq_ofNat_of_zero_le hx0
    have HR1 := Lib.hid hr1
    have HG1 := Lib.hid hg1
    clear hx0 hx1 hr1 hg1 hr
    by_cases hX : X = 0
    · subst hX
      go_wp2_with fail
      go_at_call 43
      refine (keyD w1 g (p + 1) n c A HR1.out (by omega)).mono ?_
      rintro e w2 ⟨s, p', h1, h2, rfl, h3, h4⟩
      have H4 := Lib.hid (HG1.out.trans h4)
      have H3 := Lib.hid h3
      clear h3 h4
      go_wp2
      go_ret
      exact ⟨s, p', by omega, by omega, rfl, H3.out, H4.out⟩
    · have hX' : ((X : Int) == 0) = false := by simp; omega
      go_wp2_with fail
      go_at_call 19
      refine (pick w1 g (p + 1) n c A (l.length : Int) HR1.out (by omega) (by omega)).mono ?_
      rintro e w2 ⟨y, rfl, hy0, hy1, hr2, hg2⟩
      obtain ⟨Y, rfl⟩ := Int.eq_ofNat_of_zero_le hy0
      have hY : Y < l.length := by omega
      have HG2 := Lib.hid (HG1.out.trans hg2)
      have HR2 := Lib.hid hr2
      clear hy0 hy1 hr2 hg2
      obtain ⟨b, off, hV, hb, hc⟩ := (HS.out.grown HG2.out hB HNE.out).cell Y hY
      subst hV
      have hk6 := HSH.out.get hY
      obtain ⟨kk, hkk⟩ : ∃ kk, kk = l[Y] := ⟨_, rfl⟩
      rw [← hkk] at hc hk6
      clear hkk
      go_wp2_with fail
      go_at_call 19
      refine (pick w2 g (p + 1 + 1) n c A 4 HR2.out (by omega) (by omega)).mono ?_
      rintro e w3 ⟨z, rfl, hz0, hz1, hr3, hg3⟩
      obtain ⟨Z, rfl⟩ := Int.eq_ofNat_of_zero_le hz0
      have HG3 := Lib.hid (HG2.out.trans hg3)
      have HR3 := Lib.hid hr3
      clear hz0 hz1 hr3 hg3 hc
      by_cases hZ0 : Z = 0
      · subst hZ0
        go_wp2_with fail
        go_at_call 19
        refine (pick w3 g (p + 1 + 1 + 1) n c A ((kk.size : Int) + 1) HR3.out (by omega) (by omega)).mono ?_
        rintro e w4 ⟨u, rfl, hu0, hu1, hr4, hg4⟩
        obtain ⟨U, rfl⟩ := Int.eq_ofNat_of_zero_le hu0
        have hU : U ≤ kk.size := by omega
        have HG4 := Lib.hid (HG3.out.trans hg4)
        have HR4 := Lib.hid hr4
        clear hu0 hu1 hr4 hg4
        go_wp2
        go_ret
        exact ⟨kk.extract 0 U, _, by simp; omega, by omega, rfl, HR4.out, HG4.out⟩
      · have hZ0' : ((Z : Int) == 0) = false := by simp; omega
        by_cases hZ1 : Z = 1
        · subst hZ1
          by_cases hk5 : kk.size < 5
          · have hk5' : (kk.size : Int) < 5 := by omega
            have hglt : g < w3.heap.size := (Array.getElem?_eq_some_iff.1 HR3.out.blk).1
            go_wp2_with fail
            go_at_call 20
            refine (ofR (fun s => s.size ≤ 1) _ g (p + 1 + 1 + 1) n c w3.heap.size 3 A (HR3.out.alloc _) (by omega) (by omega) (by omega) (by omega) (lits_at w3 [⟨#[97]⟩, ⟨#[98]⟩, ⟨#[100]⟩] _ (fun s => s.size ≤ 1) (by decide)) (by simp)).mono ?_
            rintro e w4 ⟨t, ht, rfl, hr4, hg4⟩
            have HG4 := Lib.hid (HG3.out.trans ((World.grownBy_alloc _ _ _).trans hg4))
            have HR4 := Lib.hid hr4
            clear hr4 hg4
            go_wp2
            go_ret
            exact ⟨kk ++ t, _, by simp only [ByteArray.size_append]; omega, by omega, rfl, HR4.out, HG4.out⟩
          · have hk5' : ¬ (kk.size : Int) < 5 := by omega
            go_wp2
            go_ret
            exact ⟨kk, _, hk6, by omega, rfl, HR3.out, HG3.out⟩
        · have hZ1' : ((Z : Int) == 1) = false := by simp; omega
          go_wp2
          go_ret
          exact ⟨kk, _, hk6, by omega, rfl, HR3.out, HG3.out⟩

end Go.Proofs.YtklphdomjhliaaaDoor.W

namespace Go.Proofs.YtklphdomjhliaaaDoor.W
open Go.RowKit K

/-- a slice of short strings is drawn, at most L of them, in a row of its own from block 'base' on; only the reader and new memory have turned -/
def ListD (L d base g p n c : Nat) (A : Option Addr) (w : World) (e : Ending) (w' : World) : Prop :=
  ∃ (v : Value) (l : List ByteArray) (p' : Nat), l.length ≤ L ∧ Short l ∧ p' ≤ p + d ∧ e = .returned v ∧ Own w' base v l ∧ Rd w' g p' A n c ∧ w.grownBy w' (some g)

theorem Short.put {l : List ByteArray} {s : ByteArray} (h : Short l) (hs : s.size ≤ 6) : Short (put l s) := by
  intro x hx
  rcases mem_put.mp hx with rfl | hx
  · exact hs
  · exact h x hx
theorem Short.nil : Short [] := fun s hs => by cases hs
theorem Short.snoc {l : List ByteArray} {s : ByteArray} (h : Short l) (hs : s.size ≤ 6) : Short (l ++ [s]) := by
  intro x hx
  rcases List.mem_append.mp hx with hx | hx
  · exact h x hx
  · rw [List.mem_singleton.mp hx]; exact hs
theorem Own.grown {w w' : World} {base g : Nat} {v : Value} {l : List ByteArray} (h : Own w base v l) (hg : w.grownBy w' (some g)) (hlt : g < base) : Own w' base v l :=
  World.ownsRow.kept h hg (by
    cases e : v.ownBlock with
    | none => exact .inl rfl
    | some k => exact .inr (fun x => by have := (World.ownsRow.lt h k e).1; injection x; omega))
theorem Own.far {w : World} {base g : Nat} {A : Option Addr} {m cc : Nat} {l : List ByteArray} (h : Own w base (.slice A m cc) l) (hlt : g < base) : ∀ b o, A = some ⟨b, o, none⟩ → b ≠ g := by
  rintro b o rfl
  have := (World.ownsRow.lt h b rfl).1
  omega
theorem Rd.below {w w' : World} {g p n c B : Nat} {A : Option Addr} (h : Rd w g p A n c) (hb : Below B w w') (hlt : g < B) : Rd w' g p A n c :=
  ⟨(hb.block g hlt).trans h.blk, h.len, h.bytes.keep fun b o hbo => hb.cell (p := ⟨b, o, none⟩) (by show b < B; omega)⟩
theorem grown_below {a w w' : World} {r : Option Nat} (h : a.grownBy w r) (hb : Below w.heap.size w w') : a.grownBy w' r :=
  ⟨hb.os.trans h.os, hb.tape.trans h.tape, hb.output.trans h.output, Nat.le_trans h.size hb.size, fun k hk hn => (hb.block k (Nat.lt_of_lt_of_le hk h.size)).trans (h.block k hk hn)⟩

/-- at the loop's head: so many keys are to come -/
def LoopL (w : World) (M g p n c : Nat) (A : Option Addr) (keys nv : Value) (wr : World) : Prop :=
  ∃ (l : List ByteArray) (k q : Nat), nv = .int .i64 (k : Nat) ∧ l.length + k ≤ M ∧ k ≤ M ∧ q + 20 * k ≤ p + 1 + 20 * M ∧ Short l ∧ Own wr w.heap.size keys l ∧ Rd wr g q A n c ∧ w.grownBy wr (some g)

end Go.Proofs.YtklphdomjhliaaaDoor.W

namespace Go.Proofs.YtklphdomjhliaaaDoor.W
open Go.RowKit K

/-- append of some strings that lie in a block -/
theorem app_strs {ops : Array Oper} {rest : List Oper} {o : Oper} {a : Act} {Q : Exit → Act → World → Prop} (hgd : o.guard = none) (s x : Operand)
    (ho : o.op = .call { callee := .builtin .append, args := #[s, x], argTypes := #[41, 41] })
    (w : World) (base : Nat) (v : Value) (l : List ByteArray) (hs : a.eval s = v) (hown : Own w base v l) (b m cc : Nat) (ks : List ByteArray)
    (hx : a.eval x = .slice (some ⟨b, 0, none⟩) m cc) (hm : ks.length = m) (h0 : 0 < m) (hcell : ∀ i (h : i < ks.length), w.cell? ⟨b, i, none⟩ = some (.string ks[i])) (hl : l.length + m ≤ 4398046511104) (hbase : base ≤ w.heap.size)
    (h : ∀ g cap w', Own w' base (.slice (some ⟨g, 0, none⟩) (l.length + m) cap) (l ++ ks) → w.grownBy w' v.ownBlock →
      wpList Tryd.prog ops Q rest (a.put o.dst (.slice (some ⟨g, 0, none⟩) (l.length + m) cap)) w') : wpList Tryd.prog ops Q (o :: rest) a w := by
  obtain ⟨i0, hi, hz0, hz1, hz2⟩ := info_parts str_info
  refine wpList_append_lies w hgd s x _ ho base _ i0 (.string ⟨#[]⟩) 1 16 Tryd.underlying41 hi hz0 hz1 hz2 rfl (by decide) v l.length (l.map Value.string) hs hown ⟨b, 0, none⟩ m cc (ks.map Value.string) hx (by simp [hm]) ?_ ?_ h0 ?_ ?_ hbase _ rfl ?_
  · intro j u hj
    rw [List.getElem?_map] at hj
    rcases Nat.lt_or_ge j ks.length with hlt | hge
    · rw [List.getElem?_eq_getElem hlt] at hj
      simp at hj
      subst hj
      have hadd : (⟨b, 0, none⟩ : Addr).add j = ⟨b, j, none⟩ := by unfold Addr.add; split <;> simp_all
      rw [hadd]
      exact hcell j hlt
    · rw [List.getElem?_eq_none hge] at hj; simp at hj
  · intro u hu
    obtain ⟨x, _, rfl⟩ := List.mem_map.mp hu
    rfl
  · unfold maxLen; omega
  · omega
  · intro g cap w' h2 h3 _ _
    refine h g cap w' ?_ h3
    unfold Own
    rw [List.length_append, List.map_append, hm]
    exact h2

theorem lits_cell (w : World) (ss : List ByteArray) (t : TypeId) : ∀ i (h : i < ss.length), (w.alloc (.cells (ss.map Value.string).toArray t)).cell? ⟨w.heap.size, i, none⟩ = some (.string ss[i]) := by
  intro i hi
  rw [cell_of_row _ _ _ _ _ _ (heap_alloc_new w _)]
  simp [hi]
theorem Short.append {l k : List ByteArray} (h : Short l) (hk : Short k) : Short (l ++ k) := by
  intro x hx
  rcases List.mem_append.mp hx with hx | hx
  · exact h x hx
  · exact hk x hx
theorem own_row_below {w w' : World} {base g : Nat} {v : Value} {l : List ByteArray} (h : Own w base v l) (hg : w.grownBy w' v.ownBlock) (hlt : g < base) {p n c : Nat} {A : Option Addr} (hr : Rd w g p A n c) : Rd w' g p A n c := by
  refine hr.grown hg fun k hk => ?_
  have := (World.ownsRow.lt h k hk).1
  omega
theorem grown_own {a w w' : World} {base g : Nat} {v : Value} {l : List ByteArray} (h : a.grownBy w (some g)) (ho : Own w base v l) (hb : a.heap.size ≤ base) (hg : w.grownBy w' v.ownBlock) : a.grownBy w' (some g) :=
  ⟨hg.os.trans h.os, hg.tape.trans h.tape, hg.output.trans h.output, Nat.le_trans h.size hg.size, fun k hk hn => (hg.block k (Nat.lt_of_lt_of_le hk h.size) (fun e => by
    have := (World.ownsRow.lt ho k e.symm).1
    omega)).trans (h.block k hk hn)⟩

/-- at the loop's head: so many keys have been put -/
def LoopM (w : World) (g q n c : Nat) (A : Option Addr) (keys iv : Value) (wr : World) : Prop :=
  ∃ (l : List ByteArray) (k : Nat), k ≤ 30 ∧ iv = .int .i64 (k : Nat) ∧ l.length ≤ 8 + k ∧ Short l ∧ Own wr w.heap.size keys l ∧ Rd wr g q A n c ∧ w.grownBy wr (some g)

/-- the two literals of the loop -/
def litA : List ByteArray := [⟨#[]⟩, ⟨#[97]⟩, ⟨#[98]⟩, ⟨#[99]⟩, ⟨#[100]⟩]
def litB : List ByteArray := [⟨#[]⟩, ⟨#[97]⟩, ⟨#[98]⟩, ⟨#[99]⟩, ⟨#[100]⟩, ⟨#[100, 97]⟩]
theorem rem5 (k : Nat) : ∃ a : Nat, a < 5 ∧ (k : Int).tmod 5 = (a : Int) ∧ (k : Int) % 5 = (a : Int) ∧ (0 : Int) ≤ (a : Int) ∧ (a : Int) < 5 :=
  ⟨k % 5, Nat.mod_lt _ (by omega), by rw [Int.tmod_eq_emod_of_nonneg (by omega)]; simp, by simp, by omega, by omega⟩
theorem quo5 (k : Nat) (h : k < 30) : ∃ b : Nat, b < 6 ∧ (k : Int).tdiv 5 = (b : Int) ∧ (k : Int) / 5 = (b : Int) ∧ (0 : Int) ≤ (b : Int) ∧ (b : Int) < 6 ∧ IntKind.i64.wrap (b : Int) = (b : Int) :=
  ⟨k / 5, by omega, by rw [Int.tdiv_eq_ediv_of_nonneg (by omega)]; simp, by simp, by omega, by omega, IntWalk.i64_in _ ⟨by omega, by omega⟩⟩
theorem getA (a : Nat) (h : a < 5) : ∃ s : ByteArray, s.size ≤ 1 ∧ ∀ h', ([.string ⟨#[]⟩, .string ⟨#[97]⟩, .string ⟨#[98]⟩, .string ⟨#[99]⟩, .string ⟨#[100]⟩] : List Value)[a]'h' = .string s := by
  have h1 : ∀ s ∈ litA, s.size ≤ 1 := by decide
  refine ⟨litA[a]'h, h1 _ (List.getElem_mem _), fun h' => ?_⟩
  have e : ([.string ⟨#[]⟩, .string ⟨#[97]⟩, .string ⟨#[98]⟩, .string ⟨#[99]⟩, .string ⟨#[100]⟩] : List Value) = litA.map Value.string := rfl
  simp only [e, List.getElem_map]
  rfl
theorem getB (b : Nat) (h : b < 6) : ∃ s : ByteArray, s.size ≤ 2 ∧ ∀ h', ([.string ⟨#[]⟩, .string ⟨#[97]⟩, .string ⟨#[98]⟩, .string ⟨#[99]⟩, .string ⟨#[100]⟩, .string ⟨#[100, 97]⟩] : List Value)[b]'h' = .string s := by
  have h1 : ∀ s ∈ litB, s.size ≤ 2 := by decide
  refine ⟨litB[b]'h, h1 _ (List.getElem_mem _), fun h' => ?_⟩
  have e : ([.string ⟨#[]⟩, .string ⟨#[97]⟩, .string ⟨#[98]⟩, .string ⟨#[99]⟩, .string ⟨#[100]⟩, .string ⟨#[100, 97]⟩] : List Value) = litB.map Value.string := rfl
  simp only [e, List.getElem_map]
  rfl
end Go.Proofs.YtklphdomjhliaaaDoor.W

namespace Go.Proofs.YtklphdomjhliaaaDoor.W
open Go.RowKit K

/-- appending nothing changes nothing -/
theorem run_app_nil (w : World) (base : Nat) (v : Value) (l : List ByteArray) (hown : Own w base v l) (A2 : Option Addr) (c2 : Nat) (ty : TypeId) :
    (Builtin.append_ #[41, 41] ty #[v, .slice A2 0 c2]).run Tryd.prog w = .ok v w := by
  obtain ⟨i0, hi, hz0, hz1, hz2⟩ := info_parts str_info
  rcases hown.2 with ⟨rfl, _⟩ | ⟨g, cap, cur, rfl, _, _, hnc, _⟩
  · cases A2 <;> simp [Builtin.append_, run_underlying Tryd.underlying41, sizeOf, typeInfo, hi, Builtin.lenOf, Builtin.firstCells, loadCells, loadCellsFrom]
  · cases A2 <;> simp [Builtin.append_, run_underlying Tryd.underlying41, sizeOf, typeInfo, hi, Builtin.lenOf, Builtin.firstCells, hnc, storeCells, loadCells, loadCellsFrom]

/-- append of a slice that can be read, under a guard that says yes -/
theorem app_own_g {ops : Array Oper} {rest : List Oper} {o : Oper} {a : Act} {Q : Exit → Act → World → Prop} (hw : Region.wanted o (yielded ops a.tmps) = true) (s x : Operand)
    (ho : o.op = .call { callee := .builtin .append, args := #[s, x], argTypes := #[41, 41] })
    (w : World) (base : Nat) (v : Value) (l : List ByteArray) (hs : a.eval s = v) (hown : Own w base v l) (B m cc : Nat) (A2 : Option Addr) (l2 : List ByteArray)
    (hx : a.eval x = .slice A2 m cc) (hr : Strs w B A2 m l2) (hl : l.length + m ≤ 4398046511104) (hbase : base ≤ w.heap.size)
    (h : ∀ v' w', Own w' base v' (l ++ l2) → w.grownBy w' v.ownBlock → wpList Tryd.prog ops Q rest (a.put o.dst v') w') : wpList Tryd.prog ops Q (o :: rest) a w := by
  have hlen := hr.len
  refine wpList_step fun K hK => ?_
  rw [if_pos hw]
  by_cases hm : m = 0
  · subst hm
    have : l2 = [] := List.eq_nil_of_length_eq_zero hlen
    subst this
    have hrun := run_app_nil w base v l hown A2 cc o.type
    unfold Oper.wp execOp
    simp only [ho, resolve, invoke, builtin, Sem.run_bind, Sem.run_pure, Result.andThen_ok, List.map_toArray, List.map_cons, List.map_nil, hs, hx, hrun]
    exact hK _ _ (h v w (by rw [List.append_nil]; exact hown) (World.grownBy.refl w _))
  · obtain ⟨b, off, hA, _, _⟩ := hr.cell 0 (by omega)
    subst hA
    obtain ⟨i0, hi, hz0, hz1, hz2⟩ := info_parts str_info
    refine wp_append_lies w s x _ ho base _ i0 (.string ⟨#[]⟩) 1 16 Tryd.underlying41 hi hz0 hz1 hz2 rfl (by decide) v l.length (l.map Value.string) hs hown ⟨b, off, none⟩ m cc (l2.map Value.string) hx (by simp [hlen]) ?_ ?_ (by omega) ?_ ?_ hbase _ rfl ?_
    · intro j u hj
      rw [List.getElem?_map] at hj
      rcases Nat.lt_or_ge j l2.length with hlt | hge
      · rw [List.getElem?_eq_getElem hlt] at hj
        simp at hj
        subst hj
        obtain ⟨b', off', hA', _, hc⟩ := hr.cell j hlt
        simp only [Option.some.injEq, Addr.mk.injEq, and_true] at hA'
        obtain ⟨rfl, rfl⟩ := hA'
        have hadd : (⟨b, off, none⟩ : Addr).add j = ⟨b, off + j, none⟩ := by unfold Addr.add; split <;> simp_all
        rw [hadd]
        exact hc
      · rw [List.getElem?_eq_none hge] at hj; simp at hj
    · intro u hu
      obtain ⟨x, _, rfl⟩ := List.mem_map.mp hu
      rfl
    · unfold maxLen; omega
    · omega
    · intro g cap w' h2 h3 _ _
      refine hK _ _ (h _ w' ?_ h3)
      unfold Own
      rw [List.length_append, List.map_append, hlen]
      exact h2
/-- append of a slice that can be read -/
theorem app_own {ops : Array Oper} {rest : List Oper} {o : Oper} {a : Act} {Q : Exit → Act → World → Prop} (hgd : o.guard = none) (s x : Operand)
    (ho : o.op = .call { callee := .builtin .append, args := #[s, x], argTypes := #[41, 41] })
    (w : World) (base : Nat) (v : Value) (l : List ByteArray) (hs : a.eval s = v) (hown : Own w base v l) (B m cc : Nat) (A2 : Option Addr) (l2 : List ByteArray)
    (hx : a.eval x = .slice A2 m cc) (hr : Strs w B A2 m l2) (hl : l.length + m ≤ 4398046511104) (hbase : base ≤ w.heap.size)
    (h : ∀ v' w', Own w' base v' (l ++ l2) → w.grownBy w' v.ownBlock → wpList Tryd.prog ops Q rest (a.put o.dst v') w') : wpList Tryd.prog ops Q (o :: rest) a w :=
  app_own_g (by simp [Region.wanted, hgd]) s x ho w base v l hs hown B m cc A2 l2 hx hr hl hbase h

/-- a slice of short strings is drawn for a law: in new memory -/
def ListL (w : World) (e : Ending) (w' : World) : Prop :=
  ∃ (A : Option Addr) (c : Nat) (l : List ByteArray), l.length ≤ 100 ∧ Short l ∧ e = .returned (.slice A l.length c) ∧ Own w' w.heap.size (.slice A l.length c) l ∧ Below w.heap.size w w'

theorem listL_of {w w1 w' : World} {L d g p n c : Nat} {A : Option Addr} {e : Ending} (h : ListD L d w1.heap.size g p n c A w1 e w') (hb : Below w.heap.size w w1) (hg : w.heap.size ≤ g) (hL : L ≤ 100) : ListL w e w' := by
  obtain ⟨v, l, p', h1, h2, _, h4, h5, _, h7⟩ := h
  obtain ⟨A1, c1, rfl, _⟩ := h5.parts
  exact ⟨A1, c1, l, by omega, h2, h4, h5.base hb.size, hb.grown h7 hb.size (fun k e => by injection e; omega)⟩

/-- at the loop's head: so many texts are to come -/
def LoopS (w w1 : World) (n c : Nat) (A : Option Addr) (out nv : Value) (wr : World) : Prop :=
  ∃ (l : List ByteArray) (k q : Nat), nv = .int .i64 (k : Nat) ∧ k ≤ 10 ∧ l.length + k ≤ 10 ∧ q + 20 * k ≤ 300 ∧ Short l ∧ Own wr w1.heap.size out l ∧ Rd wr w.heap.size q A n c ∧ w1.grownBy wr (some w.heap.size)

/-- two short strings are drawn -/
def TwoL (w : World) (e : Ending) (w' : World) : Prop := ∃ s t : ByteArray, s.size ≤ 6 ∧ t.size ≤ 6 ∧ e = .returned (.tuple #[.string s, .string t]) ∧ Below w.heap.size w w'

theorem one_strs (w : World) (s : ByteArray) : Strs (w.alloc (.cells #[.string s] 9)) (w.heap.size + 1) (some ⟨w.heap.size, 0, none⟩) 1 [s] :=
  ⟨rfl, fun i hi => ⟨w.heap.size, 0, rfl, by omega, by
    obtain rfl : i = 0 := by simpa using hi
    exact cell_new w _ _⟩⟩

/-- short strings and a short string are drawn -/
def PairL (w : World) (e : Ending) (w' : World) : Prop :=
  ∃ (A : Option Addr) (c : Nat) (l : List ByteArray) (s : ByteArray), l.length ≤ 100 ∧ Short l ∧ s.size ≤ 6 ∧ e = .returned (.tuple #[.slice A l.length c, .string s]) ∧ Own w' w.heap.size (.slice A l.length c) l ∧ Below w.heap.size w w'

end Go.Proofs.YtklphdomjhliaaaDoor.W

namespace Go.Proofs.YtklphdomjhliaaaDoor.W
open Go.RowKit K

/-- what is measured: what is left of L, or -1; if something is left all lengths are at most L -/
def Sized (L : Nat) (l : List ByteArray) (w : World) (e : Ending) (w' : World) : Prop :=
  ∃ x : Int, e = .returned (.int .i64 x) ∧ -1 ≤ x ∧ x ≤ (L : Int) ∧ (0 ≤ x → l.length ≤ L ∧ ∀ s ∈ l, s.size ≤ L) ∧ w = w'
/-- the first k are short -/
def upTo (l : List ByteArray) (L k : Nat) : Prop := ∀ i (h : i < l.length), i < k → l[i].size ≤ L

/-- a string stored into a slice of the call's own -/
theorem Own.set {w : World} {base g n c : Nat} {l : List ByteArray} (h : Own w base (.slice (some ⟨g, 0, none⟩) n c) l) (i : Nat) (s : ByteArray) :
    Own (w.setCell ⟨g, i, none⟩ (.string s)) base (.slice (some ⟨g, 0, none⟩) n c) (l.set i s) := by
  have hn : n = l.length := by
    obtain ⟨A', c', hv, _⟩ := h.parts
    injection hv
  rcases h.2 with ⟨hv, _⟩ | ⟨g', cap, cur, hv, hb, hg, hc, hm, hs, ht⟩
  · injection hv with e; cases e
  · injection hv with e1 e2 e3
    injection e1 with e1
    injection e1 with e1
    subst e1 e2 e3
    refine ⟨by simp, .inr ⟨g, c, cur.setIfInBounds i (.string s), ?_, hb, heap_setCell_same _ _ _ _ _ _ hg, by simpa using hc, hm, by simpa using hs, ?_⟩⟩
    · rw [List.length_set]
    · rw [Array.toList_setIfInBounds, List.length_set, List.take_set, ht, List.map_set]
theorem Own.free {w : World} {base g n c : Nat} {l : List ByteArray} (h : Own w base (.slice (some ⟨g, 0, none⟩) n c) l) (i : Nat) : w.frozen? ⟨g, i, none⟩ = false := by
  rcases h.2 with ⟨hv, _⟩ | ⟨g', cap, cur, hv, hb, hg, _⟩
  · injection hv with e; cases e
  · injection hv with e1
    injection e1 with e1
    injection e1 with e1
    subst e1
    exact frozen_of_row _ _ _ _ _ hg
theorem Own.get {w : World} {base g n c : Nat} {l : List ByteArray} (h : Own w base (.slice (some ⟨g, 0, none⟩) n c) l) (i : Nat) (hi : i < l.length) : w.cell? ⟨g, i, none⟩ = some (.string l[i]) := by
  obtain ⟨A', c', hv, _, _, hs⟩ := h.parts
  injection hv with e1
  obtain ⟨b, off, hA, _, hc⟩ := hs.cell i hi
  rw [← e1] at hA
  injection hA with hA
  injection hA with hA1 hA2
  subst hA1 hA2
  rwa [Nat.zero_add] at hc

/-- so many empty strings -/
def blanks (n : Nat) : List ByteArray := List.replicate n ⟨#[]⟩
theorem copy_step {l : List ByteArray} {k : Nat} (h : k < l.length) : (l.take k ++ blanks (l.length - k)).set k l[k] = l.take (k + 1) ++ blanks (l.length - (k + 1)) := by
  have hl : (l.take k).length = k := by rw [List.length_take]; omega
  have hb : blanks (l.length - k) = ⟨#[]⟩ :: blanks (l.length - (k + 1)) := by
    unfold blanks
    rw [show l.length - k = (l.length - (k + 1)) + 1 by omega, List.replicate_succ]
  rw [hb, List.set_append_right _ _ (by omega), hl, Nat.sub_self, List.set_cons_zero, take_get h, List.append_assoc]
  rfl

theorem made_own {w : World} {base n : Nat} {v : Value} (h : w.ownsRow base 9 1 v n (madeCells (Value.cells (.string ⟨#[]⟩)) (n * 1)).toList) : Own w base v (blanks n) := by
  unfold Own blanks
  rw [List.length_replicate, List.map_replicate, ← toList_madeCells_one]
  rw [Nat.mul_one] at h
  exact h

end Go.Proofs.YtklphdomjhliaaaDoor.W

namespace Go.Proofs.YtklphdomjhliaaaDoor.W
open Go.RowKit K

/-- the decimals of a number -/
def digs (k : Nat) : List UInt8 := if _h : k = 0 then [] else digs (k / 10) ++ [UInt8.ofNat (48 + k % 10)]
termination_by k
decreasing_by omega
theorem digs_zero : digs 0 = [] := by unfold digs; simp
theorem digs_pos {k : Nat} (h : 0 < k) : digs k = digs (k / 10) ++ [UInt8.ofNat (48 + k % 10)] := by
  conv => lhs; unfold digs
  rw [dif_neg (by omega)]
/-- the last decimal, as a string -/
def dch (k : Nat) : ByteArray := ⟨#[UInt8.ofNat (48 + k % 10)]⟩
def digB (k : Nat) : ByteArray := ⟨(digs k).toArray⟩
/-- the text that marks a number -/
def markB (k : Nat) : ByteArray := ⟨#[109]⟩ ++ digB k
theorem digB_zero : digB 0 = ⟨#[]⟩ := by unfold digB; rw [digs_zero]
theorem digB_pos {k : Nat} (h : 0 < k) : digB k = digB (k / 10) ++ dch k := by
  unfold digB dch
  rw [digs_pos h]
  apply ba_ext
  rw [ByteArray.toList_eq, ByteArray.toList_eq]
  simp
theorem app_assoc (a b c : ByteArray) : a ++ b ++ c = a ++ (b ++ c) := ByteArray.append_assoc
theorem nil_app (a : ByteArray) : (⟨#[]⟩ : ByteArray) ++ a = a := by
  apply ba_ext
  rw [ByteArray.toList_eq, ByteArray.toList_eq]
  simp

/-- a slice of one byte as a string -/
theorem conv1 (W : World) (d : Nat) : (convert 22 9 (.slice (some ⟨W.heap.size, 0, none⟩) 1 1)).run Tryd.prog (W.alloc (.cells #[.int .u8 (d : Nat)] 5)) =
    .ok (.string ⟨#[UInt8.ofNat d]⟩) (W.alloc (.cells #[.int .u8 (d : Nat)] 5)) := by
  rw [run_convert_bytes_string _ _ _ _ _ _ _ Tryd.underlying22 Tryd.underlying5 Tryd.underlying9]
  rw [run_bytesToString (P := Tryd.prog) _ ⟨W.heap.size, 0, none⟩ 1 1 [(d : Int)] ?_]
  · rfl
  · have hc := cell_new W (.int .u8 (d : Nat)) 5
    simp [loadCells, loadCellsFrom, Addr.add, hc]

/-- the marks from a number on -/
def marks (k n : Nat) : List ByteArray := (List.range n).map fun i => markB (k + i)
theorem marks_len (k n : Nat) : (marks k n).length = n := by simp [marks]
theorem marks_get (k n i : Nat) (h : i < (marks k n).length) : (marks k n)[i] = markB (k + i) := by simp [marks]
theorem mark_step {l : List ByteArray} {K0 k : Nat} (h : k < l.length) : (marks K0 k ++ l.drop k).set k (markB (K0 + k)) = marks K0 (k + 1) ++ l.drop (k + 1) := by
  rw [List.set_append_right _ _ (by rw [marks_len]; exact Nat.le_refl _), marks_len, Nat.sub_self, List.drop_eq_getElem_cons h, List.set_cons_zero]
  unfold marks
  rw [List.range_succ, List.map_append, List.append_assoc]
  rfl
theorem Own.block {w : World} {base n c : Nat} {A : Option Addr} {l : List ByteArray} (h : Own w base (.slice A n c) l) (hp : 0 < l.length) : ∃ g, A = some ⟨g, 0, none⟩ ∧ base ≤ g ∧ g < w.heap.size := by
  rcases h.2 with ⟨_, h0⟩ | ⟨g, cap, cur, hv, hb, hg, _⟩
  · omega
  · injection hv with e
    exact ⟨g, e, hb, (Array.getElem?_eq_some_iff.1 hg).1⟩

/-- a slice of the call's own has been marked; nothing else has turned -/
def Marked (base K0 n : Nat) (v : Value) (w : World) (e : Ending) (w' : World) : Prop :=
  e = .returned (.int .i64 ((K0 + n : Nat) : Int)) ∧ Own w' base v (marks K0 n) ∧ w.grownBy w' v.ownBlock

theorem grown_below_row {a w w' : World} {r : Option Nat} (h : a.grownBy w r) (hb : Below w.heap.size w w') : a.grownBy w' r :=
  ⟨hb.os.trans h.os, hb.tape.trans h.tape, hb.output.trans h.output, Nat.le_trans h.size hb.size, fun k hk hn => (hb.block k (Nat.lt_of_lt_of_le hk h.size)).trans (h.block k hk hn)⟩
theorem grown_set {a w : World} {g : Nat} (h : a.grownBy w (some g)) (i : Nat) (u : Value) : a.grownBy (w.setCell ⟨g, i, none⟩ u) (some g) :=
  ⟨h.os, h.tape, h.output, by simpa [World.setCell] using h.size, fun k hk hn => (heap_setCell_other _ _ _ _ (fun e => hn (by rw [e]))).trans (h.block k hk hn)⟩

end Go.Proofs.YtklphdomjhliaaaDoor.W

namespace Go.Proofs.YtklphdomjhliaaaDoor.W
open Go.RowKit K

theorem Below.of_drew {B : Nat} {w w' : World} (h : Below B w.drew w') : Below B w w' := ⟨h.os, h.tape, h.output, h.size, h.block⟩

end Go.Proofs.YtklphdomjhliaaaDoor.W

namespace Go.Proofs.YtklphdomjhliaaaDoor.W
open Go.RowKit K

def IsStrs (w : World) (A : Option Addr) (n c : Nat) (l : List ByteArray) : Prop := Strs w w.heap.size A n l ∧ n ≤ c ∧ c ≤ maxLen ∧ Fit l
theorem isStrs_nil (w : World) : IsStrs w none 0 0 [] := ⟨Strs.nil _ _ _, Nat.le_refl _, by unfold maxLen; omega, fun s hs => by cases hs⟩
theorem isStrs_of {w : World} {a : Addr} {len cap : Nat} {ss : List ByteArray} (hl : len ≤ cap) (hm : cap ≤ maxLen) (hz : len ≤ ss.length)
    (hcell : ∀ i, i < ss.length → w.cell? (a.add i) = some (.string (ss.getD i ByteArray.empty))) (hws : ∀ s ∈ ss, s.size ≤ maxLen) : IsStrs w (some a) len cap (ss.take len) := by
  refine ⟨⟨by rw [List.length_take]; omega, fun i hi => ?_⟩, hl, hm, fun s hs => hws s (List.mem_of_mem_take hs)⟩
  rw [List.length_take] at hi
  obtain ⟨b, off, spot⟩ := a
  have hspot : spot = none := by
    have hc0 := hcell 0 (by omega)
    simpa [Addr.add] using World.cell?_spot hc0
  subst hspot
  have hc := hcell i (by omega)
  rw [List.getD_eq_getElem?_getD, List.getElem?_eq_getElem (by omega)] at hc
  have hc' : w.cell? ⟨b, off + i, none⟩ = some (.string ss[i]) := by
    by_cases hi0 : i = 0
    · subst hi0; simpa [Addr.add] using hc
    · simpa [Addr.add, hi0] using hc
  exact ⟨b, off, rfl, block_lt_of_cell hc', by rw [List.getElem_take]; exact hc'⟩

end Go.Proofs.YtklphdomjhliaaaDoor.W

