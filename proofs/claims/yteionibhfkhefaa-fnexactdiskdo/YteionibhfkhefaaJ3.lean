/-
  Contracts of the reader of codes, out of which the laws draw their inputs: opening it, and drawing a number below a bound. What is drawn is left open but for its range.
  Contracts of the other drawing functions: opening a reader on a slice of bytes, drawing one of some strings, and a string many times. What is drawn is left open but for its length.
  Contracts of the functions that draw keys and key lists: short strings, short lists. What is drawn is left open but for its length.
  Contracts of the functions that draw key lists: short lists of short strings.
  The contract of the function that draws texts out of order: a short list of short strings.
  Appending a slice of strings to one of the call's own, and the contracts of the drawing functions of the key laws.
  Contracts of the exact laws' helpers for slices of strings: measuring, copying, marking, and looking for the marks. Each at every slice that can be read.
  Contracts of the exact laws' marks: the text of a number, marking a slice, and looking for the marks.
  The contract of the exact laws' look for marks: a slice that holds the marks holds them.
  What a law is told of a slice of strings that came in: it can be read, and each string is one that Go can hold.
-/
import Derived.Test.YteionibhfkhefaaProg
import Derived.Test.YteionibhfkhefaaJ2
import Derived.WalkKit
import Derived.WalkLawsBesides
import Derived.WalkSpells
import Derived.Lib.Hide
import Derived.Handy
import Derived.Deep.QuietTactic
import Derived.BigQuiet
import Derived.Deep.RegionWith
namespace Go.Proofs.Yteionibhfkhefaa.W
open Go.RowKit

/-- the first n bytes of a slice can be read, below block B -/
def Bytes (w : World) (B : Nat) (A : Option Addr) (n : Nat) : Prop :=
  ∀ i, i < n → ∃ b off z : Nat, A = some ⟨b, off, none⟩ ∧ b < B ∧ z ≤ 255 ∧ w.cell? ⟨b, off + i, none⟩ = some (.int .u8 (z : Nat))

theorem Bytes.keep {w w' : World} {B n : Nat} {A : Option Addr} (h : Bytes w B A n) (hk : ∀ b o, b < B → w'.cell? ⟨b, o, none⟩ = w.cell? ⟨b, o, none⟩) : Bytes w' B A n := by
  intro i hi
  obtain ⟨b, off, z, hA, hb, hz, hc⟩ := h i hi
  exact ⟨b, off, z, hA, hb, hz, (hk _ _ hb).trans hc⟩
theorem Bytes.two {w : World} {B n : Nat} {A : Option Addr} (h : Bytes w B A n) {i j : Nat} (hi : i < n) (hj : j < n) :
    ∃ b off z y : Nat, A = some ⟨b, off, none⟩ ∧ b < B ∧ z ≤ 255 ∧ y ≤ 255 ∧ w.cell? ⟨b, off + i, none⟩ = some (.int .u8 (z : Nat)) ∧ w.cell? ⟨b, off + j, none⟩ = some (.int .u8 (y : Nat)) := by
  obtain ⟨b, off, z, hA, hb, hz, hc⟩ := h i hi
  obtain ⟨b', off', y, hA', hb', hy, hc'⟩ := h j hj
  rw [hA] at hA'
  simp at hA'
  obtain ⟨rfl, rfl⟩ := hA'
  exact ⟨b, off, z, y, hA, hb, hz, hy, hc, hc'⟩

/-- the reader has moved on by one -/
def next (w : World) (g p : Nat) : World := w.setCell ⟨g, 1, none⟩ (.int .i64 ((p : Int) + 1))
theorem next_grown (w : World) (g p : Nat) : w.grownBy (next w g p) (some g) :=
  ⟨rfl, rfl, rfl, by simp [next, World.setCell], fun k _ hk => heap_setCell_other _ _ _ _ (fun e => hk (by rw [e]))⟩
theorem grown_drewN {a w : World} {r : Option Nat} (h : a.grownBy w r) (n : Nat) : a.grownBy (w.drewN n) r := ⟨h.os, h.tape, h.output, h.size, h.block⟩

theorem i64_nat (a : Nat) (h : a ≤ 9223372036854775807) : ∀ x : Int, x = (a : Int) → IntKind.i64.wrap x = (a : Int) := by
  rintro x rfl; exact IntWalk.i64_in _ ⟨by omega, by omega⟩

theorem xor_of (s : Nat) (h : s ≤ 1000000000) : ∃ X : Nat, bits .xor .i64 (s : Int) ((s : Int) / 64) = (X : Int) ∧ X ≤ 9223372036854775807 := by
  have hx : s ^^^ (s / 64) < 2 ^ 63 := Nat.xor_lt_two_pow (by omega) (by omega)
  refine ⟨s ^^^ (s / 64), ?_, by omega⟩
  have hs : (BitVec.ofInt 64 (s : Int)).toNat = s := by
    rw [BitVec.ofInt_natCast, BitVec.toNat_ofNat]; exact Nat.mod_eq_of_lt (by omega)
  have hd : (BitVec.ofInt 64 ((s : Int) / 64)).toNat = s / 64 := by
    have e : ((s : Int) / 64) = ((s / 64 : Nat) : Int) := by simp
    rw [e, BitVec.ofInt_natCast, BitVec.toNat_ofNat]; exact Nat.mod_eq_of_lt (by omega)
  show IntKind.i64.wrap ((BitVec.ofInt 64 (s : Int) ^^^ BitVec.ofInt 64 ((s : Int) / 64)).toNat : Int) = _
  rw [BitVec.toNat_xor, hs, hd, IntKind.wrap_i64]
  omega

/-- the numbers that a far draw reckons, step by step -/
structure PickF (p n z y i1 i2 s1 s2 s3 s4 s5 q s6 s7 a7 b7 : Nat) : Prop where
  e1 : (p : Int).tmod n = i1
  e2 : IntKind.i64.wrap ((p : Int) * 7) = a7
  e3 : IntKind.i64.wrap ((a7 : Int) + 3) = b7
  e4 : (b7 : Int).tmod n = i2
  e5 : IntKind.i64.wrap ((z : Int) * 131) = s1
  e6 : IntKind.i64.wrap ((y : Int) * 1117) = s2
  e7 : IntKind.i64.wrap ((s1 : Int) + s2) = s3
  e8 : IntKind.i64.wrap ((p : Int) * 29) = s4
  e9 : IntKind.i64.wrap ((s3 : Int) + s4) = s5
  e10 : (p : Int) / n = q
  e10a : (p : Int).tdiv n = q
  e10b : IntKind.i64.wrap (q : Int) = q
  e11 : IntKind.i64.wrap ((q : Int) * 53) = s6
  e12 : IntKind.i64.wrap ((s5 : Int) + s6) = s7
  lt1 : i1 < n
  lt2 : i2 < n
  le7 : s7 ≤ 1000000000

theorem pickF_mk (p n z y : Nat) (hp : p ≤ 1000000) (hn : 0 < n) (hz : z ≤ 255) (hy : y ≤ 255) :
    PickF p n z y (p % n) ((p * 7 + 3) % n) (z * 131) (y * 1117) (z * 131 + y * 1117) (p * 29) (z * 131 + y * 1117 + p * 29) (p / n) (p / n * 53) (z * 131 + y * 1117 + p * 29 + p / n * 53) (p * 7) (p * 7 + 3) := by
  have hq : p / n ≤ p := Nat.div_le_self _ _
  refine ⟨?_, i64_nat _ (by omega) _ (by simp), i64_nat _ (by omega) _ (by simp), ?_, i64_nat _ (by omega) _ (by simp), i64_nat _ (by omega) _ (by simp), i64_nat _ (by omega) _ (by simp), i64_nat _ (by omega) _ (by simp),
    i64_nat _ (by omega) _ (by simp), by simp, ?_, i64_nat _ (by omega) _ rfl, i64_nat _ (by omega) _ (by simp), i64_nat _ (by omega) _ (by simp), Nat.mod_lt _ hn, Nat.mod_lt _ hn, by omega⟩
  · rw [Int.tmod_eq_emod_of_nonneg (by omega)]; simp
  · rw [Int.tmod_eq_emod_of_nonneg (by omega)]; simp
  · rw [Int.tdiv_eq_ediv_of_nonneg (by omega)]; simp

end Go.Proofs.Yteionibhfkhefaa.W

namespace Go.Proofs.Yteionibhfkhefaa.W
open Go.RowKit

theorem Bytes.less {w : World} {B n k : Nat} {A : Option Addr} (h : Bytes w B A n) (hk : k ≤ n) : Bytes w B A k := fun i hi => h i (by omega)

/-- a string so many times: its length is told -/
def Many (L : Nat) (w : World) (e : Ending) (w' : World) : Prop := ∃ s : ByteArray, s.size = L ∧ e = .returned (.string s) ∧ w = w'

theorem many_odd {a b n T : Nat} (hn : n % 2 = 1) (h : a + n * b = T) : (a + b) + (n / 2) * (b + b) = T := by
  obtain ⟨m, rfl⟩ : ∃ m, n = 2 * m + 1 := ⟨n / 2, by omega⟩
  have e : (2 * m + 1) / 2 = m := by omega
  rw [e]
  rw [Nat.add_mul, Nat.one_mul, Nat.mul_assoc] at h
  rw [Nat.mul_add]
  omega
theorem many_even {a b n T : Nat} (hn : n % 2 = 0) (h : a + n * b = T) : a + (n / 2) * (b + b) = T := by
  obtain ⟨m, rfl⟩ : ∃ m, n = 2 * m := ⟨n / 2, by omega⟩
  have e : (2 * m) / 2 = m := by omega
  rw [e]
  rw [Nat.mul_assoc] at h
  rw [Nat.mul_add]
  omega

theorem two_at (w : World) (a b : UInt8) {t : TypeId} : ∀ i, i < 2 → ∃ s, (w.alloc (.cells #[.string ⟨#[a]⟩, .string ⟨#[b]⟩] t)).cell? ⟨w.heap.size, i, none⟩ = some (.string s) ∧ s.size ≤ 1 := by
  intro i hi
  rw [cell_of_row _ _ _ _ _ _ (heap_alloc_new w _)]
  rcases (by omega : i = 0 ∨ i = 1) with rfl | rfl
  · exact ⟨⟨#[a]⟩, rfl, Nat.le_refl _⟩
  · exact ⟨⟨#[b]⟩, rfl, Nat.le_refl _⟩

end Go.Proofs.Yteionibhfkhefaa.W

namespace Go.Proofs.Yteionibhfkhefaa.W
open Go.RowKit K

theorem lits_at (w : World) (ss : List ByteArray) (t : TypeId) (P : ByteArray → Prop) (hP : ∀ s ∈ ss, P s) :
    ∀ i, i < ss.length → ∃ s, (w.alloc (.cells (ss.map Value.string).toArray t)).cell? ⟨w.heap.size, i, none⟩ = some (.string s) ∧ P s := by
  intro i hi
  refine ⟨ss[i], ?_, hP _ (List.getElem_mem hi)⟩
  rw [cell_of_row _ _ _ _ _ _ (heap_alloc_new w _)]
  simp [hi]

theorem Strs.grown {w w' : World} {B n g : Nat} {A : Option Addr} {l : List ByteArray} (h : Strs w B A n l) (hg : w.grownBy w' (some g)) (hB : B ≤ w.heap.size) (hne : ∀ b o, A = some ⟨b, o, none⟩ → b ≠ g) : Strs w' B A n l :=
  ⟨h.len, fun i hi => by
    obtain ⟨b, off, hA, hb, hc⟩ := h.cell i hi
    exact ⟨b, off, hA, hb, (World.cell?_of_block (hg.block b (by omega) (fun e => hne b off hA (by injection e)))).trans hc⟩⟩

/-- each string is short -/
def Short (l : List ByteArray) : Prop := ∀ s ∈ l, s.size ≤ 6
theorem Short.get {l : List ByteArray} (h : Short l) {k : Nat} (hk : k < l.length) : l[k].size ≤ 6 := h _ (List.getElem_mem hk)
theorem Short.fit {l : List ByteArray} (h : Short l) : Fit l := fun s hs => by have := h s hs; unfold maxLen; omega

end Go.Proofs.Yteionibhfkhefaa.W

namespace Go.Proofs.Yteionibhfkhefaa.W
open Go.RowKit K

theorem Short.put {l : List ByteArray} {s : ByteArray} (h : Short l) (hs : s.size ≤ 6) : Short (put l s) := by
  intro x hx
  rcases mem_put.mp hx with rfl | hx
  · exact hs
  · exact h x hx
theorem Short.nil : Short [] := fun s hs => by cases hs
theorem Short.snoc {l : List ByteArray} {s : ByteArray} (h : Short l) (hs : s.size ≤ 6) : Short (l ++ [s]) := by
  intro x hx
  rcases List.mem_append.mp hx with hx | hx
  · exact h x hx
  · rw [List.mem_singleton.mp hx]; exact hs
theorem Own.grown {w w' : World} {base g : Nat} {v : Value} {l : List ByteArray} (h : Own w base v l) (hg : w.grownBy w' (some g)) (hlt : g < base) : Own w' base v l :=
  World.ownsRow.kept h hg (by
    cases e : v.ownBlock with
    | none => exact .inl rfl
    | some k => exact .inr (fun x => by have := (World.ownsRow.lt h k e).1; injection x; omega))
theorem Own.far {w : World} {base g : Nat} {A : Option Addr} {m cc : Nat} {l : List ByteArray} (h : Own w base (.slice A m cc) l) (hlt : g < base) : ∀ b o, A = some ⟨b, o, none⟩ → b ≠ g := by
  rintro b o rfl
  have := (World.ownsRow.lt h b rfl).1
  omega
theorem grown_below {a w w' : World} {r : Option Nat} (h : a.grownBy w r) (hb : Below w.heap.size w w') : a.grownBy w' r :=
  ⟨hb.os.trans h.os, hb.tape.trans h.tape, hb.output.trans h.output, Nat.le_trans h.size hb.size, fun k hk hn => (hb.block k (Nat.lt_of_lt_of_le hk h.size)).trans (h.block k hk hn)⟩

end Go.Proofs.Yteionibhfkhefaa.W

namespace Go.Proofs.Yteionibhfkhefaa.W
open Go.RowKit K

/-- append of some strings that lie in a block -/
theorem app_strs {ops : Array Oper} {rest : List Oper} {o : Oper} {a : Act} {Q : Exit → Act → World → Prop} (hgd : o.guard = none) (s x : Operand)
    (ho : o.op = .call { callee := .builtin .append, args := #[s, x], argTypes := #[22, 22] })
    (w : World) (base : Nat) (v : Value) (l : List ByteArray) (hs : a.eval s = v) (hown : Own w base v l) (b m cc : Nat) (ks : List ByteArray)
    (hx : a.eval x = .slice (some ⟨b, 0, none⟩) m cc) (hm : ks.length = m) (h0 : 0 < m) (hcell : ∀ i (h : i < ks.length), w.cell? ⟨b, i, none⟩ = some (.string ks[i])) (hl : l.length + m ≤ 4398046511104) (hbase : base ≤ w.heap.size)
    (h : ∀ g cap w', Own w' base (.slice (some ⟨g, 0, none⟩) (l.length + m) cap) (l ++ ks) → w.grownBy w' v.ownBlock →
      wpList Try.prog ops Q rest (a.put o.dst (.slice (some ⟨g, 0, none⟩) (l.length + m) cap)) w') : wpList Try.prog ops Q (o :: rest) a w := by
  obtain ⟨i0, hi, hz0, hz1, hz2⟩ := info_parts str_info
  refine wpList_append_lies w hgd s x _ ho base _ i0 (.string ⟨#[]⟩) 1 16 Try.underlying22 hi hz0 hz1 hz2 rfl (by decide) v l.length (l.map Value.string) hs hown ⟨b, 0, none⟩ m cc (ks.map Value.string) hx (by simp [hm]) ?_ ?_ h0 ?_ ?_ hbase _ rfl ?_
  · intro j u hj
    rw [List.getElem?_map] at hj
    rcases Nat.lt_or_ge j ks.length with hlt | hge
    · rw [List.getElem?_eq_getElem hlt] at hj
      simp at hj
      subst hj
      have hadd : (⟨b, 0, none⟩ : Addr).add j = ⟨b, j, none⟩ := by unfold Addr.add; split <;> simp_all
      rw [hadd]
      exact hcell j hlt
    · rw [List.getElem?_eq_none hge] at hj; simp at hj
  · intro u hu
    obtain ⟨x, _, rfl⟩ := List.mem_map.mp hu
    rfl
  · unfold maxLen; omega
  · omega
  · intro g cap w' h2 h3 _ _
    refine h g cap w' ?_ h3
    unfold Own
    rw [List.length_append, List.map_append, hm]
    exact h2

theorem lits_cell (w : World) (ss : List ByteArray) (t : TypeId) : ∀ i (h : i < ss.length), (w.alloc (.cells (ss.map Value.string).toArray t)).cell? ⟨w.heap.size, i, none⟩ = some (.string ss[i]) := by
  intro i hi
  rw [cell_of_row _ _ _ _ _ _ (heap_alloc_new w _)]
  simp [hi]
theorem Short.append {l k : List ByteArray} (h : Short l) (hk : Short k) : Short (l ++ k) := by
  intro x hx
  rcases List.mem_append.mp hx with hx | hx
  · exact h x hx
  · exact hk x hx
theorem grown_own {a w w' : World} {base g : Nat} {v : Value} {l : List ByteArray} (h : a.grownBy w (some g)) (ho : Own w base v l) (hb : a.heap.size ≤ base) (hg : w.grownBy w' v.ownBlock) : a.grownBy w' (some g) :=
  ⟨hg.os.trans h.os, hg.tape.trans h.tape, hg.output.trans h.output, Nat.le_trans h.size hg.size, fun k hk hn => (hg.block k (Nat.lt_of_lt_of_le hk h.size) (fun e => by
    have := (World.ownsRow.lt ho k e.symm).1
    omega)).trans (h.block k hk hn)⟩

/-- the two literals of the loop -/
def litA : List ByteArray := [⟨#[]⟩, ⟨#[97]⟩, ⟨#[98]⟩, ⟨#[99]⟩, ⟨#[100]⟩]
def litB : List ByteArray := [⟨#[]⟩, ⟨#[97]⟩, ⟨#[98]⟩, ⟨#[99]⟩, ⟨#[100]⟩, ⟨#[100, 97]⟩]
theorem rem5 (k : Nat) : ∃ a : Nat, a < 5 ∧ (k : Int).tmod 5 = (a : Int) ∧ (k : Int) % 5 = (a : Int) ∧ (0 : Int) ≤ (a : Int) ∧ (a : Int) < 5 :=
  ⟨k % 5, Nat.mod_lt _ (by omega), by rw [Int.tmod_eq_emod_of_nonneg (by omega)]; simp, by simp, by omega, by omega⟩
theorem quo5 (k : Nat) (h : k < 30) : ∃ b : Nat, b < 6 ∧ (k : Int).tdiv 5 = (b : Int) ∧ (k : Int) / 5 = (b : Int) ∧ (0 : Int) ≤ (b : Int) ∧ (b : Int) < 6 ∧ IntKind.i64.wrap (b : Int) = (b : Int) :=
  ⟨k / 5, by omega, by rw [Int.tdiv_eq_ediv_of_nonneg (by omega)]; simp, by simp, by omega, by omega, IntWalk.i64_in _ ⟨by omega, by omega⟩⟩
theorem getA (a : Nat) (h : a < 5) : ∃ s : ByteArray, s.size ≤ 1 ∧ ∀ h', ([.string ⟨#[]⟩, .string ⟨#[97]⟩, .string ⟨#[98]⟩, .string ⟨#[99]⟩, .string ⟨#[100]⟩] : List Value)[a]'h' = .string s := by
  have h1 : ∀ s ∈ litA, s.size ≤ 1 := by decide
  refine ⟨litA[a]'h, h1 _ (List.getElem_mem _), fun h' => ?_⟩
  have e : ([.string ⟨#[]⟩, .string ⟨#[97]⟩, .string ⟨#[98]⟩, .string ⟨#[99]⟩, .string ⟨#[100]⟩] : List Value) = litA.map Value.string := rfl
  simp only [e, List.getElem_map]
  rfl
theorem getB (b : Nat) (h : b < 6) : ∃ s : ByteArray, s.size ≤ 2 ∧ ∀ h', ([.string ⟨#[]⟩, .string ⟨#[97]⟩, .string ⟨#[98]⟩, .string ⟨#[99]⟩, .string ⟨#[100]⟩, .string ⟨#[100, 97]⟩] : List Value)[b]'h' = .string s := by
  have h1 : ∀ s ∈ litB, s.size ≤ 2 := by decide
  refine ⟨litB[b]'h, h1 _ (List.getElem_mem _), fun h' => ?_⟩
  have e : ([.string ⟨#[]⟩, .string ⟨#[97]⟩, .string ⟨#[98]⟩, .string ⟨#[99]⟩, .string ⟨#[100]⟩, .string ⟨#[100, 97]⟩] : List Value) = litB.map Value.string := rfl
  simp only [e, List.getElem_map]
  rfl
end Go.Proofs.Yteionibhfkhefaa.W

namespace Go.Proofs.Yteionibhfkhefaa.W
open Go.RowKit K

/-- appending nothing changes nothing -/
theorem run_app_nil (w : World) (base : Nat) (v : Value) (l : List ByteArray) (hown : Own w base v l) (A2 : Option Addr) (c2 : Nat) (ty : TypeId) :
    (Builtin.append_ #[22, 22] ty #[v, .slice A2 0 c2]).run Try.prog w = .ok v w := by
  obtain ⟨i0, hi, hz0, hz1, hz2⟩ := info_parts str_info
  rcases hown.2 with ⟨rfl, _⟩ | ⟨g, cap, cur, rfl, _, _, hnc, _⟩
  · cases A2 <;> simp [Builtin.append_, run_underlying Try.underlying22, sizeOf, typeInfo, hi, Builtin.lenOf, Builtin.firstCells, loadCells, loadCellsFrom]
  · cases A2 <;> simp [Builtin.append_, run_underlying Try.underlying22, sizeOf, typeInfo, hi, Builtin.lenOf, Builtin.firstCells, hnc, storeCells, loadCells, loadCellsFrom]

/-- append of a slice that can be read, under a guard that says yes -/
theorem app_own_g {ops : Array Oper} {rest : List Oper} {o : Oper} {a : Act} {Q : Exit → Act → World → Prop} (hw : Region.wanted o (yielded ops a.tmps) = true) (s x : Operand)
    (ho : o.op = .call { callee := .builtin .append, args := #[s, x], argTypes := #[22, 22] })
    (w : World) (base : Nat) (v : Value) (l : List ByteArray) (hs : a.eval s = v) (hown : Own w base v l) (B m cc : Nat) (A2 : Option Addr) (l2 : List ByteArray)
    (hx : a.eval x = .slice A2 m cc) (hr : Strs w B A2 m l2) (hl : l.length + m ≤ 4398046511104) (hbase : base ≤ w.heap.size)
    (h : ∀ v' w', Own w' base v' (l ++ l2) → w.grownBy w' v.ownBlock → wpList Try.prog ops Q rest (a.put o.dst v') w') : wpList Try.prog ops Q (o :: rest) a w := by
  have hlen := hr.len
  refine wpList_step fun K hK => ?_
  rw [if_pos hw]
  by_cases hm : m = 0
  · subst hm
    have : l2 = [] := List.eq_nil_of_length_eq_zero hlen
    subst this
    have hrun := run_app_nil w base v l hown A2 cc o.type
    unfold Oper.wp execOp
    simp only [ho, resolve, invoke, builtin, Sem.run_bind, Sem.run_pure, Result.andThen_ok, List.map_toArray, List.map_cons, List.map_nil, hs, hx, hrun]
    exact hK _ _ (h v w (by rw [List.append_nil]; exact hown) (World.grownBy.refl w _))
  · obtain ⟨b, off, hA, _, _⟩ := hr.cell 0 (by omega)
    subst hA
    obtain ⟨i0, hi, hz0, hz1, hz2⟩ := info_parts str_info
    refine wp_append_lies w s x _ ho base _ i0 (.string ⟨#[]⟩) 1 16 Try.underlying22 hi hz0 hz1 hz2 rfl (by decide) v l.length (l.map Value.string) hs hown ⟨b, off, none⟩ m cc (l2.map Value.string) hx (by simp [hlen]) ?_ ?_ (by omega) ?_ ?_ hbase _ rfl ?_
    · intro j u hj
      rw [List.getElem?_map] at hj
      rcases Nat.lt_or_ge j l2.length with hlt | hge
      · rw [List.getElem?_eq_getElem hlt] at hj
        simp at hj
        subst hj
        obtain ⟨b', off', hA', _, hc⟩ := hr.cell j hlt
        simp only [Option.some.injEq, Addr.mk.injEq, and_true] at hA'
        obtain ⟨rfl, rfl⟩ := hA'
        have hadd : (⟨b, off, none⟩ : Addr).add j = ⟨b, off + j, none⟩ := by unfold Addr.add; split <;> simp_all
        rw [hadd]
        exact hc
      · rw [List.getElem?_eq_none hge] at hj; simp at hj
    · intro u hu
      obtain ⟨x, _, rfl⟩ := List.mem_map.mp hu
      rfl
    · unfold maxLen; omega
    · omega
    · intro g cap w' h2 h3 _ _
      refine hK _ _ (h _ w' ?_ h3)
      unfold Own
      rw [List.length_append, List.map_append, hlen]
      exact h2
/-- append of a slice that can be read -/
theorem app_own {ops : Array Oper} {rest : List Oper} {o : Oper} {a : Act} {Q : Exit → Act → World → Prop} (hgd : o.guard = none) (s x : Operand)
    (ho : o.op = .call { callee := .builtin .append, args := #[s, x], argTypes := #[22, 22] })
    (w : World) (base : Nat) (v : Value) (l : List ByteArray) (hs : a.eval s = v) (hown : Own w base v l) (B m cc : Nat) (A2 : Option Addr) (l2 : List ByteArray)
    (hx : a.eval x = .slice A2 m cc) (hr : Strs w B A2 m l2) (hl : l.length + m ≤ 4398046511104) (hbase : base ≤ w.heap.size)
    (h : ∀ v' w', Own w' base v' (l ++ l2) → w.grownBy w' v.ownBlock → wpList Try.prog ops Q rest (a.put o.dst v') w') : wpList Try.prog ops Q (o :: rest) a w :=
  app_own_g (by simp [Region.wanted, hgd]) s x ho w base v l hs hown B m cc A2 l2 hx hr hl hbase h

/-- a slice of short strings is drawn for a law: in new memory -/
def ListL (w : World) (e : Ending) (w' : World) : Prop :=
  ∃ (A : Option Addr) (c : Nat) (l : List ByteArray), l.length ≤ 100 ∧ Short l ∧ e = .returned (.slice A l.length c) ∧ Own w' w.heap.size (.slice A l.length c) l ∧ Below w.heap.size w w'

/-- two short strings are drawn -/
def TwoL (w : World) (e : Ending) (w' : World) : Prop := ∃ s t : ByteArray, s.size ≤ 6 ∧ t.size ≤ 6 ∧ e = .returned (.tuple #[.string s, .string t]) ∧ Below w.heap.size w w'

theorem one_strs (w : World) (s : ByteArray) : Strs (w.alloc (.cells #[.string s] 9)) (w.heap.size + 1) (some ⟨w.heap.size, 0, none⟩) 1 [s] :=
  ⟨rfl, fun i hi => ⟨w.heap.size, 0, rfl, by omega, by
    obtain rfl : i = 0 := by simpa using hi
    exact cell_new w _ _⟩⟩

/-- short strings and a short string are drawn -/
def PairL (w : World) (e : Ending) (w' : World) : Prop :=
  ∃ (A : Option Addr) (c : Nat) (l : List ByteArray) (s : ByteArray), l.length ≤ 100 ∧ Short l ∧ s.size ≤ 6 ∧ e = .returned (.tuple #[.slice A l.length c, .string s]) ∧ Own w' w.heap.size (.slice A l.length c) l ∧ Below w.heap.size w w'

end Go.Proofs.Yteionibhfkhefaa.W

namespace Go.Proofs.Yteionibhfkhefaa.W
open Go.RowKit K

/-- what is measured: what is left of L, or -1; if something is left all lengths are at most L -/
def Sized (L : Nat) (l : List ByteArray) (w : World) (e : Ending) (w' : World) : Prop :=
  ∃ x : Int, e = .returned (.int .i64 x) ∧ -1 ≤ x ∧ x ≤ (L : Int) ∧ (0 ≤ x → l.length ≤ L ∧ ∀ s ∈ l, s.size ≤ L) ∧ w = w'
/-- the first k are short -/
def upTo (l : List ByteArray) (L k : Nat) : Prop := ∀ i (h : i < l.length), i < k → l[i].size ≤ L

set_option maxHeartbeats 400000 in
theorem sizeS (w : World) (B n c L : Nat) (A : Option Addr) (l : List ByteArray) (hr : Strs w B A n l) (hn : n ≤ maxLen) (hf : Fit l) (hL : L ≤ 1073741824) :
    Calls Try.prog 10 #[.slice A n c, .int .i64 (L : Nat)] w (Sized L l w) := by
  have hlen := hr.len
  subst hlen
  unfold maxLen at hn
  have HR := Lib.hid hr
  have HF := Lib.hid hf
  clear hr hf
  by_cases hb : l.length ≤ L
  · go_enter Try.func10, Try.ntmps10
    go_wp2
    go_loop [1, 5] (fun lv i => ∃ k m : Nat, k ≤ l.length ∧ m ≤ L ∧ i = .int .i64 (k : Nat) ∧ lv = .int .i64 (m : Nat) ∧ upTo l L k) (fun _ i => l.length - (intOf i).toNat)
    case atStart => exact ⟨0, L - l.length, Nat.zero_le _, by omega, rfl, by go_num, fun i _ h => by omega⟩
    case round =>
      obtain ⟨k, m, hk, hm, rfl, rfl, hu⟩ := hrel
      have HU := Lib.hid hu
      clear hu
      by_cases hlt : k < l.length
      · obtain ⟨b, off, hA, hbb, hc⟩ := HR.out.cell k hlt
        subst hA
        have hfit := HF.out.get hlt
        unfold maxLen at hfit
        by_cases hs : l[k].size ≤ m
        · go_wp2
          go_round
          case rel =>
            refine ⟨k + 1, m - l[k].size, by omega, by omega, by go_num, by go_num, fun i hi hik => ?_⟩
            rcases (by omega : i < k ∨ i = k) with h1 | h1
            · exact HU.out i hi h1
            · subst h1; omega
          case measure => simp [intOf]; omega
        · go_wp2
          go_ret
          exact ⟨-1, rfl, by omega, by omega, fun h => by omega, rfl⟩
      · have hke : k = l.length := by omega
        subst hke
        go_wp2
        go_ret
        refine ⟨_, rfl, by omega, by omega, fun _ => ⟨hb, fun s hs => ?_⟩, rfl⟩
        obtain ⟨i, hi, rfl⟩ := List.mem_iff_getElem.mp hs
        exact HU.out i hi hi
  · go_enter Try.func10, Try.ntmps10
    go_wp2
    go_ret
    exact ⟨-1, rfl, by omega, by omega, fun h => by omega, rfl⟩

/-- a string stored into a slice of the call's own -/
theorem Own.set {w : World} {base g n c : Nat} {l : List ByteArray} (h : Own w base (.slice (some ⟨g, 0, none⟩) n c) l) (i : Nat) (s : ByteArray) :
    Own (w.setCell ⟨g, i, none⟩ (.string s)) base (.slice (some ⟨g, 0, none⟩) n c) (l.set i s) := by
  have hn : n = l.length := by
    obtain ⟨A', c', hv, _⟩ := h.parts
    injection hv
  rcases h.2 with ⟨hv, _⟩ | ⟨g', cap, cur, hv, hb, hg, hc, hm, hs, ht⟩
  · injection hv with e; cases e
  · injection hv with e1 e2 e3
    injection e1 with e1
    injection e1 with e1
    subst e1 e2 e3
    refine ⟨by simp, .inr ⟨g, c, cur.setIfInBounds i (.string s), ?_, hb, heap_setCell_same _ _ _ _ _ _ hg, by simpa using hc, hm, by simpa using hs, ?_⟩⟩
    · rw [List.length_set]
    · rw [Array.toList_setIfInBounds, List.length_set, List.take_set, ht, List.map_set]
theorem Own.free {w : World} {base g n c : Nat} {l : List ByteArray} (h : Own w base (.slice (some ⟨g, 0, none⟩) n c) l) (i : Nat) : w.frozen? ⟨g, i, none⟩ = false := by
  rcases h.2 with ⟨hv, _⟩ | ⟨g', cap, cur, hv, hb, hg, _⟩
  · injection hv with e; cases e
  · injection hv with e1
    injection e1 with e1
    injection e1 with e1
    subst e1
    exact frozen_of_row _ _ _ _ _ hg
theorem Own.get {w : World} {base g n c : Nat} {l : List ByteArray} (h : Own w base (.slice (some ⟨g, 0, none⟩) n c) l) (i : Nat) (hi : i < l.length) : w.cell? ⟨g, i, none⟩ = some (.string l[i]) := by
  obtain ⟨A', c', hv, _, _, hs⟩ := h.parts
  injection hv with e1
  obtain ⟨b, off, hA, _, hc⟩ := hs.cell i hi
  rw [← e1] at hA
  injection hA with hA
  injection hA with hA1 hA2
  subst hA1 hA2
  rwa [Nat.zero_add] at hc

/-- so many empty strings -/
def blanks (n : Nat) : List ByteArray := List.replicate n ⟨#[]⟩
theorem copy_step {l : List ByteArray} {k : Nat} (h : k < l.length) : (l.take k ++ blanks (l.length - k)).set k l[k] = l.take (k + 1) ++ blanks (l.length - (k + 1)) := by
  have hl : (l.take k).length = k := by rw [List.length_take]; omega
  have hb : blanks (l.length - k) = ⟨#[]⟩ :: blanks (l.length - (k + 1)) := by
    unfold blanks
    rw [show l.length - k = (l.length - (k + 1)) + 1 by omega, List.replicate_succ]
  rw [hb, List.set_append_right _ _ (by omega), hl, Nat.sub_self, List.set_cons_zero, take_get h, List.append_assoc]
  rfl

theorem made_own {w : World} {base n : Nat} {v : Value} (h : w.ownsRow base 9 1 v n (madeCells (Value.cells (.string ⟨#[]⟩)) (n * 1)).toList) : Own w base v (blanks n) := by
  unfold Own blanks
  rw [List.length_replicate, List.map_replicate, ← toList_madeCells_one]
  rw [Nat.mul_one] at h
  exact h

set_option maxHeartbeats 1000000 in
theorem copyS (w : World) (B n c : Nat) (A : Option Addr) (l : List ByteArray) (hr : Strs w B A n l) (hB : B ≤ w.heap.size) (hn : n ≤ 1073741824) :
    Calls Try.prog 13 #[.slice A n c] w (New w l) := by
  have hlen := hr.len
  subst hlen
  have HR := Lib.hid hr
  clear hr
  obtain ⟨i0, hi, hz0, hz1, hz2⟩ := info_parts str_info
  go_enter Try.func13, Try.ntmps13
  go_wp2_with (at_make; refine wpList_make_full w rfl (.tmp 6) (.tmp 6) 22 rfl w.heap.size 9 i0 (.string ⟨#[]⟩) 1 Try.underlying22 hi hz0 hz1 .i64 .i64 _ _ l.length rfl rfl rfl rfl (by rw [hz2]; omega) (by unfold maxLen; omega) (Nat.le_refl _) ?_; intro w1 ho1 hg1)
  have HO1 := Lib.hid (made_own ho1)
  have HB1 := Lib.hid ((Below.refl w.heap.size w).grown hg1 (Nat.le_refl _) (fun k e => by cases e))
  clear ho1 hg1 hi hz0 hz1 hz2
  go_wp2_with fail
  go_loopw [4] (fun i wr => ∃ k : Nat, k ≤ l.length ∧ i = .int .i64 (k : Nat) ∧ Own wr w.heap.size (.slice (some ⟨w.heap.size, 0, none⟩) l.length l.length) (l.take k ++ blanks (l.length - k)) ∧ Below w.heap.size w wr) (fun i _ => l.length - (intOf i).toNat)
  case atStart => exact ⟨0, Nat.zero_le _, rfl, by simpa using HO1.out, HB1.out⟩
  case round =>
    obtain ⟨k, hk, rfl, ho, hb⟩ := hrel
    have HO := Lib.hid ho
    have HB := Lib.hid hb
    clear ho hb HO1 HB1
    by_cases hlt : k < l.length
    · obtain ⟨b, off, hA, hbB, hc⟩ := (HR.out.below HB.out hB).cell k hlt
      subst hA
      have hcell := HO.out.get k (by simp [blanks]; omega)
      have hfz := HO.out.free k
      go_wp2
      go_roundw
      case rel => exact ⟨k + 1, by omega, by go_num, by rw [← copy_step hlt]; exact HO.out.set k l[k], HB.out.setCell (Nat.le_refl _) _⟩
      case measure => simp [intOf]; omega
    · have hke : k = l.length := by omega
      subst hke
      go_wp2
      go_ret
      exact ⟨_, rfl, by simpa [blanks] using HO.out, HB.out⟩

end Go.Proofs.Yteionibhfkhefaa.W

namespace Go.Proofs.Yteionibhfkhefaa.W
open Go.RowKit K

/-- the decimals of a number -/
def digs (k : Nat) : List UInt8 := if _h : k = 0 then [] else digs (k / 10) ++ [UInt8.ofNat (48 + k % 10)]
termination_by k
decreasing_by omega
theorem digs_zero : digs 0 = [] := by unfold digs; simp
theorem digs_pos {k : Nat} (h : 0 < k) : digs k = digs (k / 10) ++ [UInt8.ofNat (48 + k % 10)] := by
  conv => lhs; unfold digs
  rw [dif_neg (by omega)]
/-- the last decimal, as a string -/
def dch (k : Nat) : ByteArray := ⟨#[UInt8.ofNat (48 + k % 10)]⟩
def digB (k : Nat) : ByteArray := ⟨(digs k).toArray⟩
/-- the text that marks a number -/
def markB (k : Nat) : ByteArray := ⟨#[109]⟩ ++ digB k
theorem digB_zero : digB 0 = ⟨#[]⟩ := by unfold digB; rw [digs_zero]
theorem digB_pos {k : Nat} (h : 0 < k) : digB k = digB (k / 10) ++ dch k := by
  unfold digB dch
  rw [digs_pos h]
  apply ba_ext
  rw [ByteArray.toList_eq, ByteArray.toList_eq]
  simp
theorem app_assoc (a b c : ByteArray) : a ++ b ++ c = a ++ (b ++ c) := ByteArray.append_assoc
theorem nil_app (a : ByteArray) : (⟨#[]⟩ : ByteArray) ++ a = a := by
  apply ba_ext
  rw [ByteArray.toList_eq, ByteArray.toList_eq]
  simp

/-- a slice of one byte as a string -/
theorem conv1 (W : World) (d : Nat) : (convert 44 9 (.slice (some ⟨W.heap.size, 0, none⟩) 1 1)).run Try.prog (W.alloc (.cells #[.int .u8 (d : Nat)] 5)) =
    .ok (.string ⟨#[UInt8.ofNat d]⟩) (W.alloc (.cells #[.int .u8 (d : Nat)] 5)) := by
  rw [run_convert_bytes_string _ _ _ _ _ _ _ Try.underlying44 Try.underlying5 Try.underlying9]
  rw [run_bytesToString (P := Try.prog) _ ⟨W.heap.size, 0, none⟩ 1 1 [(d : Int)] ?_]
  · rfl
  · have hc := cell_new W (.int .u8 (d : Nat)) 5
    simp [loadCells, loadCellsFrom, Addr.add, hc]

set_option maxHeartbeats 1000000 in
theorem markT (K0 : Nat) (w : World) (h0 : 0 < K0) (h1 : K0 ≤ 1073741824) :
    Calls Try.prog 18 #[.int .i64 (K0 : Nat)] w fun e w' => e = .returned (.string (markB K0)) ∧ Below w.heap.size w w' := by
  go_enter Try.func18, Try.ntmps18
  go_wp2
  go_loopw [0, 3] (fun kv ov wr => ∃ (m : Nat) (o : ByteArray), kv = .int .i64 (m : Nat) ∧ ov = .string o ∧ m ≤ K0 ∧ o.size + m ≤ K0 ∧ Hid (digB K0 = digB m ++ o) ∧ Below w.heap.size w wr) (fun kv _ _ => (intOf kv).toNat)
  case atStart => exact ⟨K0, _, rfl, rfl, Nat.le_refl _, by show 0 + K0 ≤ K0; omega, Lib.hid (by apply ba_ext; rw [ByteArray.toList_eq, ByteArray.toList_eq]; simp), Below.refl _ _⟩
  case round =>
    obtain ⟨m, o, rfl, rfl, hm, ho, hd, hb⟩ := hrel
    have HB := Lib.hid hb
    clear hb
    by_cases hp : 0 < m
    · have hcv := conv1 wr (48 + m % 10)
      rw [show ((48 + m % 10 : Nat) : Int) = 48 + (m : Int) % 10 by omega] at hcv
      have hcw : (convert 44 9 (.slice (some ⟨wr.heap.size, 0, none⟩) 1 1)).run Try.prog (wr.alloc (.cells #[.int .u8 (48 + (m : Int) % 10)] 5)) = .ok (.string (dch m)) (wr.alloc (.cells #[.int .u8 (48 + (m : Int) % 10)] 5)) := hcv
      clear hcv
      have hds : (dch m).size = 1 := rfl
      go_wp2
      go_roundw
      case rel =>
        refine ⟨m / 10, dch m ++ o, by go_num, rfl, by omega, ?_, Lib.hid ?_, HB.out.alloc HB.out.size _⟩
        · rw [ByteArray.size_append]; show 1 + o.size + m / 10 ≤ K0; omega
        · rw [hd.out, digB_pos hp, app_assoc]
      case measure => simp [intOf]; omega
    · have hm0 : m = 0 := by omega
      subst hm0
      go_wp2
      go_ret
      exact ⟨by rw [markB, hd.out, digB_zero, nil_app]; rfl, HB.out⟩

/-- the marks from a number on -/
def marks (k n : Nat) : List ByteArray := (List.range n).map fun i => markB (k + i)
theorem marks_len (k n : Nat) : (marks k n).length = n := by simp [marks]
theorem marks_get (k n i : Nat) (h : i < (marks k n).length) : (marks k n)[i] = markB (k + i) := by simp [marks]
theorem mark_step {l : List ByteArray} {K0 k : Nat} (h : k < l.length) : (marks K0 k ++ l.drop k).set k (markB (K0 + k)) = marks K0 (k + 1) ++ l.drop (k + 1) := by
  rw [List.set_append_right _ _ (by rw [marks_len]; exact Nat.le_refl _), marks_len, Nat.sub_self, List.drop_eq_getElem_cons h, List.set_cons_zero]
  unfold marks
  rw [List.range_succ, List.map_append, List.append_assoc]
  rfl
theorem Own.block {w : World} {base n c : Nat} {A : Option Addr} {l : List ByteArray} (h : Own w base (.slice A n c) l) (hp : 0 < l.length) : ∃ g, A = some ⟨g, 0, none⟩ ∧ base ≤ g ∧ g < w.heap.size := by
  rcases h.2 with ⟨_, h0⟩ | ⟨g, cap, cur, hv, hb, hg, _⟩
  · omega
  · injection hv with e
    exact ⟨g, e, hb, (Array.getElem?_eq_some_iff.1 hg).1⟩

/-- a slice of the call's own has been marked; nothing else has turned -/
def Marked (base K0 n : Nat) (v : Value) (w : World) (e : Ending) (w' : World) : Prop :=
  e = .returned (.int .i64 ((K0 + n : Nat) : Int)) ∧ Own w' base v (marks K0 n) ∧ w.grownBy w' v.ownBlock

theorem grown_below_row {a w w' : World} {r : Option Nat} (h : a.grownBy w r) (hb : Below w.heap.size w w') : a.grownBy w' r :=
  ⟨hb.os.trans h.os, hb.tape.trans h.tape, hb.output.trans h.output, Nat.le_trans h.size hb.size, fun k hk hn => (hb.block k (Nat.lt_of_lt_of_le hk h.size)).trans (h.block k hk hn)⟩
theorem grown_set {a w : World} {g : Nat} (h : a.grownBy w (some g)) (i : Nat) (u : Value) : a.grownBy (w.setCell ⟨g, i, none⟩ u) (some g) :=
  ⟨h.os, h.tape, h.output, by simpa [World.setCell] using h.size, fun k hk hn => (heap_setCell_other _ _ _ _ (fun e => hn (by rw [e]))).trans (h.block k hk hn)⟩

set_option maxHeartbeats 1000000 in
theorem markS (w : World) (base n c K0 : Nat) (A : Option Addr) (l : List ByteArray) (ho : Own w base (.slice A n c) l) (h0 : 0 < K0) (h1 : K0 + n ≤ 1073741824) :
    Calls Try.prog 8 #[.slice A n c, .int .i64 (K0 : Nat)] w (Marked base K0 n (.slice A n c) w) := by
  have hlen : n = l.length := by
    obtain ⟨A', c', hv, _⟩ := ho.parts
    injection hv
  subst hlen
  have HO := Lib.hid ho
  clear ho
  go_enter Try.func8, Try.ntmps8
  go_wp2
  go_loopw [1, 5] (fun kv i wr => ∃ k : Nat, k ≤ l.length ∧ i = .int .i64 (k : Nat) ∧ kv = .int .i64 ((K0 + k : Nat) : Int) ∧ Own wr base (.slice A l.length c) (marks K0 k ++ l.drop k) ∧ w.grownBy wr (Value.slice A l.length c).ownBlock) (fun _ i _ => l.length - (intOf i).toNat)
  case atStart => exact ⟨0, Nat.zero_le _, rfl, rfl, by simpa [marks] using HO.out, World.grownBy.refl _ _⟩
  case round =>
    obtain ⟨k, hk, rfl, rfl, hor, hgr⟩ := hrel
    have HOR := Lib.hid hor
    have HGR := Lib.hid hgr
    clear hor hgr
    by_cases hlt : k < l.length
    · obtain ⟨g, hA, hbg, hgl⟩ := HOR.out.block (by simp; omega)
      subst hA
      go_wp2_with fail
      go_at_call 18
      have hmt := markT (K0 + k) wr (by omega) (by omega)
      rw [show ((K0 + k : Nat) : Int) = (K0 : Int) + (k : Int) by omega] at hmt
      refine hmt.mono ?_
      rintro e w2 ⟨rfl, hb2⟩
      have HO2 := Lib.hid (HOR.out.below hb2)
      have HG2 := Lib.hid (grown_below_row HGR.out hb2)
      have hcell := HO2.out.get k (by simp [marks]; omega)
      have hfz := HO2.out.free k
      clear hmt hb2
      go_wp2
      go_roundw
      case rel => exact ⟨k + 1, by omega, by go_num, by go_num, by rw [← mark_step hlt]; exact HO2.out.set k (markB (K0 + k)), grown_set HG2.out _ _⟩
      case measure => simp [intOf]; omega
    · have hke : k = l.length := by omega
      subst hke
      go_wp2
      go_ret
      refine ⟨ret_int (by omega), by simpa using HOR.out, HGR.out⟩

end Go.Proofs.Yteionibhfkhefaa.W

namespace Go.Proofs.Yteionibhfkhefaa.W
open Go.RowKit K

theorem Below.of_drew {B : Nat} {w w' : World} (h : Below B w.drew w') : Below B w w' := ⟨h.os, h.tape, h.output, h.size, h.block⟩

set_option maxHeartbeats 1000000 in
theorem heldS (w : World) (B n c K0 : Nat) (A : Option Addr) (hr : Strs w B A n (marks K0 n)) (hB : B ≤ w.heap.size) (h0 : 0 < K0) (h1 : K0 + n ≤ 1073741824) :
    Calls Try.prog 9 #[.slice A n c, .int .i64 (K0 : Nat)] w fun e w' => e = .returned (.int .i64 ((K0 + n : Nat) : Int)) ∧ Below w.heap.size w w' := by
  have HR := Lib.hid hr
  clear hr
  go_enter Try.func9, Try.ntmps9
  go_wp2
  go_loopw [1, 5] (fun kv i wr => ∃ k : Nat, k ≤ n ∧ i = .int .i64 (k : Nat) ∧ kv = .int .i64 ((K0 + k : Nat) : Int) ∧ Below w.heap.size w wr) (fun _ i _ => n - (intOf i).toNat)
  case atStart => exact ⟨0, Nat.zero_le _, rfl, rfl, Below.refl _ _⟩
  case round =>
    obtain ⟨k, hk, rfl, rfl, hb⟩ := hrel
    have HB := Lib.hid hb
    have hsz := hb.size
    clear hb
    by_cases hlt : k < n
    · obtain ⟨b, off, hA, hbB, hc⟩ := (HR.out.below HB.out hB).cell k (by rw [marks_len]; exact hlt)
      rw [marks_get] at hc
      subst hA
      have HMT := Lib.hid (fun W => markT (K0 + k) W (by omega) (by omega))
      rw [show ((K0 + k : Nat) : Int) = (K0 : Int) + (k : Int) by omega] at HMT
      have hbw : b < wr.heap.size := by omega
      have HC := Lib.hid hc
      go_wp2
      go_region_with ((go_at_call 18; refine (HMT.out _).mono ?_; rintro e w2 ⟨rfl, hb2⟩; have hc2 : w2.cell? ⟨b, off + k, none⟩ = some (.string (markB (K0 + k))) := (hb2.cell (p := ⟨b, off + k, none⟩) hbw).trans HC.out))
      all_goals
        have HB2 := Lib.hid (HB.out.trans (Below.mono (Below.of_drew hb2) hsz))
        clear hb2
        go_wp2
        go_roundw
        case rel => exact ⟨k + 1, by omega, by go_num, by go_num, HB2.out⟩
        case measure => simp [intOf]; omega
    · have hke : k = n := by omega
      subst hke
      go_wp2
      go_ret
      exact ⟨ret_int (by omega), HB.out⟩

end Go.Proofs.Yteionibhfkhefaa.W

namespace Go.Proofs.Yteionibhfkhefaa.W
open Go.RowKit K

def IsStrs (w : World) (A : Option Addr) (n c : Nat) (l : List ByteArray) : Prop := Strs w w.heap.size A n l ∧ n ≤ c ∧ c ≤ maxLen ∧ Fit l
theorem isStrs_nil (w : World) : IsStrs w none 0 0 [] := ⟨Strs.nil _ _ _, Nat.le_refl _, by unfold maxLen; omega, fun s hs => by cases hs⟩
theorem isStrs_of {w : World} {a : Addr} {len cap : Nat} {ss : List ByteArray} (hl : len ≤ cap) (hm : cap ≤ maxLen) (hz : len ≤ ss.length)
    (hcell : ∀ i, i < ss.length → w.cell? (a.add i) = some (.string (ss.getD i ByteArray.empty))) (hws : ∀ s ∈ ss, s.size ≤ maxLen) : IsStrs w (some a) len cap (ss.take len) := by
  refine ⟨⟨by rw [List.length_take]; omega, fun i hi => ?_⟩, hl, hm, fun s hs => hws s (List.mem_of_mem_take hs)⟩
  rw [List.length_take] at hi
  obtain ⟨b, off, spot⟩ := a
  have hspot : spot = none := by
    have hc0 := hcell 0 (by omega)
    simpa [Addr.add] using World.cell?_spot hc0
  subst hspot
  have hc := hcell i (by omega)
  rw [List.getD_eq_getElem?_getD, List.getElem?_eq_getElem (by omega)] at hc
  have hc' : w.cell? ⟨b, off + i, none⟩ = some (.string ss[i]) := by
    by_cases hi0 : i = 0
    · subst hi0; simpa [Addr.add] using hc
    · simpa [Addr.add, hi0] using hc
  exact ⟨b, off, rfl, block_lt_of_cell hc', by rw [List.getElem_take]; exact hc'⟩

end Go.Proofs.Yteionibhfkhefaa.W

