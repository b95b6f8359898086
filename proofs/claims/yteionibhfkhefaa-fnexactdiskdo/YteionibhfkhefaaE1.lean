/-
  Entries in memory; what the model says of an entry, and of two.
-/
import Derived.Test.YteionibhfkhefaaJ2
import Derived.Test.YteionibhfkhefaaRA
namespace Go.Proofs.Yteionibhfkhefaa.W
open Go.RowKit K R

/-- an entry as Go hands it on -/
def enV (e : En) : Value := .agg #[.string e.key, .int .i64 e.val, .bool e.gone, .int .i64 e.time]
/-- a slice of entries reads as l, in blocks below B -/
structure Ents (w : World) (B : Nat) (A : Option Addr) (n : Nat) (l : List En) : Prop where
  len : l.length = n
  cell : ∀ i (h : i < l.length), ∃ b off : Nat, A = some ⟨b, off, none⟩ ∧ b < B ∧ w.cell? ⟨b, off + i * 4, none⟩ = some (.string l[i].key) ∧ w.cell? ⟨b, off + i * 4 + 1, none⟩ = some (.int .i64 l[i].val) ∧ w.cell? ⟨b, off + i * 4 + 2, none⟩ = some (.bool l[i].gone) ∧ w.cell? ⟨b, off + i * 4 + 3, none⟩ = some (.int .i64 l[i].time)
theorem Ents.below {w w' : World} {B B' n : Nat} {A : Option Addr} {l : List En} (h : Ents w B A n l) (hb : Below B' w w') (hB : B ≤ B') : Ents w' B A n l :=
  ⟨h.len, fun i hi => by
    obtain ⟨b, off, hA, hlt, c0, c1, c2, c3⟩ := h.cell i hi
    have hlt' : b < B' := Nat.lt_of_lt_of_le hlt hB
    exact ⟨b, off, hA, hlt, (hb.cell (p := ⟨b, off + i * 4, none⟩) hlt').trans c0, (hb.cell (p := ⟨b, off + i * 4 + 1, none⟩) hlt').trans c1, (hb.cell (p := ⟨b, off + i * 4 + 2, none⟩) hlt').trans c2, (hb.cell (p := ⟨b, off + i * 4 + 3, none⟩) hlt').trans c3⟩⟩
theorem Ents.more {w : World} {B B' n : Nat} {A : Option Addr} {l : List En} (h : Ents w B A n l) (hB : B ≤ B') : Ents w B' A n l :=
  ⟨h.len, fun i hi => by
    obtain ⟨b, off, hA, hlt, r⟩ := h.cell i hi
    exact ⟨b, off, hA, Nat.lt_of_lt_of_le hlt hB, r⟩⟩
theorem okE_parts (e : En) : okE e = (keyB e.key && (inB e.val 0 99 && ((!e.gone || decide (e.val = 0)) && inB e.time 1 999))) := by
  unfold okE inB
  cases keyB e.key <;> simp

/-- two strings, one way of three -/
theorem tri (a b : ByteArray) : (Op.bytesLess a.toList b.toList = true ∧ (a.toList == b.toList) = false) ∨ (Op.bytesLess a.toList b.toList = false ∧ a = b) ∨ (Op.bytesLess a.toList b.toList = false ∧ (a.toList == b.toList) = false) := by
  rcases Bool.eq_false_or_eq_true (lt a b) with h | h
  · exact .inl ⟨h, eqs_false.mpr (lt_ne h)⟩
  · rcases Bool.eq_false_or_eq_true (lt b a) with h2 | h2
    · exact .inr (.inr ⟨h, eqs_false.mpr (lt_ne h2).symm⟩)
    · exact .inr (.inl ⟨h, lt_total h h2⟩)
theorem ahead_v (k k2 : ByteArray) (v v2 : Int) (g g2 : Bool) (t t2 : Int) : R.ahead ⟨k, v, g, t⟩ ⟨k2, v2, g2, t2⟩ = (Op.bytesLess k.toList k2.toList || ((k.toList == k2.toList) && decide (t2 < t))) := rfl

/-- a world with the same memory lies as the first one does -/
theorem bel2 {b a W : World} (h : Below b.heap.size b a) (h1 : W.heap = a.heap) (h2 : W.os = a.os) (h3 : W.tape = a.tape) (h4 : W.output = a.output) : Below b.heap.size b W :=
  ⟨h2.trans h.os, h3.trans h.tape, h4.trans h.output, by rw [h1]; exact h.size, fun k hk => by rw [h1]; exact h.block k hk⟩
/-- the first entries are as a run wants them -/
def goodE (l : List En) (k : Nat) : Prop := (∀ i (h : i < l.length), i < k → okE l[i] = true) ∧ ∀ i (h : i + 1 < l.length), i + 1 < k → R.ahead l[i] l[i + 1] = true
theorem goodE_zero (l : List En) : goodE l 0 := ⟨fun i _ h => by omega, fun i _ h => by omega⟩
theorem goodE_one {l : List En} (h : 0 < l.length) (hk : okE l[0] = true) : goodE l 1 :=
  ⟨fun i _ h1 => by have : i = 0 := by omega
                    subst this; exact hk, fun i _ h1 => by omega⟩
theorem goodE_succ {l : List En} {k : Nat} (g : goodE l (k + 1)) (h : k + 1 < l.length) (hk : okE l[k + 1] = true) (hl : R.ahead l[k] l[k + 1] = true) : goodE l (k + 2) :=
  ⟨fun i hi h1 => by
    by_cases e : i = k + 1
    · subst e; exact hk
    · exact g.1 i hi (by omega), fun i hi h1 => by
    by_cases e : i = k
    · subst e; exact hl
    · exact g.2 i hi (by omega)⟩
theorem adjE_of : ∀ {l : List En}, (∀ i (h : i + 1 < l.length), R.ahead l[i] l[i + 1] = true) → adjE l = true
  | [], _ => rfl
  | [_], _ => rfl
  | a :: b :: t, h => by
    unfold adjE
    rw [Bool.and_eq_true]
    exact ⟨h 0 (by simp), adjE_of fun i hi => h (i + 1) (by simp only [List.length_cons] at hi ⊢; omega)⟩
theorem goodE_end {l : List En} (g : goodE l l.length) : runB l = decide (l.length ≤ 40) := by
  unfold runB
  have h1 : l.all okE = true := by
    rw [List.all_eq_true]
    intro e he
    obtain ⟨i, hi, rfl⟩ := List.getElem_of_mem he
    exact g.1 i hi hi
  rw [h1, adjE_of fun i hi => g.2 i hi hi]
  simp
theorem badE_ok {l : List En} {k : Nat} (h : k < l.length) (hk : okE l[k] = false) : runB l = false := by
  rw [← Bool.not_eq_true, run_iff]
  rintro ⟨-, h2, -⟩
  rw [h2 _ (List.getElem_mem h)] at hk; cases hk
theorem badE_ord {l : List En} {k : Nat} (h : k + 1 < l.length) (hk : R.ahead l[k] l[k + 1] = false) : runB l = false := by
  rw [← Bool.not_eq_true, run_iff]
  rintro ⟨-, -, h3⟩
  rw [(List.pairwise_iff_getElem.mp h3) k (k + 1) (by omega) h (by omega)] at hk; cases hk
theorem badE_long {l : List En} (h : ¬ l.length ≤ 40) : runB l = false := by
  unfold runB
  rw [decide_eq_false h]; rfl

end Go.Proofs.Yteionibhfkhefaa.W
