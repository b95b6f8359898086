/-
  What the laws of runs draw: entries, keys and times.
-/
import Derived.Test.YtbckgmfopbpocaaDoorEO
import Derived.Test.YtbckgmfopbpocaaDoorJ3
import Derived.Test.YtbckgmfopbpocaaDoorEE
import Derived.OwnWalk
namespace Go.Proofs.YtbckgmfopbpocaaDoor.W
open Go.RowKit K R

theorem below_g {w a b : World} {g : Nat} (h : Below w.heap.size w a) (hg : a.grownBy b (some g)) (hlt : w.heap.size ≤ g) : Below w.heap.size w b :=
  h.grown hg h.size (fun k e => by injection e; omega)
/-- entries that are there: few, with short keys -/
structure Few (w : World) (A : Option Addr) (c : Nat) (l : List En) : Prop where
  len : l.length ≤ 45
  short : ∀ e ∈ l, e.key.size ≤ 6
  ents : Ents w w.heap.size A l.length l
  cap : l.length ≤ c
  most : c ≤ maxLen
theorem Few.fit {w : World} {A : Option Addr} {c : Nat} {l : List En} (h : Few w A c l) : ∀ e ∈ l, e.key.size ≤ maxLen := fun e he => by have := h.short e he; unfold maxLen; omega
theorem Few.below {w w' : World} {A : Option Addr} {c : Nat} {l : List En} (h : Few w A c l) (hb : Below w.heap.size w w') : Few w' A c l := ⟨h.len, h.short, (h.ents.below hb (Nat.le_refl _)).more hb.size, h.cap, h.most⟩
theorem few_of {w : World} {base : Nat} {v : Value} {l : List En} (h : OwnE w base v l) (hl : l.length ≤ 45) (hs : ∀ e ∈ l, e.key.size ≤ 6) : ∃ A c, v = .slice A l.length c ∧ Few w A c l := by
  obtain ⟨A, c, hv, h1, h2, h3⟩ := ownE_parts h
  exact ⟨A, c, hv, ⟨hl, hs, h3, h1, h2⟩⟩
theorem short_keys {l : List En} (h : ∀ e ∈ l, e.key.size ≤ 6) : Short (keysL l) := fun s hs => by
  obtain ⟨e, he, rfl⟩ := mem_keysL.mp hs
  exact h e he
theorem keysL_len (l : List En) : (keysL l).length ≤ l.length := keysUp_len _ _

/-- a run, a key and a time -/
def AtD (w : World) (e : Ending) (w' : World) : Prop :=
  ∃ (A : Option Addr) (c : Nat) (l : List En) (s : ByteArray) (t : Nat), s.size ≤ 6 ∧ t ≤ 70 ∧ e = .returned (.tuple #[.slice A l.length c, .string s, .int .i64 (t : Nat)]) ∧ Few w' A c l ∧ Below w.heap.size w w'

end Go.Proofs.YtbckgmfopbpocaaDoor.W
