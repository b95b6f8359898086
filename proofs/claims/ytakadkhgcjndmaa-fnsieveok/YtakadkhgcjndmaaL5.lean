/-
  The exact laws of keys, as walks over the contracts of the program's functions.
-/
import Derived.Test.YtakadkhgcjndmaaL2
import Derived.Test.YtakadkhgcjndmaaJ3
namespace Go.Proofs.Ytakadkhgcjndmaa.W
open Go.RowKit K

theorem own_len {w : World} {base n c : Nat} {A : Option Addr} {l : List ByteArray} (h : Own w base (.slice A n c) l) : n = l.length := by
  obtain ⟨A', c', hv, _⟩ := h.parts
  injection hv
theorem marked_below {w w' : World} {base : Nat} {v : Value} {l : List ByteArray} (h : Own w base v l) (hg : w.grownBy w' v.ownBlock) (hb : base ≤ w.heap.size) : Below base w w' :=
  (Below.refl base w).grown hg hb fun k hk => (World.ownsRow.lt h k hk).1
theorem own_apart {w w' : World} {b2 : Nat} {v1 v2 : Value} {l2 : List ByteArray} (h2 : Own w b2 v2 l2) (hg : w.grownBy w' v1.ownBlock) (hlt : ∀ k, v1.ownBlock = some k → k < b2) : Own w' b2 v2 l2 :=
  World.ownsRow.kept h2 hg (by
    cases e : v2.ownBlock with
    | none => exact .inl rfl
    | some k =>
      refine .inr fun x => ?_
      have h3 := (World.ownsRow.lt h2 k e).1
      have h4 := hlt k x.symm
      omega)

end Go.Proofs.Ytakadkhgcjndmaa.W
