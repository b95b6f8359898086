/-
  What a law is told of a slice of strings that came in: it can be read, and each string is one that Go can hold.
-/
import Derived.Test.YtipkhpijanhfiaaS2
namespace Go.Proofs.Ytipkhpijanhfiaa.W
open Go.RowKit K

def IsStrs (w : World) (A : Option Addr) (n c : Nat) (l : List ByteArray) : Prop := Strs w w.heap.size A n l ∧ n ≤ c ∧ c ≤ maxLen ∧ Fit l
theorem isStrs_nil (w : World) : IsStrs w none 0 0 [] := ⟨Strs.nil _ _ _, Nat.le_refl _, by unfold maxLen; omega, fun s hs => by cases hs⟩
theorem isStrs_of {w : World} {a : Addr} {len cap : Nat} {ss : List ByteArray} (hl : len ≤ cap) (hm : cap ≤ maxLen) (hz : len ≤ ss.length)
    (hcell : ∀ i, i < ss.length → w.cell? (a.add i) = some (.string (ss.getD i ByteArray.empty))) (hws : ∀ s ∈ ss, s.size ≤ maxLen) : IsStrs w (some a) len cap (ss.take len) := by
  refine ⟨⟨by rw [List.length_take]; omega, fun i hi => ?_⟩, hl, hm, fun s hs => hws s (List.mem_of_mem_take hs)⟩
  rw [List.length_take] at hi
  obtain ⟨b, off, spot⟩ := a
  have hspot : spot = none := by
    have hc0 := hcell 0 (by omega)
    simpa [Addr.add] using World.cell?_spot hc0
  subst hspot
  have hc := hcell i (by omega)
  rw [List.getD_eq_getElem?_getD, List.getElem?_eq_getElem (by omega)] at hc
  have hc' : w.cell? ⟨b, off + i, none⟩ = some (.string ss[i]) := by
    by_cases hi0 : i = 0
    · subst hi0; simpa [Addr.add] using hc
    · simpa [Addr.add, hi0] using hc
  exact ⟨b, off, rfl, block_lt_of_cell hc', by rw [List.getElem_take]; exact hc'⟩

end Go.Proofs.Ytipkhpijanhfiaa.W
