/-
  The laws of keys, as walks over the contracts of the program's functions, which come in as one premise (it is proved of the landed code elsewhere).
-/
import Derived.Test.YtjjalagmlbaafaaJ3
import Derived.Test.YtjjalagmlbaafaaJ2
namespace Go.Proofs.Ytjjalagmlbaafaa.W
open Go.RowKit K

theorem Strs.take {w : World} {B n : Nat} {A : Option Addr} {l : List ByteArray} (h : Strs w B A n l) {k : Nat} (hk : k ≤ n) : Strs w B A k (l.take k) :=
  ⟨by rw [List.length_take, h.len]; omega, fun i hi => by
    rw [List.length_take] at hi
    obtain ⟨b, off, hA, hb, hc⟩ := h.cell i (by omega)
    exact ⟨b, off, hA, hb, by rw [List.getElem_take]; exact hc⟩⟩
/-- the rest of a slice, as the model lays it -/
theorem Strs.drop {w : World} {B n c : Nat} {A : Option Addr} {l : List ByteArray} (h : Strs w B A n l) (hc : n ≤ c) {k : Nat} (hk : k ≤ n) :
    Strs w B (if c = k then A else A.map (·.add k)) (n - k) (l.drop k) :=
  ⟨by rw [List.length_drop, h.len], fun i hi => by
    rw [List.length_drop] at hi
    obtain ⟨b, off, hA, hb, hcell⟩ := h.cell (k + i) (by omega)
    have hlen := h.len
    rw [if_neg (by omega), hA]
    refine ⟨b, off + k, ?_, hb, ?_⟩
    · simp only [Option.map_some]
      unfold Addr.add
      split
      · rename_i h0; subst h0; rfl
      · rfl
    · rw [List.getElem_drop, Nat.add_assoc]; exact hcell⟩
theorem Fit.take {l : List ByteArray} (h : Fit l) (k : Nat) : Fit (l.take k) := fun s hs => h s (List.mem_of_mem_take hs)
theorem Fit.drop {l : List ByteArray} (h : Fit l) (k : Nat) : Fit (l.drop k) := fun s hs => h s (List.mem_of_mem_drop hs)
theorem Fit.sort {l : List ByteArray} (h : Fit l) : Fit (sort l) := fun s hs => h s (mem_sort.mp hs).1
theorem Own.strs {w : World} {base : Nat} {A : Option Addr} {n c : Nat} {l : List ByteArray} (h : Own w base (.slice A n c) l) : Strs w w.heap.size A n l ∧ n ≤ c ∧ c ≤ maxLen := by
  obtain ⟨A', c', hv, h1, h2, h3⟩ := h.parts
  injection hv with e1 e2 e3
  subst e1 e2 e3
  exact ⟨h3, h1, h2⟩

end Go.Proofs.Ytjjalagmlbaafaa.W
