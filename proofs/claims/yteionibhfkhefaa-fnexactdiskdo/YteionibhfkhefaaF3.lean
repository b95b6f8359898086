/-
  What a law is told of a slice of entries that came in: it can be read, and each key is a string that Go can hold.
-/
import Derived.Test.YteionibhfkhefaaE1
import Derived.ProofKit
import Derived.OpenShut
import Derived.ShutString
import Derived.SliceStrings
namespace Go.Proofs.Yteionibhfkhefaa.W
open Go.ChangeShapes Go.WideShapes Go.ChangeAt Go.RowKit K R

def IsEnts (w : World) (A : Option Addr) (n c : Nat) (l : List En) : Prop := Ents w w.heap.size A n l ∧ n ≤ c ∧ c ≤ maxLen ∧ ∀ e ∈ l, e.key.size ≤ maxLen
theorem isEnts_nil (w : World) : IsEnts w none 0 0 [] := ⟨⟨rfl, fun i hi => absurd hi (Nat.not_lt_zero _)⟩, Nat.le_refl _, by unfold maxLen; omega, fun s hs => by cases hs⟩
theorem str1_cells : Try.prog.cellsOf 9 = 1 := by kernel_rfl
theorem bool1_cells : Try.prog.cellsOf 4 = 1 := by kernel_rfl
theorem int1_cells : Try.prog.cellsOf 3 = 1 := by kernel_rfl
theorem add_n (b off i : Nat) : (⟨b, off, none⟩ : Addr).add i = ⟨b, off + i, none⟩ := by unfold Addr.add; split <;> simp_all
theorem list_of {α : Type} {P : Nat → α → Prop} : ∀ n, (∀ i, i < n → ∃ e, P i e) → ∃ l : List α, l.length = n ∧ ∀ i (h : i < l.length), P i l[i]
  | 0, _ => ⟨[], rfl, fun i h => absurd h (Nat.not_lt_zero _)⟩
  | n + 1, h => by
    obtain ⟨l, h1, h2⟩ := list_of n fun i hi => h i (by omega)
    obtain ⟨e, he⟩ := h n (by omega)
    refine ⟨l ++ [e], by simp [h1], fun i hi => ?_⟩
    by_cases hin : i < l.length
    · rw [List.getElem_append_left hin]; exact h2 i hin
    · rw [List.length_append, List.length_singleton] at hi
      have : i = l.length := by omega
      subst this
      rw [List.getElem_append_right (Nat.le_refl _)]
      simp
      rw [h1]; exact he

end Go.Proofs.Yteionibhfkhefaa.W
