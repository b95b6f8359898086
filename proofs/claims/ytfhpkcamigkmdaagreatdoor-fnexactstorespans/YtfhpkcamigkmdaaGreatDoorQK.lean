/-
  When a store is one: the model's words, and the program's.
-/
import Derived.Test.YtfhpkcamigkmdaaGreatDoorZAA
namespace Go.Proofs.YtfhpkcamigkmdaaGreatDoor.R
open K
theorem newestIn_iff {t : Int} : ∀ {ls : List (List En)}, newestIn t ls = true ↔ ∀ i j (hi : i < j) (hj : j < ls.length), newestB (ls[i]'(by omega)) ls[j] t = true
  | [] => by simp [newestIn]
  | r :: rs => by
    unfold newestIn
    rw [Bool.and_eq_true, newestIn_iff, List.all_eq_true]
    constructor
    · rintro ⟨h1, h2⟩ i j hi hj
      cases j with
      | zero => omega
      | succ j =>
        cases i with
        | zero => exact h1 _ (List.getElem_mem (by simpa using hj))
        | succ i => exact h2 i j (by omega) (by simpa using hj)
    · intro h
      refine ⟨fun b hb => ?_, fun i j hi hj => h (i + 1) (j + 1) (by omega) (by simpa using hj)⟩
      obtain ⟨j, hj, rfl⟩ := List.getElem_of_mem hb
      exact h 0 (j + 1) (by omega) (by simpa using hj)
/-- of each level up to i: it is older than the top, and newer than those below it -/
def oldTo (t : Int) (top : List En) (ls : List (List En)) (i : Nat) : Prop := ∀ j (h : j < ls.length), j < i → newestB top ls[j] t = true ∧ ∀ m (hm : m < ls.length), j < m → newestB ls[j] ls[m] t = true
theorem oldTo_all {t : Int} {top : List En} {ls : List (List En)} : oldTo t top ls ls.length ↔ newestIn t (top :: ls) = true := by
  rw [newestIn_iff]
  constructor
  · intro h i j hi hj
    cases j with
    | zero => omega
    | succ j =>
      have hj' : j < ls.length := by simpa using hj
      cases i with
      | zero => exact (h j hj' hj').1
      | succ i => exact (h i (by omega) (by omega)).2 j hj' (by omega)
  · intro h j hj _
    exact ⟨h 0 (j + 1) (by omega) (by simpa using hj), fun m hm hjm => h (j + 1) (m + 1) (by omega) (by simpa using hm)⟩
theorem oldTo_no_top {t : Int} {top : List En} {ls : List (List En)} {i : Nat} (h : i < ls.length) (hb : newestB top ls[i] t = false) : ¬ newestIn t (top :: ls) = true := fun hn => by
  have := (oldTo_all.mpr hn i h h).1
  rw [hb] at this; cases this
theorem oldTo_no {t : Int} {top : List En} {ls : List (List En)} {i k : Nat} (h : i < ls.length) (hk : k < ls.length) (hik : i < k) (hb : newestB ls[i] ls[k] t = false) : ¬ newestIn t (top :: ls) = true := fun hn => by
  have := (oldTo_all.mpr hn i h h).2 k hk hik
  rw [hb] at this; cases this
end Go.Proofs.YtfhpkcamigkmdaaGreatDoor.R
