/-
  What the laws of texts of blocks use beside the contracts.
-/
import Derived.Test.YtbckgmfopbpocaaDoorLB0
import Derived.Test.YtbckgmfopbpocaaDoorDB2
namespace Go.Proofs.YtbckgmfopbpocaaDoor.W
open Go.RowKit K R B

theorem read_fits {t : List UInt8} : ((readL t).getD []).length ≤ 45 ∧ ∀ e ∈ (readL t).getD [], e.key.size ≤ 6 := by
  cases h : readL t with
  | none => exact ⟨by simp, fun e he => (by cases he)⟩
  | some l =>
    obtain ⟨h1, h2⟩ := read_some.mp h
    have hb := block_ne (l := l) (by rw [h2]; exact h1)
    exact ⟨by have := (run_iff.mp hb.1).1; show l.length ≤ 45; omega, fun e he => by have := run_key hb.1 e he; omega⟩
/-- few entries were read, or none -/
def ReadF (W : World) (l : List En) (ok : Bool) (e : Ending) (w' : World) : Prop := ∃ A c, e = .returned (.tuple #[.slice A l.length c, .bool ok]) ∧ Few w' A c l ∧ Below W.heap.size W w'
theorem readF_of {W : World} {t : List UInt8} {e : Ending} {w' : World} (h : ReadA W (readL t) e w') : ReadF W ((readL t).getD []) (readL t).isSome e w' := by
  obtain ⟨v, he, ho, hb⟩ := h
  obtain ⟨A, c, rfl, hf⟩ := few_of ho read_fits.1 read_fits.2
  exact ⟨A, c, he, hf, hb⟩
theorem readFS (s : ByteArray) (W : World) (hs : s.size ≤ 1900000) : Calls Tryd.prog 16 #[.string s] W (ReadF W ((readL s.data.toList).getD []) (readL s.data.toList).isSome) := (readS s W (by omega)).mono fun _ _ h => readF_of h
theorem readFI (s : ByteArray) (W : World) (hs : s.size ≤ 1900000) (hT : Tab W) (hE : ErrB W.heap.size W) : Calls Tryd.prog 13 #[.string s] W (ReadF W ((readL s.data.toList).getD []) (readL s.data.toList).isSome) := (readI s W hs hT hE).mono fun _ _ h => readF_of h
theorem few_nil (W : World) : Few W none 0 [] := ⟨by simp, fun e he => (by cases he), ⟨rfl, fun i hi => absurd hi (by simp)⟩, Nat.le_refl _, by unfold maxLen; omega⟩
theorem emptyOf {l : List UInt8} {T : ByteArray} (hT : T = ofL l) (h : l ≠ []) : T.toList.isEmpty = false := by
  rw [ByteArray.toList_eq, hT, ofL_data]
  cases l with
  | nil => exact absurd rfl h
  | cons x r => rfl

end Go.Proofs.YtbckgmfopbpocaaDoor.W
