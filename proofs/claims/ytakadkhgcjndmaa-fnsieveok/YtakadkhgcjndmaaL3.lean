/-
  Two more laws of keys as walks over the contracts of the program's functions: beginnings, and sorting two lists either way.
-/
import Derived.Test.YtakadkhgcjndmaaL2
import Derived.Lib.Strings
namespace Go.Proofs.Ytakadkhgcjndmaa.W
open Go.RowKit K

theorem beg_iff (k h : ByteArray) : begB k h = true ↔ h.size ≤ k.size ∧ k.data.toList.take h.size = h.data.toList := by
  unfold begB
  rw [Lib.extract_toList, ByteArray.toList_eq]
  simp
theorem beg_empty (k : ByteArray) : begB k ⟨#[]⟩ = true := by
  rw [beg_iff]; exact ⟨Nat.zero_le _, rfl⟩
theorem beg_self (k : ByteArray) : begB k k = true := by
  rw [beg_iff]; exact ⟨Nat.le_refl _, List.take_of_length_le (by rw [len_l]; exact Nat.le_refl _)⟩
theorem beg_append (h k : ByteArray) : begB (h ++ k) h = true := by
  rw [beg_iff]
  refine ⟨by rw [ByteArray.size_append]; omega, ?_⟩
  have : (h ++ k).data.toList = h.data.toList ++ k.data.toList := by simp
  rw [this, List.take_append_of_le_length (by rw [len_l]; exact Nat.le_refl _), List.take_of_length_le (by rw [len_l]; exact Nat.le_refl _)]
theorem less_append : ∀ (a t : List UInt8), (Op.bytesLess a (a ++ t) || a == a ++ t) = true
  | [], [] => by simp
  | [], _ :: _ => by simp [Op.bytesLess]
  | x :: a, t => by
    have ih := less_append a t
    rw [List.cons_append, Op.bytesLess]
    simp only [Bool.or_eq_true, beq_iff_eq] at ih
    rcases ih with ih | ih
    · simp [ih]
    · rw [← ih]; simp
theorem beg_le (k h : ByteArray) (hb : begB k h = true) : (Op.bytesLess h.toList k.toList || h.toList == k.toList) = true ∧ h.size ≤ k.size := by
  rw [beg_iff] at hb
  refine ⟨?_, hb.1⟩
  rw [ByteArray.toList_eq, ByteArray.toList_eq]
  have := less_append h.data.toList (k.data.toList.drop h.size)
  rw [← hb.2, List.take_append_drop] at this
  rw [← hb.2]; exact this

theorem Bytes.up {w : World} {B B' n : Nat} {A : Option Addr} (h : Bytes w B A n) (hB : B ≤ B') : Bytes w B' A n := fun i hi => by
  obtain ⟨b, off, z, hA, hb, hz, hc⟩ := h i hi
  exact ⟨b, off, z, hA, by omega, hz, hc⟩
theorem Fit.nil : Fit [] := fun s hs => by cases hs
theorem Strs.size_is {w : World} {B n m : Nat} {A : Option Addr} {l : List ByteArray} (h : Strs w B A n l) (e : n = m) : Strs w B A m l := e ▸ h
/-- a new slice, joined of two that can be read: what the program's sort makes of it -/
theorem Own.fit2 {a b : List ByteArray} (ha : Fit a) (hb : Fit b) : Fit (a ++ b) := by
  intro s hs
  rcases List.mem_append.mp hs with h | h
  · exact ha s h
  · exact hb s h

end Go.Proofs.Ytakadkhgcjndmaa.W
