/-
  The laws of keys, as walks over the contracts of the program's functions, which come in as one premise (it is proved of the landed code elsewhere).
-/
import Derived.Test.YtakadkhgcjndmaaJ3
import Derived.Test.YtakadkhgcjndmaaJ2
namespace Go.Proofs.Ytakadkhgcjndmaa.W
open Go.RowKit K

/-- what the program's key functions answer -/
structure ImplKeys : Prop where
  key : ∀ (s : ByteArray) (w : World), s.size ≤ maxLen → Calls Try.prog 80 #[.string s] w fun e w' => e = .returned (.bool (keyB s)) ∧ Same w w'
  keys : ∀ (w : World) (n c : Nat) (A : Option Addr) (l : List ByteArray), Strs w w.heap.size A n l → n ≤ c → c ≤ maxLen → Fit l →
    Calls Try.prog 75 #[.slice A n c] w fun e w' => e = .returned (.bool (keysB l)) ∧ Below w.heap.size w w'
  sort : ∀ (w : World) (n c : Nat) (A : Option Addr) (l : List ByteArray), Strs w w.heap.size A n l → n ≤ c → c ≤ maxLen → n ≤ 1048576 → Fit l → Calls Try.prog 57 #[.slice A n c] w (New w (sort l))
  beg : ∀ (k h : ByteArray) (w : World), k.size ≤ maxLen → h.size ≤ maxLen → Calls Try.prog 35 #[.string k, .string h] w fun e w' => e = .returned (.bool (begB k h)) ∧ Below w.heap.size w w'
  first : ∀ (w : World) (n c : Nat) (A : Option Addr) (l : List ByteArray) (f : ByteArray), Strs w w.heap.size A n l → n ≤ c → c ≤ maxLen → Fit l → f.size ≤ maxLen →
    Calls Try.prog 54 #[.slice A n c, .string f] w fun e w' => e = .returned (.tuple #[.string (strS (firstK l f)), .bool (strB (firstK l f))]) ∧ Below w.heap.size w w'

theorem Strs.take {w : World} {B n : Nat} {A : Option Addr} {l : List ByteArray} (h : Strs w B A n l) {k : Nat} (hk : k ≤ n) : Strs w B A k (l.take k) :=
  ⟨by rw [List.length_take, h.len]; omega, fun i hi => by
    rw [List.length_take] at hi
    obtain ⟨b, off, hA, hb, hc⟩ := h.cell i (by omega)
    exact ⟨b, off, hA, hb, by rw [List.getElem_take]; exact hc⟩⟩
/-- the rest of a slice, as the model lays it -/
theorem Strs.drop {w : World} {B n c : Nat} {A : Option Addr} {l : List ByteArray} (h : Strs w B A n l) (hc : n ≤ c) {k : Nat} (hk : k ≤ n) :
    Strs w B (if c = k then A else A.map (·.add k)) (n - k) (l.drop k) :=
  ⟨by rw [List.length_drop, h.len], fun i hi => by
    rw [List.length_drop] at hi
    obtain ⟨b, off, hA, hb, hcell⟩ := h.cell (k + i) (by omega)
    have hlen := h.len
    rw [if_neg (by omega), hA]
    refine ⟨b, off + k, ?_, hb, ?_⟩
    · simp only [Option.map_some]
      unfold Addr.add
      split
      · rename_i h0; subst h0; rfl
      · rfl
    · rw [List.getElem_drop, Nat.add_assoc]; exact hcell⟩
theorem Fit.take {l : List ByteArray} (h : Fit l) (k : Nat) : Fit (l.take k) := fun s hs => h s (List.mem_of_mem_take hs)
theorem Fit.drop {l : List ByteArray} (h : Fit l) (k : Nat) : Fit (l.drop k) := fun s hs => h s (List.mem_of_mem_drop hs)
theorem Fit.sort {l : List ByteArray} (h : Fit l) : Fit (sort l) := fun s hs => h s (mem_sort.mp hs).1
theorem Own.strs {w : World} {base : Nat} {A : Option Addr} {n c : Nat} {l : List ByteArray} (h : Own w base (.slice A n c) l) : Strs w w.heap.size A n l ∧ n ≤ c ∧ c ≤ maxLen := by
  obtain ⟨A', c', hv, h1, h2, h3⟩ := h.parts
  injection hv with e1 e2 e3
  subst e1 e2 e3
  exact ⟨h3, h1, h2⟩

end Go.Proofs.Ytakadkhgcjndmaa.W
