/-
  Contracts of the library's searches as the program calls them (slices.BinarySearch, slices.BinarySearchFunc with strings.Compare, at strings), and of the program's KeyFirst.
-/
import Derived.Test.YtbckgmfopbpocaaDoorI1
import Derived.Lib.Bytealg
import Derived.Laws.Externs
namespace Go.Proofs.YtbckgmfopbpocaaDoor.K

/-- place p parts an ascending list at f: ahead of p all are ahead of f, from p on none is -/
def atK (l : List ByteArray) (f : ByteArray) (p : Nat) : Prop := aheadK l f p ∧ ∀ i (h : i < l.length), p ≤ i → lt l[i] f = false
/-- the search has come to these two places -/
def between (l : List ByteArray) (f : ByteArray) (lo hi : Nat) : Prop := aheadK l f lo ∧ ∀ i (h : i < l.length), hi ≤ i → lt l[i] f = false
theorem asc_at {l : List ByteArray} (ha : asc l) {i j : Nat} (hi : i < l.length) (hj : j < l.length) (h : i < j) : lt l[i] l[j] = true := List.pairwise_iff_getElem.mp ha i j hi hj h
theorem between_start (l : List ByteArray) (f : ByteArray) : between l f 0 l.length := ⟨aheadK_zero l f, fun i h k => by omega⟩
theorem between_up {l : List ByteArray} {f : ByteArray} {lo hi m : Nat} (ha : asc l) (h : between l f lo hi) (hm : m < l.length) (he : lt l[m] f = true) : between l f (m + 1) hi := by
  refine ⟨fun i hi him => ?_, h.2⟩
  rcases (by omega : i < m ∨ i = m) with e | e
  · exact lt_trans (asc_at ha hi hm e) he
  · subst e; exact he
theorem between_down {l : List ByteArray} {f : ByteArray} {lo hi m : Nat} (ha : asc l) (h : between l f lo hi) (hm : m < l.length) (he : lt l[m] f = false) : between l f lo m := by
  refine ⟨h.1, fun i hi him => ?_⟩
  rcases (by omega : m < i ∨ i = m) with e | e
  · cases e2 : lt l[i] f with
    | false => rfl
    | true => rw [lt_trans (asc_at ha hm hi e) e2] at he; cases he
  · subst e; exact he
theorem between_end {l : List ByteArray} {f : ByteArray} {p : Nat} (h : between l f p p) : atK l f p := h
theorem at_in {l : List ByteArray} {f : ByteArray} {p : Nat} (ha : asc l) (h : atK l f p) (hp : p < l.length) : inL l f = eqs l[p] f := by
  cases e : eqs l[p] f with
  | true => exact inL_at hp e
  | false =>
    rw [← Bool.not_eq_true, inL_iff]
    intro hm
    obtain ⟨i, hi, rfl⟩ := List.mem_iff_getElem.mp hm
    rcases Nat.lt_trichotomy i p with e1 | e1 | e1
    · have := h.1 i hi e1; rw [lt_irrefl] at this; cases this
    · subst e1; rw [eqs_self] at e; cases e
    · have h1 := h.2 p hp (Nat.le_refl _)
      rw [asc_at ha hp hi e1] at h1; cases h1
theorem at_out {l : List ByteArray} {f : ByteArray} (h : atK l f l.length) : inL l f = false := by
  rw [← Bool.not_eq_true, inL_iff]
  intro hm
  obtain ⟨i, hi, rfl⟩ := List.mem_iff_getElem.mp hm
  have := h.1 i hi hi; rw [lt_irrefl] at this; cases this

/-- how two strings compare -/
def cmpS (a b : ByteArray) : Int := Lib.compareBytes a.data.toList b.data.toList
theorem cmp_less : ∀ (a b : List UInt8), (Lib.compareBytes a b < 0) ↔ Op.bytesLess a b = true
  | [], [] => by simp [Lib.compareBytes, Op.bytesLess]
  | _ :: _, [] => by simp [Lib.compareBytes, Op.bytesLess]
  | [], _ :: _ => by simp [Lib.compareBytes, Op.bytesLess]
  | a :: x, b :: y => by
    unfold Lib.compareBytes
    rw [Op.bytesLess]
    by_cases h1 : a < b
    · simp [h1]
    · by_cases h2 : b < a
      · have : a ≠ b := by rintro rfl; exact absurd h2 (by simp)
        simp [h1, h2, this]
      · have e : a = b := UInt8.le_antisymm (UInt8.not_lt.mp h2) (UInt8.not_lt.mp h1)
        subst e
        simp [cmp_less x y]
theorem cmp_zero : ∀ (a b : List UInt8), Lib.compareBytes a b = 0 ↔ a = b
  | [], [] => by simp [Lib.compareBytes]
  | _ :: _, [] => by simp [Lib.compareBytes]
  | [], _ :: _ => by simp [Lib.compareBytes]
  | a :: x, b :: y => by
    unfold Lib.compareBytes
    by_cases h1 : a < b
    · have : a ≠ b := by rintro rfl; exact absurd h1 (by simp)
      simp [h1, this]
    · by_cases h2 : b < a
      · have : a ≠ b := by rintro rfl; exact absurd h2 (by simp)
        simp [h1, h2, this]
      · have e : a = b := UInt8.le_antisymm (UInt8.not_lt.mp h2) (UInt8.not_lt.mp h1)
        subst e
        simp [cmp_zero x y]
theorem cmpS_less {a b : ByteArray} : cmpS a b < 0 ↔ lt a b = true := by
  unfold cmpS lt; rw [cmp_less, ByteArray.toList_eq, ByteArray.toList_eq]
theorem cmpS_zero {a b : ByteArray} : cmpS a b = 0 ↔ eqs a b = true := by
  unfold cmpS; rw [cmp_zero, eqs_iff]
  constructor
  · intro h; exact ba_ext (by rw [ByteArray.toList_eq, ByteArray.toList_eq]; exact h)
  · rintro rfl; rfl

end Go.Proofs.YtbckgmfopbpocaaDoor.K
namespace Go.Proofs.YtbckgmfopbpocaaDoor.W
open Go.RowKit K

theorem cmpI (a b : ByteArray) (w : World) : Calls Tryd.prog 70 #[.string a, .string b] w fun e w' => e = .returned (.int .i64 (cmpS a b)) ∧ w = w' := by
  have hx : (callFunc 83 #[.string a, .string b]).run Tryd.prog w = .ok (.value (.int .i64 (cmpS a b))) w := by
    rw [run_callFunc_extern Tryd.func83 (by kernel_rfl) (by kernel_rfl) (by kernel_rfl) (e := Extern.BytealgCompare.compare) (by kernel_rfl), Lib.run_compareString]
    rfl
  go_enter Tryd.func70, Tryd.ntmps70
  go_wp2_with (first | simp only [hx] | go_in)
  go_ret
  exact ⟨rfl, rfl⟩

/-- where a search ends: the place, and whether the string is there -/
def Sought (l : List ByteArray) (f : ByteArray) (w : World) (e : Ending) (w' : World) : Prop :=
  ∃ p : Nat, p ≤ l.length ∧ atK l f p ∧ e = .returned (.tuple #[.int .i64 p, .bool (inL l f)]) ∧ w = w'

theorem mid_int (lo hi : Nat) : ((lo : Int) + (hi : Int)) / 2 = (((lo + hi) / 2 : Nat) : Int) := by omega

end Go.Proofs.YtbckgmfopbpocaaDoor.W
