/-
  Contracts of the library's searches as the program calls them (slices.BinarySearch, slices.BinarySearchFunc with strings.Compare, at strings), and of the program's KeyFirst.
-/
import Derived.Test.YtfpgjkanmanajaaI1
import Derived.Lib.Bytealg
import Derived.Laws.Externs
namespace Go.Proofs.Ytfpgjkanmanajaa.K

/-- place p parts an ascending list at f: ahead of p all are ahead of f, from p on none is -/
def atK (l : List ByteArray) (f : ByteArray) (p : Nat) : Prop := aheadK l f p ∧ ∀ i (h : i < l.length), p ≤ i → lt l[i] f = false
/-- the search has come to these two places -/
def between (l : List ByteArray) (f : ByteArray) (lo hi : Nat) : Prop := aheadK l f lo ∧ ∀ i (h : i < l.length), hi ≤ i → lt l[i] f = false
theorem asc_at {l : List ByteArray} (ha : asc l) {i j : Nat} (hi : i < l.length) (hj : j < l.length) (h : i < j) : lt l[i] l[j] = true := List.pairwise_iff_getElem.mp ha i j hi hj h
theorem between_start (l : List ByteArray) (f : ByteArray) : between l f 0 l.length := ⟨aheadK_zero l f, fun i h k => by omega⟩
theorem between_up {l : List ByteArray} {f : ByteArray} {lo hi m : Nat} (ha : asc l) (h : between l f lo hi) (hm : m < l.length) (he : lt l[m] f = true) : between l f (m + 1) hi := by
  refine ⟨fun i hi him => ?_, h.2⟩
  rcases (by omega : i < m ∨ i = m) with e | e
  · exact lt_trans (asc_at ha hi hm e) he
  · subst e; exact he
theorem between_down {l : List ByteArray} {f : ByteArray} {lo hi m : Nat} (ha : asc l) (h : between l f lo hi) (hm : m < l.length) (he : lt l[m] f = false) : between l f lo m := by
  refine ⟨h.1, fun i hi him => ?_⟩
  rcases (by omega : m < i ∨ i = m) with e | e
  · cases e2 : lt l[i] f with
    | false => rfl
    | true => rw [lt_trans (asc_at ha hm hi e) e2] at he; cases he
  · subst e; exact he
theorem between_end {l : List ByteArray} {f : ByteArray} {p : Nat} (h : between l f p p) : atK l f p := h
theorem at_in {l : List ByteArray} {f : ByteArray} {p : Nat} (ha : asc l) (h : atK l f p) (hp : p < l.length) : inL l f = eqs l[p] f := by
  cases e : eqs l[p] f with
  | true => exact inL_at hp e
  | false =>
    rw [← Bool.not_eq_true, inL_iff]
    intro hm
    obtain ⟨i, hi, rfl⟩ := List.mem_iff_getElem.mp hm
    rcases Nat.lt_trichotomy i p with e1 | e1 | e1
    · have := h.1 i hi e1; rw [lt_irrefl] at this; cases this
    · subst e1; rw [eqs_self] at e; cases e
    · have h1 := h.2 p hp (Nat.le_refl _)
      rw [asc_at ha hp hi e1] at h1; cases h1
theorem at_out {l : List ByteArray} {f : ByteArray} (h : atK l f l.length) : inL l f = false := by
  rw [← Bool.not_eq_true, inL_iff]
  intro hm
  obtain ⟨i, hi, rfl⟩ := List.mem_iff_getElem.mp hm
  have := h.1 i hi hi; rw [lt_irrefl] at this; cases this

/-- how two strings compare -/
def cmpS (a b : ByteArray) : Int := Lib.compareBytes a.data.toList b.data.toList
theorem cmp_less : ∀ (a b : List UInt8), (Lib.compareBytes a b < 0) ↔ Op.bytesLess a b = true
  | [], [] => by simp [Lib.compareBytes, Op.bytesLess]
  | _ :: _, [] => by simp [Lib.compareBytes, Op.bytesLess]
  | [], _ :: _ => by simp [Lib.compareBytes, Op.bytesLess]
  | a :: x, b :: y => by
    unfold Lib.compareBytes
    rw [Op.bytesLess]
    by_cases h1 : a < b
    · simp [h1]
    · by_cases h2 : b < a
      · have : a ≠ b := by rintro rfl; exact absurd h2 (by simp)
        simp [h1, h2, this]
      · have e : a = b := UInt8.le_antisymm (UInt8.not_lt.mp h2) (UInt8.not_lt.mp h1)
        subst e
        simp [cmp_less x y]
theorem cmp_zero : ∀ (a b : List UInt8), Lib.compareBytes a b = 0 ↔ a = b
  | [], [] => by simp [Lib.compareBytes]
  | _ :: _, [] => by simp [Lib.compareBytes]
  | [], _ :: _ => by simp [Lib.compareBytes]
  | a :: x, b :: y => by
    unfold Lib.compareBytes
    by_cases h1 : a < b
    · have : a ≠ b := by rintro rfl; exact absurd h1 (by simp)
      simp [h1, this]
    · by_cases h2 : b < a
      · have : a ≠ b := by rintro rfl; exact absurd h2 (by simp)
        simp [h1, h2, this]
      · have e : a = b := UInt8.le_antisymm (UInt8.not_lt.mp h2) (UInt8.not_lt.mp h1)
        subst e
        simp [cmp_zero x y]
theorem cmpS_less {a b : ByteArray} : cmpS a b < 0 ↔ lt a b = true := by
  unfold cmpS lt; rw [cmp_less, ByteArray.toList_eq, ByteArray.toList_eq]
theorem cmpS_zero {a b : ByteArray} : cmpS a b = 0 ↔ eqs a b = true := by
  unfold cmpS; rw [cmp_zero, eqs_iff]
  constructor
  · intro h; exact ba_ext (by rw [ByteArray.toList_eq, ByteArray.toList_eq]; exact h)
  · rintro rfl; rfl

end Go.Proofs.Ytfpgjkanmanajaa.K
namespace Go.Proofs.Ytfpgjkanmanajaa.W
open Go.RowKit K

theorem cmpI (a b : ByteArray) (w : World) : Calls Try.prog 79 #[.string a, .string b] w fun e w' => e = .returned (.int .i64 (cmpS a b)) ∧ w = w' := by
  have hx : (callFunc 108 #[.string a, .string b]).run Try.prog w = .ok (.value (.int .i64 (cmpS a b))) w := by
    rw [run_callFunc_extern Try.func108 (by kernel_rfl) (by kernel_rfl) (by kernel_rfl) (e := Extern.BytealgCompare.compare) (by kernel_rfl), Lib.run_compareString]
    rfl
  go_enter Try.func79, Try.ntmps79
  go_wp2_with (first | simp only [hx] | go_in)
  go_ret
  exact ⟨rfl, rfl⟩

/-- where a search ends: the place, and whether the string is there -/
def Sought (l : List ByteArray) (f : ByteArray) (w : World) (e : Ending) (w' : World) : Prop :=
  ∃ p : Nat, p ≤ l.length ∧ atK l f p ∧ e = .returned (.tuple #[.int .i64 p, .bool (inL l f)]) ∧ w = w'

theorem mid_int (lo hi : Nat) : ((lo : Int) + (hi : Int)) / 2 = (((lo + hi) / 2 : Nat) : Int) := by omega

set_option maxHeartbeats 1000000 in
theorem searchF (w : World) (B n c : Nat) (A : Option Addr) (l : List ByteArray) (f : ByteArray) (hr : Strs w B A n l) (hn : n ≤ 4000000000000) (ha : asc l) :
    Calls Try.prog 98 #[.slice A n c, .string f, .func (.func 79) #[] #[]] w (Sought l f w) := by
  have hlen := hr.len
  subst hlen
  have HR := Lib.hid hr
  have HA := Lib.hid ha
  clear hr ha
  go_enter Try.func98, Try.ntmps98
  go_wp2
  go_loop [9, 10] (fun i j => ∃ lo hi : Nat, i = .int .i64 lo ∧ j = .int .i64 hi ∧ lo ≤ hi ∧ hi ≤ l.length ∧ between l f lo hi) (fun i j => (intOf j).toNat - (intOf i).toNat)
  case atStart => exact ⟨0, l.length, rfl, rfl, Nat.zero_le _, Nat.le_refl _, between_start l f⟩
  case round =>
    obtain ⟨lo, hi, rfl, rfl, hle, hhi, hg⟩ := hrel
    have HG := Lib.hid hg
    clear hg
    by_cases hlt : lo < hi
    · obtain ⟨m, hme⟩ : ∃ m, (lo + hi) / 2 = m := ⟨_, rfl⟩
      have hmi := mid_int lo hi
      rw [hme] at hmi
      have hml : lo ≤ m := by omega
      have hmh : m < hi := by omega
      have hmn : m < l.length := by omega
      clear hme
      obtain ⟨b, off, hA, hb, hc⟩ := HR.out.cell m hmn
      subst hA
      by_cases he : cmpS l[m] f < 0
      · have HE := Lib.hid (cmpS_less.mp he)
        go_wp2_with (go_at_call 79; refine (cmpI _ _ _).mono ?_; rintro e w' ⟨rfl, rfl⟩)
        go_round
        case rel => exact ⟨m + 1, hi, by go_num, rfl, by omega, hhi, between_up HA.out HG.out hmn HE.out⟩
        case measure => simp [intOf]; omega
      · have HE := Lib.hid (show lt l[m] f = false by rw [← Bool.not_eq_true, ← cmpS_less]; exact he)
        go_wp2_with (go_at_call 79; refine (cmpI _ _ _).mono ?_; rintro e w' ⟨rfl, rfl⟩)
        go_round
        case rel => exact ⟨lo, m, rfl, by go_num, by omega, by omega, between_down HA.out HG.out hmn HE.out⟩
        case measure => simp [intOf]; omega
    · have : hi = lo := by omega
      subst this
      have HT := Lib.hid (between_end HG.out)
      by_cases hn2 : hi < l.length
      · obtain ⟨b, off, hA, hb, hc⟩ := HR.out.cell _ hn2
        subst hA
        by_cases he : cmpS l[hi] f = 0
        · have HE := Lib.hid (cmpS_zero.mp he)
          go_wp2_with (go_at_call 79; refine (cmpI _ _ _).mono ?_; rintro e w' ⟨rfl, rfl⟩)
          go_ret2
          exact ⟨hi, hhi, HT.out, by rw [at_in HA.out HT.out hn2, HE.out]; rfl, rfl⟩
        · have HE := Lib.hid (show eqs l[hi] f = false by rw [← Bool.not_eq_true, ← cmpS_zero]; exact he)
          go_wp2_with (go_at_call 79; refine (cmpI _ _ _).mono ?_; rintro e w' ⟨rfl, rfl⟩)
          go_ret2
          exact ⟨hi, hhi, HT.out, by rw [at_in HA.out HT.out hn2, HE.out]; show Ending.returned (Value.tuple #[.int .i64 hi, .bool (cmpS l[hi] f == 0)]) = _; rw [beq_eq_false_iff_ne.mpr he], rfl⟩
      · have : hi = l.length := by omega
        subst this
        go_wp2
        go_ret2
        exact ⟨l.length, hhi, HT.out, by rw [at_out HT.out]; rfl, rfl⟩

end Go.Proofs.Ytfpgjkanmanajaa.W
