/-
  Contracts of the program's wordOnes and wordOne: the ones of a word, and where the one with a number is, at every word that up to 64 bits make.
-/
import Derived.Test.YtakadkhgcjndmaaW2
namespace Go.Proofs.Ytakadkhgcjndmaa.W
open Go.RowKit M

/-- a ones are counted ahead of place k -/
def Cnt (c : List UInt8) (k a : Nat) : Prop := a + ones (c.drop k) = ones c

theorem and_one (v : Nat) (h : v < 18446744073709551616) : bits .and .u64 (v : Int) 1 = ((v % 2 : Nat) : Int) := by
  have := u64_and_nat v 1 h (by decide)
  rw [nat_mask1] at this
  exact this

set_option maxHeartbeats 400000 in
theorem wordOnesI (c : List UInt8) (w : World) (hc : c.length ≤ 64) :
    Calls Try.prog 91 #[.int .u64 (val c : Nat)] w fun e w' => e = .returned (.int .i64 (ones c : Nat)) ∧ w = w' := by
  go_enter Try.func91, Try.ntmps91
  go_wp2
  go_loop [0, 3] (fun x n => ∃ k a : Nat, a ≤ 64 ∧ x = .int .u64 (val (c.drop k) : Nat) ∧ n = .int .i64 (a : Nat) ∧ Cnt c k a) (fun x _ => (intOf x).toNat)
  case atStart => exact ⟨0, 0, by omega, by simp, rfl, by simp [Cnt]⟩
  case round =>
    obtain ⟨k, a, ha, rfl, rfl, hcnt⟩ := hrel
    have hv := val_lt_of (c.drop k) 64 (by simp; omega)
    have hd := Lib.hid (val_div (c.drop k))
    have hand := and_one (val (c.drop k)) hv
    have hmod := Lib.hid (ones_val_mod (c.drop k))
    have hz := val_zero (c.drop k)
    generalize hvv : val (c.drop k) = v at *
    have HV := Lib.hid hv
    clear hv
    have HVV := Lib.hid hvv
    clear hvv
    have HZ := Lib.hid hz
    clear hz
    by_cases h0 : v = 0
    · subst h0
      go_wp2
      go_ret
      exact ⟨ret_int (by have h := HZ.out trivial; unfold Cnt at hcnt; omega), rfl⟩
    · have h1 : ((v : Int) != 0) = true := by simp; omega
      have hle := Lib.hid (ones_le (c.drop k))
      go_wp2
      go_round
      case rel =>
        refine ⟨k + 1, a + v % 2, ?_, ?_, by go_num, ?_⟩
        · have h2 := hmod.out; have h3 := ones_le c; unfold Cnt at hcnt; omega
        · have h2 := hd.out
          rw [List.drop_drop] at h2
          rw [← h2]; go_num
        · have h2 := hmod.out
          rw [List.drop_drop] at h2
          unfold Cnt at *; omega
      case measure => simp [intOf]; omega

theorem and_at (c : List UInt8) (k : Nat) (hc : c.length ≤ 64) : bits .and .u64 (((val c : Nat) : Int) / 2 ^ k) 1 = ((val (c.drop k) % 2 : Nat) : Int) := by
  have e : (((val c : Nat) : Int) / 2 ^ k) = ((val (c.drop k) : Nat) : Int) := by rw [← val_drop]; simp
  rw [e]
  exact and_one _ (val_lt_of _ 64 (by simp; omega))
theorem bit1 {c : List UInt8} {k : Nat} (h : val (c.drop k) % 2 = 1) : c[k]? = some 49 := by
  rw [val_mod_at] at h
  split at h
  · assumption
  · omega
theorem Seek.bit0 {c : List UInt8} {N k m : Nat} (hs : Seek c N k m) (h : val (c.drop k) % 2 = 0) : Seek c N (k + 1) m := by
  unfold Seek at *
  rw [hs]
  rw [val_mod_at] at h
  rcases Nat.lt_or_ge k c.length with hk | hk
  · have hg := List.getElem?_eq_getElem hk
    rw [one_step _ _ _ _ hg, if_neg]
    intro e
    rw [hg, e] at h
    simp at h
  · rw [List.drop_eq_nil_of_le hk, List.drop_eq_nil_of_le (by omega)]; rfl
theorem Seek.hit' {c : List UInt8} {N k : Nat} (hs : Seek c N k 0) (h : c[k]? = some 49) : oneIdx c N = some k := by
  rw [hs, one_step _ _ _ _ h, if_pos rfl, if_pos rfl]
theorem Seek.past' {c : List UInt8} {N k m : Nat} (hs : Seek c N k (m + 1)) (h : c[k]? = some 49) : Seek c N (k + 1) m := by
  unfold Seek at *
  rw [hs, one_step _ _ _ _ h, if_pos rfl, if_neg (by omega)]; rfl
theorem Seek.done' {c : List UInt8} {N k m : Nat} (hs : Seek c N k m) (h : c.length ≤ k) : oneIdx c N = none := by
  rw [hs, List.drop_eq_nil_of_le h]; rfl

end Go.Proofs.Ytakadkhgcjndmaa.W
