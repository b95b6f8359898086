/-
  Slices of strings in memory, and the contract of the model's KeyOk at every string that Go can hold.
-/
import Derived.Test.YtipkhpijanhfiaaG0
import Derived.Test.YtipkhpijanhfiaaK
import Derived.Deep.QuietTactic
import Derived.BigQuiet
namespace Go.Proofs.Ytipkhpijanhfiaa.W
open Go.RowKit K

/-- a slice of n strings reads as l, below block B -/
structure Strs (w : World) (B : Nat) (A : Option Addr) (n : Nat) (l : List ByteArray) : Prop where
  len : l.length = n
  cell : ∀ i (h : i < l.length), ∃ b off : Nat, A = some ⟨b, off, none⟩ ∧ b < B ∧ w.cell? ⟨b, off + i, none⟩ = some (.string l[i])

theorem Strs.keep {w w' : World} {B n : Nat} {A : Option Addr} {l : List ByteArray} (h : Strs w B A n l) (hk : ∀ b o, b < B → w'.cell? ⟨b, o, none⟩ = w.cell? ⟨b, o, none⟩) : Strs w' B A n l :=
  ⟨h.len, fun i hi => by
    obtain ⟨b, off, hA, hb, hc⟩ := h.cell i hi
    exact ⟨b, off, hA, hb, (hk _ _ hb).trans hc⟩⟩
theorem Strs.below {w w' : World} {B B' n : Nat} {A : Option Addr} {l : List ByteArray} (h : Strs w B A n l) (hb : Below B' w w') (hB : B ≤ B') : Strs w' B A n l :=
  h.keep fun b o hlt => hb.cell (p := ⟨b, o, none⟩) (by show b < B'; omega)
theorem Strs.more {w : World} {B B' n : Nat} {A : Option Addr} {l : List ByteArray} (h : Strs w B A n l) (hB : B ≤ B') : Strs w B' A n l :=
  ⟨h.len, fun i hi => by
    obtain ⟨b, off, hA, hb, hc⟩ := h.cell i hi
    exact ⟨b, off, hA, by omega, hc⟩⟩
theorem Strs.drewN {w : World} {B n : Nat} {A : Option Addr} {l : List ByteArray} (h : Strs w B A n l) (k : Nat) : Strs (w.drewN k) B A n l := ⟨h.len, h.cell⟩
theorem Strs.nil (w : World) (B : Nat) (A : Option Addr) : Strs w B A 0 [] := ⟨rfl, fun i hi => absurd hi (by simp)⟩
theorem below_drewN {B : Nat} {a w : World} (h : Below B a w) (n : Nat) : Below B a (w.drewN n) := ⟨h.os, h.tape, h.output, h.size, h.block⟩

theorem letter_in (c : UInt8) : inB (c.toNat : Int) 97 100 = letterB c := by
  unfold inB letterB
  rw [Bool.eq_iff_iff]; simp; omega

def allLet (l : List UInt8) : Prop := l.all letterB = true
theorem allLet_snoc (s : ByteArray) (k : Nat) (h : k < s.size) (ha : allLet (s.data.toList.take k)) (hc : letterB s[k] = true) : allLet (s.data.toList.take (k + 1)) := by
  unfold allLet at *; rw [take_k s k h, List.all_append, ha]; simp [hc]
theorem not_key (s : ByteArray) (k : Nat) (h : k < s.size) (hc : letterB s[k] = false) : keyB s = false := by
  unfold keyB
  have : s.data.toList.all letterB = false := by
    rw [← List.take_append_drop (k + 1) s.data.toList, take_k s k h]
    simp [hc]
  rw [this]; simp
theorem key_end (s : ByteArray) (k : Nat) (hk : ¬ k < s.size) (ha : allLet (s.data.toList.take k)) : keyB s = decide (s.size ≤ 5) := by
  rw [List.take_of_length_le (by rw [len_l]; omega)] at ha
  unfold keyB; rw [ha]; simp

set_option maxHeartbeats 400000 in
theorem keyS (s : ByteArray) (w : World) (hs : s.size ≤ maxLen) :
    Calls Try.prog 28 #[.string s] w fun e w' => e = .returned (.bool (keyB s)) ∧ w = w' := by
  unfold maxLen at hs
  go_enter Try.func28, Try.ntmps28
  go_wp2
  go_loop [3] (fun i => ∃ k : Nat, k ≤ s.size ∧ i = .int .i64 k ∧ allLet (s.data.toList.take k)) (fun i => s.size - (intOf i).toNat)
  case atStart => exact ⟨0, Nat.zero_le _, rfl, by simp [allLet]⟩
  case round =>
    obtain ⟨k, hk, rfl, ha⟩ := hrel
    by_cases hlt : k < s.size
    · have hin := letter_in s[k]
      have hb8 := (s[k]).toNat_lt
      rcases Bool.eq_false_or_eq_true (letterB s[k]) with hl | hl
      · rw [hl] at hin
        have HL := Lib.hid hl
        clear hl
        go_wp2_with (first | (go_at_call 44; refine (inS _ _ _ _).mono ?_; rintro e w' ⟨rfl, rfl⟩))
        go_round
        case rel => exact ⟨k + 1, by omega, by go_num, allLet_snoc s k hlt ha HL.out⟩
        case measure => simp [intOf]; omega
      · rw [hl] at hin
        have HL := Lib.hid hl
        clear hl
        go_wp2_with (first | (go_at_call 44; refine (inS _ _ _ _).mono ?_; rintro e w' ⟨rfl, rfl⟩))
        go_ret
        exact ⟨ret_bool (not_key s k hlt HL.out).symm, rfl⟩
    · go_wp2
      go_ret
      exact ⟨ret_bool (by rw [key_end s k hlt ha]; exact decide_eq_decide.mpr (by omega)), rfl⟩

end Go.Proofs.Ytipkhpijanhfiaa.W
