/-
  Contracts of the program's KeyOk, KeyBegins and KeysOk, at every string and every slice of strings that can be read.
-/
import Derived.Test.YtklphdomjhliaaaDoorJ2
namespace Go.Proofs.YtklphdomjhliaaaDoor.W
open Go.RowKit K

theorem letter_iff (c : UInt8) : letterB c = true ↔ 97 ≤ c.toNat ∧ c.toNat ≤ 100 := by
  unfold letterB; simp
theorem letter_not {c : UInt8} (h : letterB c = false) : c.toNat < 97 ∨ (97 ≤ c.toNat ∧ 100 < c.toNat) := by
  have : ¬ (97 ≤ c.toNat ∧ c.toNat ≤ 100) := by rw [← letter_iff, h]; simp
  omega
theorem long_key {s : ByteArray} (h : ¬ s.size ≤ 5) : keyB s = false := by
  unfold keyB; simp [h]

set_option maxHeartbeats 400000 in
theorem keyI (s : ByteArray) (w : World) (hs : s.size ≤ maxLen) :
    Calls Tryd.prog 35 #[.string s] w fun e w' => e = .returned (.bool (keyB s)) ∧ w = w' := by
  unfold maxLen at hs
  by_cases h5 : s.size ≤ 5
  · have h5i : ¬ ((s.size : Int) > 5) := by omega
    go_enter Tryd.func35, Tryd.ntmps35
    go_wp2
    go_loop [9] (fun i => ∃ k : Nat, k ≤ s.size ∧ i = .int .i64 k ∧ allLet (s.data.toList.take k)) (fun i => s.size - (intOf i).toNat)
    case atStart => exact ⟨0, Nat.zero_le _, rfl, by simp [allLet]⟩
    case round =>
      obtain ⟨k, hk, rfl, ha⟩ := hrel
      by_cases hlt : k < s.size
      · have hb8 := (s[k]).toNat_lt
        rcases Bool.eq_false_or_eq_true (letterB s[k]) with hl | hl
        · have HL := Lib.hid hl
          obtain ⟨h1, h2⟩ := (letter_iff _).mp hl
          clear hl
          go_wp2
          go_round
          case rel => exact ⟨k + 1, by omega, by go_num, allLet_snoc s k hlt ha HL.out⟩
          case measure => simp [intOf]; omega
        · have HL := Lib.hid hl
          rcases letter_not hl with h1 | ⟨h1, h2⟩
          · clear hl
            go_wp2
            go_ret
            exact ⟨ret_bool (not_key s k hlt HL.out).symm, rfl⟩
          · clear hl
            go_wp2
            go_ret
            exact ⟨ret_bool (not_key s k hlt HL.out).symm, rfl⟩
      · go_wp2
        go_ret
        exact ⟨ret_bool (by rw [key_end s k hlt ha]; simp [h5]), rfl⟩
  · have h5i : (s.size : Int) > 5 := by omega
    go_enter Tryd.func35, Tryd.ntmps35
    go_wp2
    go_ret
    exact ⟨ret_bool (long_key h5).symm, rfl⟩

end Go.Proofs.YtklphdomjhliaaaDoor.W
