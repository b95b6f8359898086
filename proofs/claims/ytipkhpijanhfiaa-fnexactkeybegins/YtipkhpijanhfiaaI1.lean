/-
  Contracts of the program's KeyOk, KeyBegins and KeysOk, at every string and every slice of strings that can be read.
-/
import Derived.Test.YtipkhpijanhfiaaS3
namespace Go.Proofs.Ytipkhpijanhfiaa.W
open Go.RowKit K

theorem letter_iff (c : UInt8) : letterB c = true ↔ 97 ≤ c.toNat ∧ c.toNat ≤ 100 := by
  unfold letterB; simp
theorem letter_not {c : UInt8} (h : letterB c = false) : c.toNat < 97 ∨ (97 ≤ c.toNat ∧ 100 < c.toNat) := by
  have : ¬ (97 ≤ c.toNat ∧ c.toNat ≤ 100) := by rw [← letter_iff, h]; simp
  omega
theorem long_key {s : ByteArray} (h : ¬ s.size ≤ 5) : keyB s = false := by
  unfold keyB; simp [h]

set_option maxHeartbeats 400000 in
theorem keyI (s : ByteArray) (w : World) (hs : s.size ≤ maxLen) :
    Calls Try.prog 21 #[.string s] w fun e w' => e = .returned (.bool (keyB s)) ∧ w = w' := by
  unfold maxLen at hs
  by_cases h5 : s.size ≤ 5
  · have h5i : ¬ ((s.size : Int) > 5) := by omega
    go_enter Try.func21, Try.ntmps21
    go_wp2
    go_loop [9] (fun i => ∃ k : Nat, k ≤ s.size ∧ i = .int .i64 k ∧ allLet (s.data.toList.take k)) (fun i => s.size - (intOf i).toNat)
    case atStart => exact ⟨0, Nat.zero_le _, rfl, by simp [allLet]⟩
    case round =>
      obtain ⟨k, hk, rfl, ha⟩ := hrel
      by_cases hlt : k < s.size
      · have hb8 := (s[k]).toNat_lt
        rcases Bool.eq_false_or_eq_true (letterB s[k]) with hl | hl
        · have HL := Lib.hid hl
          obtain ⟨h1, h2⟩ := (letter_iff _).mp hl
          clear hl
          go_wp2
          go_round
          case rel => exact ⟨k + 1, by omega, by go_num, allLet_snoc s k hlt ha HL.out⟩
          case measure => simp [intOf]; omega
        · have HL := Lib.hid hl
          rcases letter_not hl with h1 | ⟨h1, h2⟩
          · clear hl
            go_wp2
            go_ret
            exact ⟨ret_bool (not_key s k hlt HL.out).symm, rfl⟩
          · clear hl
            go_wp2
            go_ret
            exact ⟨ret_bool (not_key s k hlt HL.out).symm, rfl⟩
      · go_wp2
        go_ret
        exact ⟨ret_bool (by rw [key_end s k hlt ha]; simp [h5]), rfl⟩
  · have h5i : (s.size : Int) > 5 := by omega
    go_enter Try.func21, Try.ntmps21
    go_wp2
    go_ret
    exact ⟨ret_bool (long_key h5).symm, rfl⟩

set_option maxHeartbeats 400000 in
theorem begI (k h : ByteArray) (w : World) :
    Calls Try.prog 23 #[.string k, .string h] w fun e w' => e = .returned (.bool (begB k h)) ∧ w = w' := by
  by_cases hle : h.size ≤ k.size
  · have hle2 : (h.size : Int) ≤ (k.size : Int) := by omega
    go_enter Try.func23, Try.ntmps23
    go_wp2
    go_ret
    exact ⟨ret_bool (by simp [begB, hle]), rfl⟩
  · have hle2 : ¬ (h.size : Int) ≤ (k.size : Int) := by omega
    go_enter Try.func23, Try.ntmps23
    go_wp2
    go_ret
    exact ⟨ret_bool (by simp [begB, hle]), rfl⟩

set_option maxHeartbeats 1000000 in
theorem keysI (w : World) (B n c : Nat) (A : Option Addr) (l : List ByteArray) (hr : Strs w B A n l) (hn : n ≤ maxLen) (hf : Fit l) :
    Calls Try.prog 14 #[.slice A n c] w fun e w' => e = .returned (.bool (keysB l)) ∧ w = w' := by
  have hlen := hr.len
  subst hlen
  unfold maxLen at hn
  have HF := Lib.hid hf
  have HR := Lib.hid hr
  clear hf hr
  by_cases h24 : l.length ≤ 24
  · have h24i : ¬ ((l.length : Int) > 24) := by omega
    go_enter Try.func14, Try.ntmps14
    go_wp2
    go_loop [10] (fun i => ∃ k : Nat, k ≤ l.length ∧ i = .int .i64 k ∧ good l k) (fun i => l.length - (intOf i).toNat)
    case atStart => exact ⟨0, Nat.zero_le _, rfl, good_zero l⟩
    case round =>
      obtain ⟨k, hk, rfl, hg⟩ := hrel
      have HG := Lib.hid hg
      clear hg
      by_cases hlt : k < l.length
      · obtain ⟨b, off, hA, hb, hc⟩ := HR.out.cell k hlt
        subst hA
        have hsz := HF.out.get hlt
        rcases Bool.eq_false_or_eq_true (keyB l[k]) with hkb | hkb
        · have HK := Lib.hid hkb
          by_cases h0 : k = 0
          · subst h0
            rw [Nat.add_zero] at hc
            go_wp2_with (go_at_call 21; refine (keyI _ _ hsz).mono ?_; rintro e w' ⟨rfl, rfl⟩)
            go_round
            case rel => exact ⟨1, by omega, by go_num, good_one hlt HK.out⟩
            case measure => simp [intOf]; omega
          · obtain ⟨j, hj⟩ : ∃ j, k = j + 1 := ⟨k - 1, by omega⟩
            subst hj
            have hjl : j < l.length := by omega
            obtain ⟨b', off', hA', _, hcj⟩ := HR.out.cell j hjl
            simp only [Option.some.injEq, Addr.mk.injEq, and_true] at hA'
            obtain ⟨rfl, rfl⟩ := hA'
            rcases Bool.eq_false_or_eq_true (Op.bytesLess l[j].toList l[j + 1].toList) with he | he
            · have HE := Lib.hid he
              go_wp2_with (go_at_call 21; refine (keyI _ _ hsz).mono ?_; rintro e w' ⟨rfl, rfl⟩)
              go_round
              case rel => exact ⟨j + 2, by omega, by go_num, good_succ HG.out hlt HK.out HE.out⟩
              case measure => simp [intOf]; omega
            · have HE := Lib.hid he
              go_wp2_with (go_at_call 21; refine (keyI _ _ hsz).mono ?_; rintro e w' ⟨rfl, rfl⟩)
              go_ret
              exact ⟨ret_bool (bad_order hlt HE.out).symm, rfl⟩
        · have HK := Lib.hid hkb
          go_wp2_with (go_at_call 21; refine (keyI _ _ hsz).mono ?_; rintro e w' ⟨rfl, rfl⟩)
          go_ret
          exact ⟨ret_bool (bad_key hlt HK.out).symm, rfl⟩
      · have hke : k = l.length := by omega
        subst hke
        go_wp2
        go_ret
        exact ⟨ret_bool (by rw [good_end HG.out]; simp [h24]), rfl⟩
  · have h24i : (l.length : Int) > 24 := by omega
    go_enter Try.func14, Try.ntmps14
    go_wp2
    go_ret
    exact ⟨ret_bool (by unfold keysB; simp [h24]), rfl⟩

end Go.Proofs.Ytipkhpijanhfiaa.W
