/-
  Contracts of the program's BitsOnes, BitsOne and BitsNext, at every string that Go can hold and every int: they answer what the model's contracts say, and write nothing that was there.
-/
import Derived.Test.YtakadkhgcjndmaaW4
namespace Go.Proofs.Ytakadkhgcjndmaa.W
open Go.RowKit M

theorem idx7 (l : List UInt8) (k : Nat) (hk : k < 7) (w : World) : (Instr.index 90 (.agg (wordsA l)) (.int .i64 (k : Nat))).run Try.prog w = .ok (wv l k) w := by
  rcases (by omega : k = 0 ∨ k = 1 ∨ k = 2 ∨ k = 3 ∨ k = 4 ∨ k = 5 ∨ k = 6) with rfl | rfl | rfl | rfl | rfl | rfl | rfl <;> kernel_rfl

theorem wordOnesW (l : List UInt8) (j : Nat) (w : World) : Calls Try.prog 91 #[wv l j] w fun e w' => e = .returned (.int .i64 (ones (chunk l j) : Nat)) ∧ w = w' :=
  wordOnesI (chunk l j) w (chunk_len l j)
/-- how many ones the first k words have -/
def sumW (l : List UInt8) (k : Nat) : Nat := ones (l.take (64 * k))
theorem sumW_succ (l : List UInt8) (k : Nat) : sumW l (k + 1) = sumW l k + ones (chunk l k) := by
  unfold sumW chunk
  rw [show 64 * (k + 1) = 64 * k + 64 by omega, List.take_add, ones_append]
theorem sumW_end (l : List UInt8) (h : l.length ≤ 448) : sumW l 7 = ones l := by
  unfold sumW; rw [List.take_of_length_le (by omega)]
theorem sumW_le (l : List UInt8) (k : Nat) : sumW l k ≤ 64 * k := ones_take_le _ _

theorem ok_len {l : List UInt8} (h : okB l = true) : l.length ≤ 400 := by
  unfold okB at h; simp at h; exact h.1
theorem ok_all {l : List UInt8} (h : okB l = true) : allOk l := by
  unfold okB at h; simp at h; unfold allOk; simpa using h.2
theorem pre_l (s : ByteArray) (P : Nat) : (s.extract 0 P).data.toList = s.data.toList.take P := by
  simp
theorem pre_all {s : ByteArray} (P : Nat) (h : allOk s.data.toList) : allOk (s.extract 0 P).data.toList := by
  rw [pre_l]; unfold allOk at *; rw [List.all_eq_true] at *; exact fun x hx => h x (List.mem_of_mem_take hx)

set_option maxHeartbeats 400000 in
theorem bitsOnesI (s : ByteArray) (p : Int) (w : World) (hs : s.size ≤ maxLen) :
    Calls Try.prog 42 #[.string s, .int .i64 p] w fun e w' => e = .returned (.int .i64 (onesR s p)) ∧ Below w.heap.size w w' := by
  by_cases hok : okB s.data.toList = true
  · by_cases hp : 0 ≤ p ∧ p ≤ s.size
    · have hr : onesR s p = cntI s p.toNat := by unfold onesR; rw [if_pos ⟨hok, hp⟩]
      rw [hr]
      obtain ⟨h0, h1⟩ := hp
      clear hr
      obtain ⟨P, rfl⟩ := Int.eq_ofNat_of_zero_le h0
      have hl := ok_len hok
      rw [len_l] at hl
      have hsz : (s.extract 0 P).size ≤ 400 := by simp; omega
      have hpa := pre_all P (ok_all hok)
      have hp0 : ¬ (P : Int) < 0 := by omega
      have hp1 : ¬ (s.size : Int) < (P : Int) := by omega
      have hpd : decide ((P : Int) < 0) = false := by simp
      go_enter Try.func42, Try.ntmps42
      go_wp2_with (first | (go_at_call 89; refine (okI _ _ hs).mono ?_; rintro e w' ⟨rfl, rfl⟩) | (go_at_call 90; refine (bitsWordsI _ _ hsz hpa).mono ?_; rintro e w1 ⟨rfl, hb⟩))
      clear hpd hp0 hp1 hpa hsz
      go_loop [5, 25] (fun n i => ∃ k : Nat, k ≤ 7 ∧ i = .int .i64 (k : Nat) ∧ n = .int .i64 (sumW (s.data.toList.take P) k : Nat)) (fun _ i => 7 - (intOf i).toNat)
      case atStart => exact ⟨0, by omega, rfl, by simp [sumW, ones]⟩
      case round =>
        obtain ⟨k, hk, rfl, rfl⟩ := hrel
        by_cases hlt : k < 7
        · have hix := idx7 (s.data.toList.take P) k hlt
          have hle := sumW_le (s.data.toList.take P) k
          have hle2 := ones_le (chunk (s.data.toList.take P) k)
          have hle3 := chunk_len (s.data.toList.take P) k
          have HS := Lib.hid (sumW_succ (s.data.toList.take P) k)
          go_wp2_with (first | (go_at_call 91; refine (wordOnesW _ _ _).mono ?_; rintro e w' ⟨rfl, rfl⟩))
          go_round
          case rel => exact ⟨k + 1, by omega, by go_num, by rw [HS.out]; go_num⟩
          case measure => simp [intOf]; omega
        · have e7 : k = 7 := by omega
          subst e7
          have HE := Lib.hid (sumW_end (s.data.toList.take P) (by rw [List.length_take, len_l]; omega))
          go_wp2
          go_ret
          exact ⟨ret_int (by rw [HE.out]; rfl), hb⟩
    · have hr : onesR s p = -1 := by unfold onesR; rw [if_neg (fun h => hp h.2)]
      rw [hr]
      clear hr
      by_cases hp0 : p < 0
      · go_enter Try.func42, Try.ntmps42
        go_wp2_with (first | (go_at_call 89; refine (okI _ _ hs).mono ?_; rintro e w' ⟨rfl, rfl⟩))
        go_ret
        exact ⟨rfl, Below.refl _ _⟩
      · have hp1 : (s.size : Int) < p := by omega
        go_enter Try.func42, Try.ntmps42
        go_wp2_with (first | (go_at_call 89; refine (okI _ _ hs).mono ?_; rintro e w' ⟨rfl, rfl⟩))
        go_ret
        exact ⟨rfl, Below.refl _ _⟩
  · have hr : onesR s p = -1 := by unfold onesR; rw [if_neg (fun h => hok h.1)]
    have hok' : okB s.data.toList = false := by simpa using hok
    rw [hr]
    clear hr hok
    go_enter Try.func42, Try.ntmps42
    go_wp2_with (first | (go_at_call 89; refine (okI _ _ hs).mono ?_; rintro e w' ⟨rfl, rfl⟩))
    go_ret
    exact ⟨rfl, Below.refl _ _⟩

theorem Seek.word_hit {l : List UInt8} {N k m : Nat} (hs : Seek l N (64 * k) m) (h : m < ones (chunk l k)) : ∃ j, j < 64 ∧ oneIdx (chunk l k) m = some j ∧ oneIdx l N = some (64 * k + j) := by
  cases hj : oneIdx (chunk l k) m with
  | none => rw [oneIdx_none] at hj; omega
  | some j =>
    refine ⟨j, ?_, rfl, ?_⟩
    · have := (oneIdx_some _ _ _ hj).1; have := chunk_len l k; omega
    · rw [hs, drop_chunk, oneIdx_append, if_pos h, hj]; rfl
theorem Seek.word_past {l : List UInt8} {N k m : Nat} (hs : Seek l N (64 * k) m) (h : ¬ m < ones (chunk l k)) : Seek l N (64 * (k + 1)) (m - ones (chunk l k)) := by
  unfold Seek at *
  rw [hs, drop_chunk, oneIdx_append, if_neg h, Option.map_map]
  rcases Nat.lt_or_ge l.length (64 * (k + 1)) with hl | hl
  · rw [List.drop_eq_nil_of_le (by omega)]; rfl
  · congr 1
    funext x
    have : (chunk l k).length = 64 := by unfold chunk; rw [List.length_take, List.length_drop]; omega
    simp [this]; omega

theorem onesR_le (s : ByteArray) (p : Int) : -1 ≤ onesR s p ∧ onesR s p ≤ 400 := by
  unfold onesR
  split
  · rename_i h
    have := cntI_bd s p.toNat
    have := ok_len h.1
    rw [len_l] at this
    omega
  · omega

/-- the next one is that with as many ones ahead as the place -/
theorem next_is (s : ByteArray) (p : Int) : oneO s (onesR s p) = nextO s p := by
  unfold oneO onesR nextO
  by_cases h : okB s.data.toList = true ∧ 0 ≤ p ∧ p ≤ s.size
  · rw [if_pos h, if_pos h, if_pos ⟨h.1, (cntI_bd _ _).1⟩]
    unfold cntI
    rw [Int.toNat_natCast]
    exact next_eq _ _ (by rw [len_l]; omega)
  · rw [if_neg h, if_neg h, if_neg (fun e => by omega)]

end Go.Proofs.Ytakadkhgcjndmaa.W
