/-
  Contracts of the functions that read bit strings and make no memory: BitsOk of the program and of its model, and the model's counting and searching. Each at every string that Go can hold, and every int.
-/
import Derived.Test.YtjankanjaljehaaProg
import Derived.Test.YtjankanjaljehaaM
import Derived.WalkKit
import Derived.WalkLawsBesides
import Derived.WalkSpells
import Derived.Lib.Hide
import Derived.Handy
namespace Go.Proofs.Ytjankanjaljehaa.W
open Go.RowKit M

theorem ret_int {k : IntKind} {a b : Int} (h : a = b) : Ending.returned (.int k a) = .returned (.int k b) := by rw [h]
theorem ret_bool {a b : Bool} (h : a = b) : Ending.returned (.bool a) = .returned (.bool b) := by rw [h]

theorem at_k (s : ByteArray) (k : Nat) (h : k < s.size) : s.data.toList[k]? = some s[k] := by
  rw [List.getElem?_eq_getElem (by simpa using h)]; rfl
theorem take_k (s : ByteArray) (k : Nat) (h : k < s.size) : s.data.toList.take (k + 1) = s.data.toList.take k ++ [s[k]] := by
  rw [List.take_add_one, at_k s k h]; rfl
theorem len_l (s : ByteArray) : s.data.toList.length = s.size := by simp

theorem c48 (c : UInt8) : ((c.toNat : Int) = 48) ↔ c = 48 := by
  constructor
  · intro h; exact UInt8.toNat_inj.mp (by have : (48 : UInt8).toNat = 48 := rfl; omega)
  · rintro rfl; rfl
theorem c49 (c : UInt8) : ((c.toNat : Int) = 49) ↔ c = 49 := by
  constructor
  · intro h; exact UInt8.toNat_inj.mp (by have : (49 : UInt8).toNat = 49 := rfl; omega)
  · rintro rfl; rfl

def allOk (l : List UInt8) : Prop := l.all bitC = true
theorem allOk_snoc (s : ByteArray) (k : Nat) (h : k < s.size) (ha : allOk (s.data.toList.take k)) (hc : bitC s[k] = true) : allOk (s.data.toList.take (k + 1)) := by
  unfold allOk at *; rw [take_k s k h, List.all_append, ha]; simp [hc]
theorem not_ok (s : ByteArray) (k : Nat) (h : k < s.size) (hc : bitC s[k] = false) : okB s.data.toList = false := by
  unfold okB
  have : s.data.toList.all bitC = false := by
    rw [cut s.data.toList (k + 1), take_k s k h]
    simp [hc]
  rw [this]; simp
theorem ok_end (s : ByteArray) (k : Nat) (hk : ¬ k < s.size) (ha : allOk (s.data.toList.take k)) : okB s.data.toList = decide (s.size ≤ 400) := by
  rw [List.take_of_length_le (by rw [len_l]; omega)] at ha
  unfold okB; rw [ha, len_l]; simp
theorem bit_no (c : UInt8) (h1 : (c.toNat : Int) ≠ 48) (h2 : (c.toNat : Int) ≠ 49) : bitC c = false := by
  unfold bitC; simp; exact ⟨fun h => h1 ((c48 c).mpr h), fun h => h2 ((c49 c).mpr h)⟩
theorem bit_48 (c : UInt8) (h1 : (c.toNat : Int) = 48) : bitC c = true := by
  rw [(c48 c).mp h1]; rfl
theorem bit_49 (c : UInt8) (h1 : (c.toNat : Int) = 49) : bitC c = true := by
  rw [(c49 c).mp h1]; rfl

theorem by_ne (c : UInt8) (h : ((c.toNat : Int) != 48) = true ∧ ((c.toNat : Int) != 49) = true) : bitC c = false := by
  simp at h; exact bit_no c (by omega) (by omega)
theorem by_or (c : UInt8) (h : ((c.toNat : Int) != 48) = false ∨ ((c.toNat : Int) != 49) = false) : bitC c = true := by
  rcases h with h | h <;> simp at h
  · exact bit_48 c (by omega)
  · exact bit_49 c (by omega)

set_option maxHeartbeats 400000 in
theorem okI (s : ByteArray) (w : World) (hs : s.size ≤ maxLen) :
    Calls Try.prog 21 #[.string s] w fun e w' => e = .returned (.bool (okB s.data.toList)) ∧ w = w' := by
  unfold maxLen at hs
  by_cases hl : s.size ≤ 400
  · have hl' : ¬ (400 : Int) < (s.size : Int) := by omega
    go_enter Try.func21, Try.ntmps21
    go_wp2
    go_loop [9] (fun i => ∃ k : Nat, k ≤ s.size ∧ i = .int .i64 k ∧ allOk (s.data.toList.take k)) (fun i => s.size - (intOf i).toNat)
    case atStart => exact ⟨0, Nat.zero_le _, rfl, by simp [allOk]⟩
    case round =>
      obtain ⟨k, hk, rfl, ha⟩ := hrel
      by_cases hlt : k < s.size
      · go_wp2
        · go_round
          case rel => exact ⟨k + 1, by omega, by go_num, allOk_snoc s k hlt ha (bit_48 _ ‹_›)⟩
          case measure => simp [intOf]; omega
        · go_ret
          exact ⟨ret_bool (not_ok s k hlt (by_ne _ ‹_›)).symm, rfl⟩
        · go_round
          case rel => exact ⟨k + 1, by omega, by go_num, allOk_snoc s k hlt ha (by_or _ ‹_›)⟩
          case measure => simp [intOf]; omega
      · go_wp2
        go_ret
        exact ⟨ret_bool (by rw [ok_end s k hlt ha]; simp [hl]), rfl⟩
  · have hl' : (400 : Int) < (s.size : Int) := by omega
    go_enter Try.func21, Try.ntmps21
    go_wp2
    go_ret
    exact ⟨ret_bool (by simp [okB, hl]), rfl⟩
set_option maxHeartbeats 400000 in
theorem okS (s : ByteArray) (w : World) (hs : s.size ≤ maxLen) :
    Calls Try.prog 20 #[.string s] w fun e w' => e = .returned (.bool (okB s.data.toList)) ∧ w = w' := by
  unfold maxLen at hs
  go_enter Try.func20, Try.ntmps20
  go_wp2
  go_loop [3] (fun i => ∃ k : Nat, k ≤ s.size ∧ i = .int .i64 k ∧ allOk (s.data.toList.take k)) (fun i => s.size - (intOf i).toNat)
  case atStart => exact ⟨0, Nat.zero_le _, rfl, by simp [allOk]⟩
  case round =>
    obtain ⟨k, hk, rfl, ha⟩ := hrel
    by_cases hlt : k < s.size
    · go_wp2
      · go_round
        case rel => exact ⟨k + 1, by omega, by go_num, allOk_snoc s k hlt ha (bit_48 _ ‹_›)⟩
        case measure => simp [intOf]; omega
      · go_ret
        exact ⟨ret_bool (not_ok s k hlt (by_ne _ ‹_›)).symm, rfl⟩
      · go_round
        case rel => exact ⟨k + 1, by omega, by go_num, allOk_snoc s k hlt ha (by_or _ ‹_›)⟩
        case measure => simp [intOf]; omega
    · go_wp2
      go_ret
      exact ⟨ret_bool (by rw [ok_end s k hlt ha]; exact decide_eq_decide.mpr (by omega)), rfl⟩

def inB (n a b : Int) : Bool := decide (a ≤ n ∧ n ≤ b)
theorem inS (n a b : Int) (w : World) : Calls Try.prog 27 #[.int .i64 n, .int .i64 a, .int .i64 b] w fun e w' => e = .returned (.bool (inB n a b)) ∧ w = w' := by
  go_enter Try.func27, Try.ntmps27
  go_wp2
  · go_ret
    exact ⟨ret_bool (by simp [inB, *]), rfl⟩
  · go_ret
    exact ⟨ret_bool (by simp [inB, *]; omega), rfl⟩

def cntI (s : ByteArray) (k : Nat) : Int := (ones (s.data.toList.take k) : Int)
theorem cntI_bd (s : ByteArray) (k : Nat) : 0 ≤ cntI s k ∧ cntI s k ≤ k := by
  unfold cntI; have := ones_take_le s.data.toList k; omega
theorem cntI_succ (s : ByteArray) (k : Nat) (h : k < s.size) : cntI s (k + 1) = cntI s k + if (s[k].toNat : Int) = 49 then 1 else 0 := by
  unfold cntI
  rw [ones_take_succ _ _ _ (at_k s k h)]
  simp only [c49]
  split <;> omega

set_option maxHeartbeats 400000 in
theorem onesS (s : ByteArray) (at_ : Int) (w : World) (hs : s.size ≤ maxLen) (h0 : 0 ≤ at_) (h1 : at_ ≤ s.size) :
    Calls Try.prog 28 #[.string s, .int .i64 at_] w fun e w' => e = .returned (.int .i64 (cntI s at_.toNat)) ∧ w = w' := by
  unfold maxLen at hs
  obtain ⟨m, rfl⟩ := Int.eq_ofNat_of_zero_le h0
  go_enter Try.func28, Try.ntmps28
  go_wp2
  go_loop [5, 6] (fun n i => ∃ k : Nat, k ≤ m ∧ i = .int .i64 k ∧ n = .int .i64 (cntI s k)) (fun _ i => m - (intOf i).toNat)
  case atStart => exact ⟨0, Nat.zero_le _, rfl, by simp [cntI, ones]⟩
  case round =>
    obtain ⟨k, hk, rfl, rfl⟩ := hrel
    have hb := cntI_bd s k
    by_cases hlt : k < m
    · have hlt2 : k < s.size := by omega
      have HS := Lib.hid (cntI_succ s k hlt2)
      go_wp2
      · have hc : (s[k].toNat : Int) = 49 := by have h : ((s[k].toNat : Int) == 49) = true := ‹_›; simpa using h
        go_round
        case rel => exact ⟨k + 1, by omega, by go_num, by rw [HS.out, if_pos hc]⟩
        case measure => simp [intOf]; omega
      · have hc : ¬ (s[k].toNat : Int) = 49 := by have h : ((s[k].toNat : Int) == 49) = false := ‹_›; simpa using h
        go_round
        case rel => exact ⟨k + 1, by omega, by go_num, by rw [HS.out, if_neg hc, Int.add_zero]⟩
        case measure => simp [intOf]; omega
    · have hkm : m = k := by omega
      subst hkm
      go_wp2
      go_ret
      exact ⟨rfl, rfl⟩

/-- the search for the one with number N has come to place k, with m ones to go -/
def Seek (l : List UInt8) (N k m : Nat) : Prop := oneIdx l N = (oneIdx (l.drop k) m).map (k + ·)
theorem Seek.start (l : List UInt8) (N : Nat) : Seek l N 0 N := by
  unfold Seek; simp
theorem Seek.hit (s : ByteArray) (N k : Nat) (h : k < s.size) (hs : Seek s.data.toList N k 0) (hc : (s[k].toNat : Int) = 49) : oneIdx s.data.toList N = some k := by
  rw [hs, one_step _ _ _ _ (at_k s k h), if_pos ((c49 _).mp hc), if_pos rfl]
theorem Seek.past (s : ByteArray) (N k m : Nat) (h : k < s.size) (hs : Seek s.data.toList N k (m + 1)) (hc : (s[k].toNat : Int) = 49) : Seek s.data.toList N (k + 1) m := by
  unfold Seek at *
  rw [hs, one_step _ _ _ _ (at_k s k h), if_pos ((c49 _).mp hc), if_neg (by omega)]; rfl
theorem Seek.skip (s : ByteArray) (N k m : Nat) (h : k < s.size) (hs : Seek s.data.toList N k m) (hc : ¬ (s[k].toNat : Int) = 49) : Seek s.data.toList N (k + 1) m := by
  unfold Seek at *
  rw [hs, one_step _ _ _ _ (at_k s k h), if_neg (fun e => hc ((c49 _).mpr e))]
theorem Seek.done (s : ByteArray) (N k m : Nat) (h : ¬ k < s.size) (hs : Seek s.data.toList N k m) : oneIdx s.data.toList N = none := by
  rw [hs, List.drop_eq_nil_of_le (by rw [len_l]; omega)]; rfl

/-- where the one with a number is, as many as there are bits if there is none -/
def oneOr (s : ByteArray) (N : Nat) : Int := ((oneIdx s.data.toList N).getD s.size : Nat)

set_option maxHeartbeats 400000 in
theorem oneS (s : ByteArray) (n : Int) (w : World) (hs : s.size ≤ maxLen) (h0 : 0 ≤ n) (h1 : n ≤ 9223372036854775807) :
    Calls Try.prog 29 #[.string s, .int .i64 n] w fun e w' => e = .returned (.int .i64 (oneOr s n.toNat)) ∧ w = w' := by
  unfold maxLen at hs
  obtain ⟨N, rfl⟩ := Int.eq_ofNat_of_zero_le h0
  rw [Int.toNat_natCast]
  go_enter Try.func29, Try.ntmps29
  go_wp2
  go_loop [1, 5] (fun n i => ∃ k m : Nat, k ≤ s.size ∧ m ≤ N ∧ i = .int .i64 k ∧ n = .int .i64 m ∧ Seek s.data.toList N k m) (fun _ i => s.size - (intOf i).toNat)
  case atStart => exact ⟨0, N, Nat.zero_le _, Nat.le_refl _, rfl, rfl, Seek.start _ _⟩
  case round =>
    obtain ⟨k, m, hk, hm, rfl, rfl, hsk⟩ := hrel
    by_cases hlt : k < s.size
    · by_cases hc : (s[k].toNat : Int) = 49
      · have hc1 : ((s[k].toNat : Int) != 49) = false := by simp [hc]
        have HC := Lib.hid hc
        clear hc
        by_cases hm0 : m = 0
        · subst hm0
          go_wp2
          go_ret
          exact ⟨ret_int (by unfold oneOr; rw [Seek.hit s N k hlt hsk HC.out]; rfl), rfl⟩
        · obtain ⟨m', rfl⟩ : ∃ m', m = m' + 1 := ⟨m - 1, by omega⟩
          go_wp2
          go_round
          case rel => exact ⟨k + 1, m', by omega, by omega, by go_num, by go_num, Seek.past s N k m' hlt hsk HC.out⟩
          case measure => simp [intOf]; omega
      · have hc1 : ((s[k].toNat : Int) != 49) = true := by simp [hc]
        have HC := Lib.hid hc
        clear hc
        go_wp2
        go_round
        case rel => exact ⟨k + 1, m, by omega, by omega, by go_num, by go_num, Seek.skip s N k m hlt hsk HC.out⟩
        case measure => simp [intOf]; omega
    · go_wp2
      go_ret
      exact ⟨ret_int (by unfold oneOr; rw [Seek.done s N k m hlt hsk]; rfl), rfl⟩

end Go.Proofs.Ytjankanjaljehaa.W
