/-
  Contracts of the functions that read bit strings and make no memory: BitsOk of the program and of its model, and the model's counting and searching. Each at every string that Go can hold, and every int.
  Contracts of the model's l3Letter and l3Rest: a key's letter at a place, and what is kept of it behind one.
  Contract of the model's l3Kids: to which branches a branch leads.
  Contracts of the model's l3Sames (are texts the same) and l3Whole (is all of a key kept).
  Contract of the model's l3Add: what is kept of the keys of some branches, put behind others, at every filter whose parts are as long as they must be.
  Contract of the model's l3Form: are a filter's parts as long as they must be, at every filter.
-/
import Derived.Test.YtfhpkcamigkmdaaGreatDoorZAA
import Derived.Test.YtfhpkcamigkmdaaGreatDoorJ1
import Derived.WalkKit
import Derived.WalkLawsBesides
import Derived.WalkSpells
import Derived.Lib.Hide
import Derived.Handy
namespace Go.Proofs.YtfhpkcamigkmdaaGreatDoor.W
open Go.RowKit M

def allOk (l : List UInt8) : Prop := l.all bitC = true
theorem allOk_snoc (s : ByteArray) (k : Nat) (h : k < s.size) (ha : allOk (s.data.toList.take k)) (hc : bitC s[k] = true) : allOk (s.data.toList.take (k + 1)) := by
  unfold allOk at *; rw [take_k s k h, List.all_append, ha]; simp [hc]
theorem not_ok (s : ByteArray) (k : Nat) (h : k < s.size) (hc : bitC s[k] = false) : okB s.data.toList = false := by
  unfold okB
  have : s.data.toList.all bitC = false := by
    rw [cut s.data.toList (k + 1), take_k s k h]
    simp [hc]
  rw [this]; simp
theorem ok_end (s : ByteArray) (k : Nat) (hk : ¬ k < s.size) (ha : allOk (s.data.toList.take k)) : okB s.data.toList = decide (s.size ≤ 400) := by
  rw [List.take_of_length_le (by rw [len_l]; omega)] at ha
  unfold okB; rw [ha, len_l]; simp
theorem bit_no (c : UInt8) (h1 : (c.toNat : Int) ≠ 48) (h2 : (c.toNat : Int) ≠ 49) : bitC c = false := by
  unfold bitC; simp; exact ⟨fun h => h1 ((c48 c).mpr h), fun h => h2 ((c49 c).mpr h)⟩
theorem bit_48 (c : UInt8) (h1 : (c.toNat : Int) = 48) : bitC c = true := by
  rw [(c48 c).mp h1]; rfl
theorem bit_49 (c : UInt8) (h1 : (c.toNat : Int) = 49) : bitC c = true := by
  rw [(c49 c).mp h1]; rfl

theorem by_ne (c : UInt8) (h : ((c.toNat : Int) != 48) = true ∧ ((c.toNat : Int) != 49) = true) : bitC c = false := by
  simp at h; exact bit_no c (by omega) (by omega)
theorem by_or (c : UInt8) (h : ((c.toNat : Int) != 48) = false ∨ ((c.toNat : Int) != 49) = false) : bitC c = true := by
  rcases h with h | h <;> simp at h
  · exact bit_48 c (by omega)
  · exact bit_49 c (by omega)

set_option maxHeartbeats 400000 in
theorem okI (s : ByteArray) (w : World) (hs : s.size ≤ maxLen) :
    Calls Tryz.prog 202 #[.string s] w fun e w' => e = .returned (.bool (okB s.data.toList)) ∧ w = w' := by
  unfold maxLen at hs
  by_cases hl : s.size ≤ 400
  · have hl' : ¬ (400 : Int) < (s.size : Int) := by omega
    go_enter Tryz.func202, Tryz.ntmps202
    go_wp2
    go_loop [9] (fun i => ∃ k : Nat, k ≤ s.size ∧ i = .int .i64 k ∧ allOk (s.data.toList.take k)) (fun i => s.size - (intOf i).toNat)
    case atStart => exact ⟨0, Nat.zero_le _, rfl, by simp [allOk]⟩
    case round =>
      obtain ⟨k, hk, rfl, ha⟩ := hrel
      by_cases hlt : k < s.size
      · go_wp2
        · go_round
          case rel => exact ⟨k + 1, by omega, by go_num, allOk_snoc s k hlt ha (bit_48 _ ‹_›)⟩
          case measure => simp [intOf]; omega
        · go_ret
          exact ⟨ret_bool (not_ok s k hlt (by_ne _ ‹_›)).symm, rfl⟩
        · go_round
          case rel => exact ⟨k + 1, by omega, by go_num, allOk_snoc s k hlt ha (by_or _ ‹_›)⟩
          case measure => simp [intOf]; omega
      · go_wp2
        go_ret
        exact ⟨ret_bool (by rw [ok_end s k hlt ha]; simp [hl]), rfl⟩
  · have hl' : (400 : Int) < (s.size : Int) := by omega
    go_enter Tryz.func202, Tryz.ntmps202
    go_wp2
    go_ret
    exact ⟨ret_bool (by simp [okB, hl]), rfl⟩
set_option maxHeartbeats 400000 in
theorem okS (s : ByteArray) (w : World) (hs : s.size ≤ maxLen) :
    Calls Tryz.prog 189 #[.string s] w fun e w' => e = .returned (.bool (okB s.data.toList)) ∧ w = w' := by
  unfold maxLen at hs
  go_enter Tryz.func189, Tryz.ntmps189
  go_wp2
  go_loop [3] (fun i => ∃ k : Nat, k ≤ s.size ∧ i = .int .i64 k ∧ allOk (s.data.toList.take k)) (fun i => s.size - (intOf i).toNat)
  case atStart => exact ⟨0, Nat.zero_le _, rfl, by simp [allOk]⟩
  case round =>
    obtain ⟨k, hk, rfl, ha⟩ := hrel
    by_cases hlt : k < s.size
    · go_wp2
      · go_round
        case rel => exact ⟨k + 1, by omega, by go_num, allOk_snoc s k hlt ha (bit_48 _ ‹_›)⟩
        case measure => simp [intOf]; omega
      · go_ret
        exact ⟨ret_bool (not_ok s k hlt (by_ne _ ‹_›)).symm, rfl⟩
      · go_round
        case rel => exact ⟨k + 1, by omega, by go_num, allOk_snoc s k hlt ha (by_or _ ‹_›)⟩
        case measure => simp [intOf]; omega
    · go_wp2
      go_ret
      exact ⟨ret_bool (by rw [ok_end s k hlt ha]; exact decide_eq_decide.mpr (by omega)), rfl⟩

def cntI (s : ByteArray) (k : Nat) : Int := (ones (s.data.toList.take k) : Int)
theorem cntI_bd (s : ByteArray) (k : Nat) : 0 ≤ cntI s k ∧ cntI s k ≤ k := by
  unfold cntI; have := ones_take_le s.data.toList k; omega
theorem cntI_succ (s : ByteArray) (k : Nat) (h : k < s.size) : cntI s (k + 1) = cntI s k + if (s[k].toNat : Int) = 49 then 1 else 0 := by
  unfold cntI
  rw [ones_take_succ _ _ _ (at_k s k h)]
  simp only [c49]
  split <;> omega

set_option maxHeartbeats 400000 in
theorem onesS (s : ByteArray) (at_ : Int) (w : World) (hs : s.size ≤ maxLen) (h0 : 0 ≤ at_) (h1 : at_ ≤ s.size) :
    Calls Tryz.prog 129 #[.string s, .int .i64 at_] w fun e w' => e = .returned (.int .i64 (cntI s at_.toNat)) ∧ w = w' := by
  unfold maxLen at hs
  obtain ⟨m, rfl⟩ := Int.eq_ofNat_of_zero_le h0
  go_enter Tryz.func129, Tryz.ntmps129
  go_wp2
  go_loop [5, 6] (fun n i => ∃ k : Nat, k ≤ m ∧ i = .int .i64 k ∧ n = .int .i64 (cntI s k)) (fun _ i => m - (intOf i).toNat)
  case atStart => exact ⟨0, Nat.zero_le _, rfl, by simp [cntI, ones]⟩
  case round =>
    obtain ⟨k, hk, rfl, rfl⟩ := hrel
    have hb := cntI_bd s k
    by_cases hlt : k < m
    · have hlt2 : k < s.size := by omega
      have HS := Lib.hid (cntI_succ s k hlt2)
      go_wp2
      · have hc : (s[k].toNat : Int) = 49 := by have h : ((s[k].toNat : Int) == 49) = true := ‹_›; simpa using h
        go_round
        case rel => exact ⟨k + 1, by omega, by go_num, by rw [HS.out, if_pos hc]⟩
        case measure => simp [intOf]; omega
      · have hc : ¬ (s[k].toNat : Int) = 49 := by have h : ((s[k].toNat : Int) == 49) = false := ‹_›; simpa using h
        go_round
        case rel => exact ⟨k + 1, by omega, by go_num, by rw [HS.out, if_neg hc, Int.add_zero]⟩
        case measure => simp [intOf]; omega
    · have hkm : m = k := by omega
      subst hkm
      go_wp2
      go_ret
      exact ⟨rfl, rfl⟩

/-- the search for the one with number N has come to place k, with m ones to go -/
def Seek (l : List UInt8) (N k m : Nat) : Prop := oneIdx l N = (oneIdx (l.drop k) m).map (k + ·)
theorem Seek.start (l : List UInt8) (N : Nat) : Seek l N 0 N := by
  unfold Seek; simp
theorem Seek.hit (s : ByteArray) (N k : Nat) (h : k < s.size) (hs : Seek s.data.toList N k 0) (hc : (s[k].toNat : Int) = 49) : oneIdx s.data.toList N = some k := by
  rw [hs, one_step _ _ _ _ (at_k s k h), if_pos ((c49 _).mp hc), if_pos rfl]
theorem Seek.past (s : ByteArray) (N k m : Nat) (h : k < s.size) (hs : Seek s.data.toList N k (m + 1)) (hc : (s[k].toNat : Int) = 49) : Seek s.data.toList N (k + 1) m := by
  unfold Seek at *
  rw [hs, one_step _ _ _ _ (at_k s k h), if_pos ((c49 _).mp hc), if_neg (by omega)]; rfl
theorem Seek.skip (s : ByteArray) (N k m : Nat) (h : k < s.size) (hs : Seek s.data.toList N k m) (hc : ¬ (s[k].toNat : Int) = 49) : Seek s.data.toList N (k + 1) m := by
  unfold Seek at *
  rw [hs, one_step _ _ _ _ (at_k s k h), if_neg (fun e => hc ((c49 _).mpr e))]
theorem Seek.done (s : ByteArray) (N k m : Nat) (h : ¬ k < s.size) (hs : Seek s.data.toList N k m) : oneIdx s.data.toList N = none := by
  rw [hs, List.drop_eq_nil_of_le (by rw [len_l]; omega)]; rfl

/-- where the one with a number is, as many as there are bits if there is none -/
def oneOr (s : ByteArray) (N : Nat) : Int := ((oneIdx s.data.toList N).getD s.size : Nat)

set_option maxHeartbeats 400000 in
theorem oneS (s : ByteArray) (n : Int) (w : World) (hs : s.size ≤ maxLen) (h0 : 0 ≤ n) (h1 : n ≤ 9223372036854775807) :
    Calls Tryz.prog 124 #[.string s, .int .i64 n] w fun e w' => e = .returned (.int .i64 (oneOr s n.toNat)) ∧ w = w' := by
  unfold maxLen at hs
  obtain ⟨N, rfl⟩ := Int.eq_ofNat_of_zero_le h0
  rw [Int.toNat_natCast]
  go_enter Tryz.func124, Tryz.ntmps124
  go_wp2
  go_loop [1, 5] (fun n i => ∃ k m : Nat, k ≤ s.size ∧ m ≤ N ∧ i = .int .i64 k ∧ n = .int .i64 m ∧ Seek s.data.toList N k m) (fun _ i => s.size - (intOf i).toNat)
  case atStart => exact ⟨0, N, Nat.zero_le _, Nat.le_refl _, rfl, rfl, Seek.start _ _⟩
  case round =>
    obtain ⟨k, m, hk, hm, rfl, rfl, hsk⟩ := hrel
    by_cases hlt : k < s.size
    · by_cases hc : (s[k].toNat : Int) = 49
      · have hc1 : ((s[k].toNat : Int) != 49) = false := by simp [hc]
        have HC := Lib.hid hc
        clear hc
        by_cases hm0 : m = 0
        · subst hm0
          go_wp2
          go_ret
          exact ⟨ret_int (by unfold oneOr; rw [Seek.hit s N k hlt hsk HC.out]; rfl), rfl⟩
        · obtain ⟨m', rfl⟩ : ∃ m', m = m' + 1 := ⟨m - 1, by omega⟩
          go_wp2
          go_round
          case rel => exact ⟨k + 1, m', by omega, by omega, by go_num, by go_num, Seek.past s N k m' hlt hsk HC.out⟩
          case measure => simp [intOf]; omega
      · have hc1 : ((s[k].toNat : Int) != 49) = true := by simp [hc]
        have HC := Lib.hid hc
        clear hc
        go_wp2
        go_round
        case rel => exact ⟨k + 1, m, by omega, by omega, by go_num, by go_num, Seek.skip s N k m hlt hsk HC.out⟩
        case measure => simp [intOf]; omega
    · go_wp2
      go_ret
      exact ⟨ret_int (by unfold oneOr; rw [Seek.done s N k m hlt hsk]; rfl), rfl⟩

end Go.Proofs.YtfhpkcamigkmdaaGreatDoor.W

namespace Go.Proofs.YtfhpkcamigkmdaaGreatDoor.W
open Go.RowKit K

/-- a key's letter at a place, as a string -/
def letS (k : ByteArray) (d : Nat) : ByteArray := if k.size ≤ d then ⟨#[45]⟩ else k.extract d (d + 1)
/-- what is kept of a key behind so many letters -/
def restS (k : ByteArray) (d keep : Nat) : ByteArray := if k.size ≤ d then ⟨#[]⟩ else (k.extract d k.size).extract 0 (min (k.size - d) keep)

set_option maxHeartbeats 400000 in
theorem letterS (k : ByteArray) (d : Nat) (w : World) (hd : d < 1000) :
    Calls Tryz.prog 166 #[.string k, .int .i64 d] w fun e w' => e = .returned (.string (letS k d)) ∧ w = w' := by
  by_cases hle : k.size ≤ d
  · have hle2 : (d : Int) ≥ (k.size : Int) := by omega
    go_enter Tryz.func166, Tryz.ntmps166
    go_wp2
    go_ret
    exact ⟨by unfold letS; rw [if_pos hle]; rfl, rfl⟩
  · have hle2 : ¬ (d : Int) ≥ (k.size : Int) := by omega
    go_enter Tryz.func166, Tryz.ntmps166
    go_wp2
    go_ret
    exact ⟨by unfold letS; rw [if_neg hle]; rfl, rfl⟩

set_option maxHeartbeats 400000 in
theorem restS_ok (k : ByteArray) (d keep : Nat) (w : World) (hd : d < 1000) (hkeep : keep < 1000) :
    Calls Tryz.prog 176 #[.string k, .int .i64 d, .int .i64 keep] w fun e w' => e = .returned (.string (restS k d keep)) ∧ w = w' := by
  by_cases hle : k.size ≤ d
  · have hle2 : (d : Int) ≥ (k.size : Int) := by omega
    go_enter Tryz.func176, Tryz.ntmps176
    go_wp2
    go_ret
    exact ⟨by unfold restS; rw [if_pos hle]; rfl, rfl⟩
  · have hle2 : ¬ (d : Int) ≥ (k.size : Int) := by omega
    go_enter Tryz.func176, Tryz.ntmps176
    go_wp2
    · go_ret
      refine ⟨?_, rfl⟩
      show Ending.returned (.string ((k.extract d k.size).extract 0 keep)) = _
      unfold restS
      rw [if_neg hle, show min (k.size - d) keep = keep by omega]
    · go_ret
      refine ⟨?_, rfl⟩
      show Ending.returned (.string ((k.extract d k.size).extract 0 (k.size - d))) = _
      unfold restS
      rw [if_neg hle, show min (k.size - d) keep = k.size - d by omega]

/-- strings as lists of letters -/
theorem ext_l (k : ByteArray) (a b : Nat) : (k.extract a b).toList = (k.toList.drop a).take (b - a) := by
  rw [ByteArray.toList_eq, ByteArray.toList_eq, ByteArray.data_extract, Array.toList_extract]
theorem letS_l (k : ByteArray) (d : Nat) : (letS k d).toList = [T.letter k.toList d] := by
  have hs : k.toList.length = k.size := by rw [ByteArray.toList_eq]; rfl
  unfold letS T.letter
  by_cases h : k.size ≤ d
  · rw [if_pos h, List.getElem?_eq_none (by omega), ByteArray.toList_eq]
    rfl
  · rw [if_neg h, ext_l, List.getElem?_eq_getElem (by omega), Nat.add_sub_cancel_left, List.take_one, List.head?_drop, List.getElem?_eq_getElem (by omega)]
    rfl
theorem restS_l (k : ByteArray) (d keep : Nat) : (restS k d keep).toList = T.restOf k.toList d keep := by
  have hs : k.toList.length = k.size := by rw [ByteArray.toList_eq]; rfl
  unfold restS T.restOf
  by_cases h : k.size ≤ d
  · rw [if_pos h, List.drop_eq_nil_of_le (by omega), ByteArray.toList_eq]
    simp
  · rw [if_neg h, ext_l, ext_l, List.drop_zero, Nat.sub_zero, List.take_take]
    rcases Nat.le_total keep (k.size - d) with hle | hle
    · rw [show min (min (k.size - d) keep) (k.size - d) = keep by omega]
    · rw [show min (min (k.size - d) keep) (k.size - d) = k.size - d by omega]
      rw [List.take_of_length_le (by rw [List.length_drop]; omega), List.take_of_length_le (by rw [List.length_drop]; omega)]

end Go.Proofs.YtfhpkcamigkmdaaGreatDoor.W

namespace Go.Proofs.YtfhpkcamigkmdaaGreatDoor.W
open Go.RowKit K

set_option maxHeartbeats 1000000 in
theorem kidsS (L M F : ByteArray) (A : Option Addr) (n c : Nat) (keep : Int) (i : Nat) (w : World) (hM : M.size ≤ 1000) (hi : i + 1 ≤ M.size) (hF : F.size ≤ 1000) :
    Calls Tryz.prog 162 #[.agg #[.string L, .string M, .string F, .slice A n c, .int .i64 keep], .int .i64 i] w fun e w' =>
      e = .returned (.tuple #[.int .i64 (oneOr F (cntI M (i + 1)).toNat), .int .i64 (oneOr F (cntI M (i + 1) + 1).toNat)]) ∧ Below w.heap.size w w' := by
  obtain ⟨r, hr⟩ : ∃ r : Int, r = cntI M (i + 1) := ⟨_, rfl⟩
  have hbd := cntI_bd M (i + 1)
  rw [← hr] at hbd ⊢
  have HR := Lib.hid hr
  clear hr
  go_enter Tryz.func162, Tryz.ntmps162
  go_wp2_with fail
  go_at_call 129
  refine (onesS M _ _ (by unfold maxLen; omega) (by omega) (by omega)).mono ?_
  rintro e w2 ⟨rfl, rfl⟩
  rw [show ((i : Int) + 1).toNat = i + 1 by omega, ← HR.out]
  go_wp2_with fail
  go_at_call 124
  refine (oneS F _ _ (by unfold maxLen; omega) (by omega) (by omega)).mono ?_
  rintro e w2 ⟨rfl, rfl⟩
  obtain ⟨a, ha⟩ : ∃ a : Int, a = oneOr F r.toNat := ⟨_, rfl⟩
  rw [← ha]
  have HA := Lib.hid ha
  clear ha
  go_wp2_with fail
  go_at_call 124
  refine (oneS F _ _ (by unfold maxLen; omega) (by omega) (by omega)).mono ?_
  rintro e w2 ⟨rfl, rfl⟩
  obtain ⟨b, hb⟩ : ∃ b : Int, b = oneOr F (r + 1).toNat := ⟨_, rfl⟩
  rw [← hb]
  have HB := Lib.hid hb
  clear hb
  go_wp2
  go_ret2
  exact ⟨by rw [← HA.out, ← HB.out]; rfl, (Below.refl _ _).alloc (Nat.le_refl _) _⟩

end Go.Proofs.YtfhpkcamigkmdaaGreatDoor.W

namespace Go.Proofs.YtfhpkcamigkmdaaGreatDoor.W
open Go.RowKit K

set_option maxHeartbeats 1000000 in
theorem sames3 (w : World) (B n c n2 c2 : Nat) (A A2 : Option Addr) (l l2 : List ByteArray) (hr : Strs w B A n l) (hr2 : Strs w B A2 n2 l2) (hn : n ≤ maxLen) (hn2 : n2 ≤ maxLen) :
    Calls Tryz.prog 135 #[.slice A n c, .slice A2 n2 c2] w fun e w' => e = .returned (.bool (sameL l l2)) ∧ Same w w' := by
  have hlen := hr.len
  subst hlen
  have hlen2 := hr2.len
  subst hlen2
  unfold maxLen at hn hn2
  have HR := Lib.hid hr
  have HR2 := Lib.hid hr2
  clear hr hr2
  by_cases hll : l.length = l2.length
  · have HLL := Lib.hid hll
    have hne : ((l.length : Int) != (l2.length : Int)) = false := by simp [hll]
    clear hll
    go_enter Tryz.func135, Tryz.ntmps135
    go_wp2
    go_loopw [5] (fun i wr => ∃ k : Nat, k ≤ l.length ∧ i = .int .i64 k ∧ Hid (l.take k = l2.take k) ∧ Same w wr) (fun i _ => l.length - (intOf i).toNat)
    case atStart => exact ⟨0, Nat.zero_le _, rfl, Lib.hid rfl, Same.refl w⟩
    case round =>
      obtain ⟨k, hk, rfl, hg, hsm⟩ := hrel
      have HS := Lib.hid hsm
      clear hsm
      by_cases hlt : k < l.length
      · have hlt2 : k < l2.length := by have := HLL.out; omega
        obtain ⟨b, off, hA, hb, hc⟩ := (HS.out.strs HR.out).cell k hlt
        subst hA
        obtain ⟨b2, off2, hA2, hb2, hc2⟩ := (HS.out.strs HR2.out).cell k hlt2
        subst hA2
        have hx0 : (0 : Int) ≤ (k : Int) := by omega
        have hx1 : (k : Int) < (l.length : Int) := by omega
        have hx2 : (k : Int) < (l2.length : Int) := by omega
        rcases Bool.eq_false_or_eq_true (l[k].toList == l2[k].toList) with he | he
        · have HE := Lib.hid he
          go_wp2
          go_quiet (fail)
          go_wp2
          go_roundw
          case rel => exact ⟨k + 1, by omega, by go_num, Lib.hid (same_step hlt hlt2 HE.out hg.out), HS.out.drewN _⟩
          case measure => simp [intOf]; omega
        · have HE := Lib.hid he
          go_wp2
          go_quiet (fail)
          go_wp2
          go_ret
          exact ⟨ret_bool (same_at hlt hlt2 HE.out).symm, HS.out.drewN _⟩
      · have hke : k = l.length := by omega
        subst hke
        go_wp2
        go_ret
        exact ⟨ret_bool (same_end HLL.out hg.out).symm, HS.out⟩
  · have hne : ((l.length : Int) != (l2.length : Int)) = true := by simp; omega
    have HLL := Lib.hid hll
    clear hll
    go_enter Tryz.func135, Tryz.ntmps135
    go_wp2
    go_ret
    exact ⟨ret_bool (same_len HLL.out).symm, Same.refl w⟩

set_option maxHeartbeats 1000000 in
theorem wholeS (L M F : ByteArray) (A : Option Addr) (n c : Nat) (keep : Int) (i q B : Nat) (l : List ByteArray) (w : World) (hM : M.size ≤ 1000) (hi : i < M.size) (hL : i < L.size)
    (hr : Strs w B A n l) (hB : B ≤ w.heap.size) (hn : n ≤ 1000) (hq : (q : Int) = i - cntI M i) (hql : q < l.length) :
    Calls Tryz.prog 130 #[.agg #[.string L, .string M, .string F, .slice A n c, .int .i64 keep], .int .i64 i] w fun e w' =>
      e = .returned (.bool (decide (L[i].toNat = 45) || decide ((l[q].size : Int) < keep))) ∧ Below w.heap.size w w' := by
  have hlen := hr.len
  subst hlen
  obtain ⟨r, hr2⟩ : ∃ r : Int, r = cntI M i := ⟨_, rfl⟩
  have hbd := cntI_bd M i
  rw [← hr2] at hbd hq
  have HR2 := Lib.hid hr2
  have HR := Lib.hid hr
  clear hr hr2
  go_enter Tryz.func130, Tryz.ntmps130
  go_wp2_with fail
  go_at_call 129
  refine (onesS M _ _ (by unfold maxLen; omega) (by omega) (by omega)).mono ?_
  rintro e w2 ⟨rfl, rfl⟩
  rw [show ((i : Int)).toNat = i by omega, ← HR2.out]
  have hb1 : Below w.heap.size w (w.alloc (Obj.cells #[Value.string L, Value.string M, Value.string F, Value.slice A l.length c, Value.int IntKind.i64 keep] 92)) := (Below.refl _ _).alloc (Nat.le_refl _) _
  obtain ⟨b, off, hA, hb, hc⟩ := (HR.out.below hb1 hB).cell q hql
  subst hA
  have HQ := Lib.hid hq
  have HB1 := Lib.hid hb1
  have hx0 : (0 : Int) ≤ (i : Int) := by omega
  have hx1 : (i : Int) < (L.size : Int) := by omega
  have hx2 : (q : Int) < (l.length : Int) := by omega
  have hx3 : (0 : Int) ≤ (q : Int) := by omega
  have hL8 := (L[i]).toNat_lt
  have hcc : (w.alloc (Obj.cells #[Value.string L, Value.string M, Value.string F, Value.slice (some ⟨b, off, none⟩) l.length c, Value.int IntKind.i64 keep] 92)).cell? ⟨b, off + q, none⟩ = some (.string l[q]) := hc
  clear hc hb1 hq
  by_cases hc45 : (L[i].toNat : Int) = 45
  · go_wp2
    rw [← HQ.out]
    go_quiet (fail)
    go_wp2
    go_ret
    exact ⟨ret_bool (by simp; left; omega), below_drewN HB1.out _⟩
  · rcases Bool.eq_false_or_eq_true (decide ((l[q].size : Int) < keep)) with hk | hk
    · have hk1 := of_decide_eq_true hk
      go_wp2
      rw [← HQ.out]
      go_quiet (fail)
      go_wp2
      go_ret
      exact ⟨ret_bool (by simp [hk1]), below_drewN HB1.out _⟩
    · have hk1 := of_decide_eq_false hk
      go_wp2
      rw [← HQ.out]
      go_quiet (fail)
      go_wp2
      go_ret
      exact ⟨ret_bool (by rw [hk, decide_eq_false (show ¬ L[i].toNat = 45 by omega), Bool.or_self]; exact beq_eq_false_iff_ne.mpr hc45), below_drewN HB1.out _⟩

end Go.Proofs.YtfhpkcamigkmdaaGreatDoor.W

namespace Go.Proofs.YtfhpkcamigkmdaaGreatDoor.W
open Go.RowKit K

/-- memory has grown, and of the rest only the row of v has turned; v' lies in that row or in a new one -/
structure Grew (w w' : World) (v v' : Value) : Prop where
  grown : w.grownBy w' v.ownBlock
  row : ∀ j, v'.ownBlock = some j → w.heap.size ≤ j ∨ v.ownBlock = some j
theorem Grew.refl (w : World) (v : Value) : Grew w w v v := ⟨World.grownBy.refl _ _, fun _ h => .inr h⟩
theorem Grew.trans {a b c : World} {v v' v'' : Value} (h : Grew a b v v') (k : Grew b c v' v'') : Grew a c v v'' :=
  ⟨h.grown.andThen k.grown h.row, fun j hj => by
    rcases k.row j hj with h1 | h1
    · exact .inl (Nat.le_trans h.grown.size h1)
    · exact h.row j h1⟩
theorem Grew.alloc {a b : World} {v v' : Value} (h : Grew a b v v') (o : Obj) : Grew a (b.alloc o) v v' := h.trans ⟨World.grownBy_alloc _ _ _, fun _ h => .inr h⟩
theorem Grew.from {a b : World} {v v' : Value} {o : Obj} (h : Grew (a.alloc o) b v v') : Grew a b v v' :=
  (Grew.alloc (Grew.refl a v) o).trans h
theorem Grew.of_below {w w' : World} (h : Below w.heap.size w w') (v : Value) : Grew w w' v v := ⟨⟨h.os, h.tape, h.output, h.size, fun k hk _ => h.block k hk⟩, fun _ h => .inr h⟩
theorem Grew.below {w w' : World} {v v' : Value} {base : Nat} {l : List ByteArray} (h : Grew w w' v v') (ho : Own w base v l) (hb : base ≤ w.heap.size) : Below base w w' :=
  (Below.refl base w).grown h.grown hb fun k hk => (World.ownsRow.lt ho k hk).1
/-- a block of the call's own stays as it is -/
theorem Grew.block {w w' : World} {v v' : Value} {base : Nat} {l : List ByteArray} {o : Obj} (h : Grew (w.alloc o) w' v v') (ho : Own w base v l) : w'.heap[w.heap.size]? = some o := by
  rw [h.grown.block _ (by simp) (fun e => by have := (World.ownsRow.lt ho _ e.symm).2; omega)]
  exact heap_alloc_new _ _

/-- append of one string, with where the row lies -/
theorem app_str2 {ops : Array Oper} {rest : List Oper} {o : Oper} {a : Act} {Q : Exit → Act → World → Prop} (hgd : o.guard = none) (s x : Operand)
    (ho : o.op = .call { callee := .builtin .append, args := #[s, x], argTypes := #[90, 90] })
    (w : World) (base : Nat) (v : Value) (l : List ByteArray) (hs : a.eval s = v) (hown : Own w base v l) (b cc : Nat) (k : ByteArray)
    (hx : a.eval x = .slice (some ⟨b, 0, none⟩) 1 cc) (hcell : w.cell? ⟨b, 0, none⟩ = some (.string k)) (hl : l.length ≤ 4398046511104) (hbase : base ≤ w.heap.size)
    (h : ∀ g cap w', Own w' base (.slice (some ⟨g, 0, none⟩) (l.length + 1) cap) (l ++ [k]) → Grew w w' v (.slice (some ⟨g, 0, none⟩) (l.length + 1) cap) →
      wpList Tryz.prog ops Q rest (a.put o.dst (.slice (some ⟨g, 0, none⟩) (l.length + 1) cap)) w') : wpList Tryz.prog ops Q (o :: rest) a w := by
  obtain ⟨i0, hi, hz0, hz1, hz2⟩ := info_parts str_info
  refine wpList_append_lies w hgd s x _ ho base _ i0 (.string ⟨#[]⟩) 1 16 Tryz.underlying90 hi hz0 hz1 hz2 rfl (by decide) v l.length (l.map Value.string) hs hown ⟨b, 0, none⟩ 1 cc [.string k] hx rfl ?_ ?_ (by decide) ?_ ?_ hbase _ rfl ?_
  · intro j u hj
    match j, hj with
    | 0, hj => simp at hj; subst hj; simpa [Addr.add] using hcell
  · intro u hu; simp at hu; subst hu; rfl
  · unfold maxLen; omega
  · omega
  · intro g cap w' h2 h3 h4 _
    refine h g cap w' ?_ ⟨h3, fun j hj => ?_⟩
    · unfold Own
      rw [List.length_append, List.map_append]
      exact h2
    · have e : g = j := by simpa [Value.ownBlock] using hj
      subst e
      rcases h4 with h4 | h4
      · exact .inr h4
      · exact .inl (by omega)

/-- a filter in memory, as lists -/
def svOf (L M F : ByteArray) (l : List ByteArray) (keep : Nat) : T.Sv := ⟨L.toList, M.toList, F.toList, l.map (·.toList), keep⟩
/-- a list of letters as a string -/
def ba (s : List UInt8) : ByteArray := ⟨s.toArray⟩
theorem ba_l (s : List UInt8) : (ba s).toList = s := by unfold ba; rw [ByteArray.toList_eq]
theorem ba_of (k : ByteArray) : ba k.toList = k := ba_ext (ba_l _)

/-- what l3Add answers -/
def AddR (w : World) (base : Nat) (v : Value) (l : List ByteArray) (e : Ending) (w' : World) : Prop :=
  ∃ v', e = .returned v' ∧ Own w' base v' l ∧ Grew w w' v v'

/-- at the loop's head -/
def AddP (w : World) (s : T.Sv) (from_ to_ : Nat) (head : ByteArray) (base : Nat) (v : Value) (l : List ByteArray) (o : Obj) (out i : Value) (wr : World) : Prop :=
  ∃ (k : Nat) (acc : List ByteArray), from_ ≤ k ∧ k ≤ max from_ s.letters.length ∧ i = .int .i64 (k : Nat) ∧ Own wr base out acc ∧ Grew (w.alloc o) wr v out ∧ acc.length + s.cnt k to_ ≤ 4000 ∧
    acc ++ (s.add k to_ head.toList).map ba = l ++ (s.add from_ to_ head.toList).map ba

theorem len_L (k : ByteArray) : k.toList.length = k.size := by rw [ByteArray.toList_eq]; rfl

theorem ones_M (M : ByteArray) (k : Nat) : M.data.toList.take k = M.toList.take k := by rw [ByteArray.toList_eq]
theorem oneOr_sel (L M F : ByteArray) (l : List ByteArray) (keep N : Nat) : oneOr F N = ((svOf L M F l keep).sel N : Nat) := by
  unfold oneOr T.Sv.sel svOf
  simp only [ByteArray.toList_eq]
  rfl
theorem kids_sv (L M F : ByteArray) (l : List ByteArray) (keep k : Nat) : oneOr F (cntI M (k + 1)).toNat = (((svOf L M F l keep).kids k).1 : Nat) ∧ oneOr F (cntI M (k + 1) + 1).toNat = (((svOf L M F l keep).kids k).2 : Nat) := by
  have e : cntI M (k + 1) = ((svOf L M F l keep).rank (k + 1) : Nat) := by unfold cntI T.Sv.rank svOf; rw [ones_M]
  rw [e]
  exact ⟨oneOr_sel L M F l keep _, oneOr_sel L M F l keep _⟩
theorem oneIdx_lt : ∀ (l : List UInt8) (n k : Nat), M.oneIdx l n = some k → k < l.length
  | [], n, k, h => by simp [M.oneIdx] at h
  | c :: t, n, k, h => by
    rw [M.oneIdx.eq_def] at h
    simp only at h
    by_cases hc : c = 49
    · rw [if_pos hc] at h
      cases n with
      | zero => simp at h; subst h; simp
      | succ n =>
        obtain ⟨j, h1, h2⟩ := Option.map_eq_some_iff.mp h
        have := oneIdx_lt t n j h1
        simp only [List.length_cons]; omega
    · rw [if_neg hc] at h
      obtain ⟨j, h1, h2⟩ := Option.map_eq_some_iff.mp h
      have := oneIdx_lt t n j h1
      simp only [List.length_cons]; omega
theorem sel_le (s : T.Sv) (n : Nat) : s.sel n ≤ s.first.length := by
  unfold T.Sv.sel
  cases h : M.oneIdx s.first n with
  | none => exact Nat.le_refl _
  | some k => exact Nat.le_of_lt (oneIdx_lt _ _ _ h)
theorem at_L (L : ByteArray) (k : Nat) (h : k < L.size) : L.toList.getD k 0 = L[k] := by
  rw [List.getD_eq_getElem?_getD, ByteArray.toList_eq]
  have := at_k L k h
  rw [this]
  rfl
/-- the loop is done -/
theorem add_done {L M F : ByteArray} {l : List ByteArray} {keep k to_ : Nat} {head : ByteArray} (h : ¬(k < to_ ∧ k < L.size ∧ head.size ≤ 5)) : (svOf L M F l keep).add k to_ head.toList = [] := by
  rw [T.Sv.add, dif_neg]
  intro e
  have e1 : (svOf L M F l keep).letters.length = L.size := len_L L
  rw [e1, len_L] at e
  exact h e

/-- a step of the loop: a branch that goes on, but not ahead -/
theorem add_stop {L M F : ByteArray} {l : List ByteArray} {keep k to_ : Nat} {head : ByteArray} (hm : k < M.size) (h49 : (M[k].toNat : Int) = 49) (ha : ((svOf L M F l keep).kids k).1 ≤ k) : (svOf L M F l keep).add k to_ head.toList = [] := by
  rw [T.Sv.add]
  split
  · have e : (svOf L M F l keep).more.getD k 0 = 49 := by
      show M.toList.getD k 0 = 49
      rw [at_L M k hm]
      exact UInt8.toNat_inj.mp (by show M[k].toNat = 49; omega)
    rw [if_pos e]
  · rfl
/-- a step of the loop: a branch that goes on -/
theorem add_more {L M F : ByteArray} {l : List ByteArray} {keep k to_ : Nat} {head : ByteArray} (h1 : k < to_) (h2 : k < L.size) (h3 : head.size ≤ 5) (hm : k < M.size) (h49 : (M[k].toNat : Int) = 49) (ha : ¬ ((svOf L M F l keep).kids k).1 ≤ k) :
    (svOf L M F l keep).add k to_ head.toList = (svOf L M F l keep).add ((svOf L M F l keep).kids k).1 ((svOf L M F l keep).kids k).2 ((svOf L M F l keep).now head.toList k) ++ (svOf L M F l keep).add (k + 1) to_ head.toList ∧
    (svOf L M F l keep).cnt k to_ = (svOf L M F l keep).cnt ((svOf L M F l keep).kids k).1 ((svOf L M F l keep).kids k).2 + 1 + (svOf L M F l keep).cnt (k + 1) to_ := by
  have e1 : (svOf L M F l keep).letters.length = L.size := len_L L
  have e : (svOf L M F l keep).more.getD k 0 = 49 := by
    show M.toList.getD k 0 = 49
    rw [at_L M k hm]
    exact UInt8.toNat_inj.mp (by show M[k].toNat = 49; omega)
  constructor
  · rw [T.Sv.add, dif_pos ⟨h1, by rw [e1]; exact h2, by rw [len_L]; exact h3⟩, if_pos e, dif_neg ha]
  · rw [T.Sv.cnt, dif_pos ⟨h1, by rw [e1]; exact h2⟩, dif_pos ⟨e, by omega⟩]
/-- a step of the loop: a branch that does not go on -/
theorem add_leaf {L M F : ByteArray} {l : List ByteArray} {keep k to_ q : Nat} {head : ByteArray} (h1 : k < to_) (h2 : k < L.size) (h3 : head.size ≤ 5) (hm : k < M.size) (h49 : ¬ (M[k].toNat : Int) = 49) (hq : (q : Int) = k - cntI M k) :
    (svOf L M F l keep).add k to_ head.toList = (if h : q < l.length then [(svOf L M F l keep).now head.toList k ++ l[q].toList] else []) ++ (svOf L M F l keep).add (k + 1) to_ head.toList ∧
    (svOf L M F l keep).cnt k to_ = 1 + (svOf L M F l keep).cnt (k + 1) to_ := by
  have e1 : (svOf L M F l keep).letters.length = L.size := len_L L
  have e : ¬ (svOf L M F l keep).more.getD k 0 = 49 := by
    show ¬ M.toList.getD k 0 = 49
    rw [at_L M k hm]
    intro e
    rw [e] at h49
    exact h49 rfl
  have hrank : k - (svOf L M F l keep).rank k = q := by
    have : cntI M k = ((svOf L M F l keep).rank k : Nat) := by unfold cntI T.Sv.rank svOf; rw [ones_M]
    rw [this] at hq
    omega
  constructor
  · rw [T.Sv.add, dif_pos ⟨h1, by rw [e1]; exact h2, by rw [len_L]; exact h3⟩, if_neg e, hrank]
    congr 1
    show (if q < (l.map (·.toList)).length then [(svOf L M F l keep).now head.toList k ++ (l.map (·.toList)).getD q []] else []) = _
    rw [List.length_map]
    by_cases hql : q < l.length
    · rw [if_pos hql, dif_pos hql, List.getD_eq_getElem?_getD, List.getElem?_map, List.getElem?_eq_getElem hql]; rfl
    · rw [if_neg hql, dif_neg hql]
  · rw [T.Sv.cnt, dif_pos ⟨h1, by rw [e1]; exact h2⟩, dif_neg (fun e' => e e'.1)]
theorem now_45 {L M F : ByteArray} {l : List ByteArray} {keep k : Nat} {head : ByteArray} (h2 : k < L.size) (h45 : (L[k].toNat : Int) = 45) : head.toList = (svOf L M F l keep).now head.toList k := by
  unfold T.Sv.now
  have e : (svOf L M F l keep).letters.getD k 0 = 45 := by
    show L.toList.getD k 0 = 45
    rw [at_L L k h2]
    exact UInt8.toNat_inj.mp (by show L[k].toNat = 45; omega)
  rw [if_pos e]
theorem now_let {L M F : ByteArray} {l : List ByteArray} {keep k : Nat} {head : ByteArray} (h2 : k < L.size) (h45 : ¬ (L[k].toNat : Int) = 45) : (head ++ L.extract k (k + 1)).toList = (svOf L M F l keep).now head.toList k := by
  unfold T.Sv.now
  have e : ¬ (svOf L M F l keep).letters.getD k 0 = 45 := by
    show ¬ L.toList.getD k 0 = 45
    rw [at_L L k h2]
    intro e
    rw [e] at h45
    exact h45 rfl
  rw [if_neg e]
  show (head ++ L.extract k (k + 1)).toList = head.toList ++ [L.toList.getD k 0]
  have ea : (head ++ L.extract k (k + 1)).toList = head.toList ++ (L.extract k (k + 1)).toList := by
    simp only [ByteArray.toList_eq, ByteArray.data_append, Array.toList_append]
  have hl : k < L.toList.length := by rw [len_L]; exact h2
  rw [ea, ext_l, Nat.add_sub_cancel_left, List.take_one, List.head?_drop, List.getD_eq_getElem?_getD, List.getElem?_eq_getElem hl]
  rfl

set_option maxRecDepth 8000 in
set_option maxHeartbeats 4000000 in
theorem addS (L M F : ByteArray) (A : Option Addr) (n c : Nat) (l : List ByteArray) (keep : Nat) (B : Nat) (hLM : M.size = L.size) (hF : F.size = L.size) (hL : L.size ≤ 400) (hn : n ≤ 1000) (hfit : ∀ i (h : i < l.length), l[i].size ≤ 1000000000000) :
    ∀ (m from_ to_ : Nat) (head : ByteArray) (w : World) (base : Nat) (v : Value) (acc : List ByteArray), L.size - from_ ≤ m → from_ ≤ 1000 → to_ ≤ 1000 → Strs w B A n l → B ≤ base → base ≤ w.heap.size → Own w base v acc →
      acc.length + (svOf L M F l keep).cnt from_ to_ ≤ 4000 →
      Calls Tryz.prog 161 #[.agg #[.string L, .string M, .string F, .slice A n c, .int .i64 keep], .int .i64 from_, .int .i64 to_, .string head, v] w
        (AddR w base v (acc ++ ((svOf L M F l keep).add from_ to_ head.toList).map ba)) := by
  intro m
  induction m using Nat.strongRecOn with
  | _ m ih =>
    intro from_ to_ head w base v acc hm hfrom hto hr hB hbase hown hcap
    have hlen := hr.len
    subst hlen
    have IH := Lib.hid ih
    have HFIT := Lib.hid hfit
    clear hfit
    have HR := Lib.hid hr
    have HO0 := Lib.hid hown
    clear ih hr hown
    have hsz : (svOf L M F l keep).letters.length = L.size := len_L L
    go_enter Tryz.func161, Tryz.ntmps161
    go_wp2
    go_loopw [4, 11] (fun out i wr => AddP w (svOf L M F l keep) from_ to_ head base v acc (Obj.cells #[.string L, .string M, .string F, .slice A l.length c, .int .i64 keep] 92) out i wr) (fun _ i _ => 2000 - (intOf i).toNat)
    case atStart => exact ⟨from_, acc, Nat.le_refl _, by omega, rfl, HO0.out.alloc _, Grew.refl _ _, hcap, rfl⟩
    case round =>
      obtain ⟨k, acc2, hk0, hk, rfl, ho, hg, hcap2, heq⟩ := hrel
      rw [hsz] at hk
      have hkk : k ≤ 1000 := by omega
      clear hk
      have HO := Lib.hid ho
      have HG := Lib.hid hg
      have HE := Lib.hid heq
      have hblk := hg.block HO0.out
      have hb0 : wr.cell? ⟨w.heap.size, 0, none⟩ = some (.string L) := by rw [cell_of_row _ _ _ _ _ _ hblk]; rfl
      have hb1 : wr.cell? ⟨w.heap.size, 1, none⟩ = some (.string M) := by rw [cell_of_row _ _ _ _ _ _ hblk]; rfl
      have hb2 : wr.cell? ⟨w.heap.size, 2, none⟩ = some (.string F) := by rw [cell_of_row _ _ _ _ _ _ hblk]; rfl
      have hb3 : wr.cell? ⟨w.heap.size, 3, none⟩ = some (.slice A l.length c) := by rw [cell_of_row _ _ _ _ _ _ hblk]; rfl
      have hb4 : wr.cell? ⟨w.heap.size, 4, none⟩ = some (.int .i64 keep) := by rw [cell_of_row _ _ _ _ _ _ hblk]; rfl
      clear ho hg heq hblk
      by_cases hin : k < to_ ∧ k < L.size ∧ head.size ≤ 5
      · obtain ⟨hin1, hin2, hin3⟩ := hin
        have h1' : (k : Int) < (to_ : Int) := by omega
        have h2' : (k : Int) < (L.size : Int) := by omega
        have h3' : (head.size : Int) ≤ 5 := by omega
        have h4' : (k : Int) < (M.size : Int) := by omega
        have hL8 := (L[k]).toNat_lt
        have hM8 := (M[k]).toNat_lt
        by_cases h45 : (L[k].toNat : Int) = 45
        · have h45n : ((L[k].toNat : Int) != 45) = false := by simp [h45]
          have HN := Lib.hid (now_45 (M := M) (F := F) (l := l) (keep := keep) (head := head) hin2 h45)
          by_cases h49 : (M[k].toNat : Int) = 49
          · have H49 := Lib.hid h49
            have h49n : ((M[k].toNat : Int) == 49) = true := by simp [h49]
            go_wp2_with fail
            go_at_call 162
            refine (kidsS L M F A l.length c keep k wr (by omega) (by omega) (by omega)).mono ?_
            rintro e w2 ⟨rfl, hbel⟩
            obtain ⟨a, ha⟩ : ∃ a : Nat, a = ((svOf L M F l keep).kids k).1 := ⟨_, rfl⟩
            obtain ⟨b, hb⟩ : ∃ b : Nat, b = ((svOf L M F l keep).kids k).2 := ⟨_, rfl⟩
            rw [(kids_sv L M F l keep k).1, (kids_sv L M F l keep k).2, ← ha, ← hb]
            have hbL : b ≤ L.size := by rw [hb, ← hF, ← len_L F]; exact sel_le (svOf L M F l keep) _
            have haL : a ≤ L.size := by rw [ha, ← hF, ← len_L F]; exact sel_le (svOf L M F l keep) _
            have HG2 := Lib.hid (HG.out.trans (Grew.of_below hbel u4))
            have HO2 := Lib.hid (HO.out.below hbel)
            have HA := Lib.hid ha
            have HB := Lib.hid hb
            have hblk2 := HG2.out.block HO0.out
            clear hb0 hb1 hb2 hb3 hb4
            have hb0 : w2.cell? ⟨w.heap.size, 0, none⟩ = some (.string L) := by rw [cell_of_row _ _ _ _ _ _ hblk2]; rfl
            have hb1 : w2.cell? ⟨w.heap.size, 1, none⟩ = some (.string M) := by rw [cell_of_row _ _ _ _ _ _ hblk2]; rfl
            have hb2 : w2.cell? ⟨w.heap.size, 2, none⟩ = some (.string F) := by rw [cell_of_row _ _ _ _ _ _ hblk2]; rfl
            have hb3 : w2.cell? ⟨w.heap.size, 3, none⟩ = some (.slice A l.length c) := by rw [cell_of_row _ _ _ _ _ _ hblk2]; rfl
            have hb4 : w2.cell? ⟨w.heap.size, 4, none⟩ = some (.int .i64 keep) := by rw [cell_of_row _ _ _ _ _ _ hblk2]; rfl
            have hbw := HG2.out.from.below HO0.out hbase
            have hsz2 : base ≤ w2.heap.size := Nat.le_trans hbase hbw.size
            have HS2 := Lib.hid (HR.out.below hbw hB)
            clear hblk2 hbel ha hb hbw
            by_cases hak : a ≤ k
            · have hak' : (a : Int) ≤ (k : Int) := by omega
              go_wp2
              go_ret
              exact ⟨_, rfl, by have e := HE.out; rw [add_stop (by omega) H49.out (by rw [← HA.out]; exact hak), List.map_nil, List.append_nil] at e; rw [← e]; exact HO2.out, HG2.out.from⟩
            · have hak' : ¬ (a : Int) ≤ (k : Int) := by omega
              obtain ⟨hst1, hst2⟩ := add_more (l := l) (keep := keep) (F := F) hin1 hin2 hin3 (show k < M.size by omega) H49.out (by rw [← HA.out]; exact hak)
              rw [← HA.out, ← HB.out] at hst1 hst2
              have hal := T.add_le (svOf L M F l keep) L.size a b ((svOf L M F l keep).now head.toList k) (by rw [hsz]; omega)
              have HST := Lib.hid hst1
              have HST2 := Lib.hid hst2
              have HAL := Lib.hid hal
              have hcap3 : acc2.length + (svOf L M F l keep).cnt a b ≤ 4000 := by omega
              have HC3 := Lib.hid hcap3
              clear hst1 hst2 hal hcap3
              go_wp2_with fail
              go_at_call 161
              refine (IH.out (L.size - a) (by omega) a b _ w2 base u4 acc2 (Nat.le_refl _) (by omega) (by omega) HS2.out hB hsz2 HO2.out HC3.out).mono ?_
              rintro e w3 ⟨v3, rfl, ho3, hg3⟩
              rw [HN.out] at ho3
              have HO3 := Lib.hid ho3
              have HG3 := Lib.hid hg3
              clear ho3 hg3
              go_wp2
              go_roundw
              case rel => exact ⟨k + 1, _, by omega, by rw [hsz]; omega, by go_num, HO3.out, HG2.out.trans HG3.out, by rw [List.length_append, List.length_map]; have := HAL.out; have := HST2.out; omega, by have e := HE.out; rw [HST.out, List.map_append, ← List.append_assoc] at e; exact e⟩
              case measure => simp [intOf]; omega
          · have H49 := Lib.hid h49
            have h49n : ((M[k].toNat : Int) == 49) = false := by simp [h49]
            obtain ⟨r, hr⟩ : ∃ r : Int, r = cntI M k := ⟨_, rfl⟩
            have hbd := cntI_bd M k
            rw [← hr] at hbd
            obtain ⟨q, hq⟩ : ∃ q : Nat, (q : Int) = k - r := ⟨(k - r).toNat, by omega⟩
            have hst := add_leaf (l := l) (keep := keep) (F := F) (q := q) hin1 hin2 hin3 (show k < M.size by omega) H49.out (by rw [← hr]; exact hq)
            have HST := Lib.hid hst.1
            have HST2 := Lib.hid hst.2
            have hsub : (k : Int) - r = q := hq.symm
            have HRR := Lib.hid hr
            have hbw := HG.out.from.below HO0.out hbase
            have hsz2 : base ≤ wr.heap.size := Nat.le_trans hbase hbw.size
            have HS2 := Lib.hid (HR.out.below hbw hB)
            clear hst hr hq hbw
            go_wp2_with fail
            go_at_call 129
            refine (onesS M _ _ (by unfold maxLen; omega) (by omega) (by omega)).mono ?_
            rintro e w2 ⟨rfl, rfl⟩
            rw [show cntI M ((k : Int)).toNat = r by rw [Int.toNat_natCast]; exact HRR.out.symm]
            by_cases hql : q < l.length
            · have hql' : (q : Int) < (l.length : Int) := by omega
              have hq0 : (0 : Int) ≤ (q : Int) := by omega
              have hls := HFIT.out q hql
              obtain ⟨b, off, hA, hbB, hc⟩ := HS2.out.cell q hql
              subst hA
              go_wp2_with (at_builtin; refine app_str2 rfl (.tmp 80) (.tmp 88) rfl _ base _ acc2 rfl (HO.out.alloc _) wr.heap.size 1 _ rfl (cell_new _ _ _) (by have := HST2.out; omega) (le_alloc hsz2 _) ?_; intro g cap w3 ho3 hg3; have HO3 := Lib.hid ho3; have HG3 := Lib.hid hg3; clear ho3 hg3)
              go_roundw
              case rel => exact ⟨k + 1, _, by omega, by rw [hsz]; omega, by go_num, HO3.out, (HG.out.alloc _).trans HG3.out, by rw [List.length_append, List.length_singleton]; have := HST2.out; omega, by
                have e := HE.out
                rw [HST.out, dif_pos hql, List.map_append, ← List.append_assoc, ← HN.out] at e
                rw [← e]
                congr 2
                simp only [List.map_cons, List.map_nil]
                congr 1
                exact ba_ext (by rw [ba_l]; simp only [ByteArray.toList_eq, ByteArray.data_append, Array.toList_append])⟩
              case measure => simp [intOf]; omega
            · have hql' : ¬ (q : Int) < (l.length : Int) := by omega
              go_wp2
              go_roundw
              case rel => exact ⟨k + 1, _, by omega, by rw [hsz]; omega, by go_num, HO.out, HG.out, by have := HST2.out; omega, by
                have e := HE.out
                rw [HST.out, dif_neg hql, List.nil_append] at e
                exact e⟩
              case measure => simp [intOf]; omega
        · have h45n : ((L[k].toNat : Int) != 45) = true := by simp [h45]
          have HN := Lib.hid (now_let (M := M) (F := F) (l := l) (keep := keep) (head := head) hin2 h45)
          by_cases h49 : (M[k].toNat : Int) = 49
          · have H49 := Lib.hid h49
            have h49n : ((M[k].toNat : Int) == 49) = true := by simp [h49]
            go_wp2_with fail
            go_at_call 162
            refine (kidsS L M F A l.length c keep k wr (by omega) (by omega) (by omega)).mono ?_
            rintro e w2 ⟨rfl, hbel⟩
            obtain ⟨a, ha⟩ : ∃ a : Nat, a = ((svOf L M F l keep).kids k).1 := ⟨_, rfl⟩
            obtain ⟨b, hb⟩ : ∃ b : Nat, b = ((svOf L M F l keep).kids k).2 := ⟨_, rfl⟩
            rw [(kids_sv L M F l keep k).1, (kids_sv L M F l keep k).2, ← ha, ← hb]
            have hbL : b ≤ L.size := by rw [hb, ← hF, ← len_L F]; exact sel_le (svOf L M F l keep) _
            have haL : a ≤ L.size := by rw [ha, ← hF, ← len_L F]; exact sel_le (svOf L M F l keep) _
            have HG2 := Lib.hid (HG.out.trans (Grew.of_below hbel u4))
            have HO2 := Lib.hid (HO.out.below hbel)
            have HA := Lib.hid ha
            have HB := Lib.hid hb
            have hblk2 := HG2.out.block HO0.out
            clear hb0 hb1 hb2 hb3 hb4
            have hb0 : w2.cell? ⟨w.heap.size, 0, none⟩ = some (.string L) := by rw [cell_of_row _ _ _ _ _ _ hblk2]; rfl
            have hb1 : w2.cell? ⟨w.heap.size, 1, none⟩ = some (.string M) := by rw [cell_of_row _ _ _ _ _ _ hblk2]; rfl
            have hb2 : w2.cell? ⟨w.heap.size, 2, none⟩ = some (.string F) := by rw [cell_of_row _ _ _ _ _ _ hblk2]; rfl
            have hb3 : w2.cell? ⟨w.heap.size, 3, none⟩ = some (.slice A l.length c) := by rw [cell_of_row _ _ _ _ _ _ hblk2]; rfl
            have hb4 : w2.cell? ⟨w.heap.size, 4, none⟩ = some (.int .i64 keep) := by rw [cell_of_row _ _ _ _ _ _ hblk2]; rfl
            have hbw := HG2.out.from.below HO0.out hbase
            have hsz2 : base ≤ w2.heap.size := Nat.le_trans hbase hbw.size
            have HS2 := Lib.hid (HR.out.below hbw hB)
            clear hblk2 hbel ha hb hbw
            by_cases hak : a ≤ k
            · have hak' : (a : Int) ≤ (k : Int) := by omega
              go_wp2
              go_ret
              exact ⟨_, rfl, by have e := HE.out; rw [add_stop (by omega) H49.out (by rw [← HA.out]; exact hak), List.map_nil, List.append_nil] at e; rw [← e]; exact HO2.out, HG2.out.from⟩
            · have hak' : ¬ (a : Int) ≤ (k : Int) := by omega
              obtain ⟨hst1, hst2⟩ := add_more (l := l) (keep := keep) (F := F) hin1 hin2 hin3 (show k < M.size by omega) H49.out (by rw [← HA.out]; exact hak)
              rw [← HA.out, ← HB.out] at hst1 hst2
              have hal := T.add_le (svOf L M F l keep) L.size a b ((svOf L M F l keep).now head.toList k) (by rw [hsz]; omega)
              have HST := Lib.hid hst1
              have HST2 := Lib.hid hst2
              have HAL := Lib.hid hal
              have hcap3 : acc2.length + (svOf L M F l keep).cnt a b ≤ 4000 := by omega
              have HC3 := Lib.hid hcap3
              clear hst1 hst2 hal hcap3
              go_wp2_with fail
              go_at_call 161
              refine (IH.out (L.size - a) (by omega) a b _ w2 base u4 acc2 (Nat.le_refl _) (by omega) (by omega) HS2.out hB hsz2 HO2.out HC3.out).mono ?_
              rintro e w3 ⟨v3, rfl, ho3, hg3⟩
              rw [HN.out] at ho3
              have HO3 := Lib.hid ho3
              have HG3 := Lib.hid hg3
              clear ho3 hg3
              go_wp2
              go_roundw
              case rel => exact ⟨k + 1, _, by omega, by rw [hsz]; omega, by go_num, HO3.out, HG2.out.trans HG3.out, by rw [List.length_append, List.length_map]; have := HAL.out; have := HST2.out; omega, by have e := HE.out; rw [HST.out, List.map_append, ← List.append_assoc] at e; exact e⟩
              case measure => simp [intOf]; omega
          · have H49 := Lib.hid h49
            have h49n : ((M[k].toNat : Int) == 49) = false := by simp [h49]
            obtain ⟨r, hr⟩ : ∃ r : Int, r = cntI M k := ⟨_, rfl⟩
            have hbd := cntI_bd M k
            rw [← hr] at hbd
            obtain ⟨q, hq⟩ : ∃ q : Nat, (q : Int) = k - r := ⟨(k - r).toNat, by omega⟩
            have hst := add_leaf (l := l) (keep := keep) (F := F) (q := q) hin1 hin2 hin3 (show k < M.size by omega) H49.out (by rw [← hr]; exact hq)
            have HST := Lib.hid hst.1
            have HST2 := Lib.hid hst.2
            have hsub : (k : Int) - r = q := hq.symm
            have HRR := Lib.hid hr
            have hbw := HG.out.from.below HO0.out hbase
            have hsz2 : base ≤ wr.heap.size := Nat.le_trans hbase hbw.size
            have HS2 := Lib.hid (HR.out.below hbw hB)
            clear hst hr hq hbw
            go_wp2_with fail
            go_at_call 129
            refine (onesS M _ _ (by unfold maxLen; omega) (by omega) (by omega)).mono ?_
            rintro e w2 ⟨rfl, rfl⟩
            rw [show cntI M ((k : Int)).toNat = r by rw [Int.toNat_natCast]; exact HRR.out.symm]
            by_cases hql : q < l.length
            · have hql' : (q : Int) < (l.length : Int) := by omega
              have hq0 : (0 : Int) ≤ (q : Int) := by omega
              have hls := HFIT.out q hql
              obtain ⟨b, off, hA, hbB, hc⟩ := HS2.out.cell q hql
              subst hA
              go_wp2_with (at_builtin; refine app_str2 rfl (.tmp 80) (.tmp 88) rfl _ base _ acc2 rfl (HO.out.alloc _) wr.heap.size 1 _ rfl (cell_new _ _ _) (by have := HST2.out; omega) (le_alloc hsz2 _) ?_; intro g cap w3 ho3 hg3; have HO3 := Lib.hid ho3; have HG3 := Lib.hid hg3; clear ho3 hg3)
              go_roundw
              case rel => exact ⟨k + 1, _, by omega, by rw [hsz]; omega, by go_num, HO3.out, (HG.out.alloc _).trans HG3.out, by rw [List.length_append, List.length_singleton]; have := HST2.out; omega, by
                have e := HE.out
                rw [HST.out, dif_pos hql, List.map_append, ← List.append_assoc, ← HN.out] at e
                rw [← e]
                congr 2
                simp only [List.map_cons, List.map_nil]
                congr 1
                exact ba_ext (by rw [ba_l]; simp only [ByteArray.toList_eq, ByteArray.data_append, Array.toList_append])⟩
              case measure => simp [intOf]; omega
            · have hql' : ¬ (q : Int) < (l.length : Int) := by omega
              go_wp2
              go_roundw
              case rel => exact ⟨k + 1, _, by omega, by rw [hsz]; omega, by go_num, HO.out, HG.out, by have := HST2.out; omega, by
                have e := HE.out
                rw [HST.out, dif_neg hql, List.nil_append] at e
                exact e⟩
              case measure => simp [intOf]; omega
      · by_cases h1 : k < to_
        · have h1' : (k : Int) < (to_ : Int) := by omega
          by_cases h2 : k < L.size
          · have h2' : (k : Int) < (L.size : Int) := by omega
            have h3' : ¬ (head.size : Int) ≤ 5 := by omega
            go_wp2
            go_ret
            exact ⟨_, rfl, by have e := HE.out; rw [add_done hin, List.map_nil, List.append_nil] at e; rw [← e]; exact HO.out, HG.out.from⟩
          · have h2' : ¬ (k : Int) < (L.size : Int) := by omega
            go_wp2
            go_ret
            exact ⟨_, rfl, by have e := HE.out; rw [add_done hin, List.map_nil, List.append_nil] at e; rw [← e]; exact HO.out, HG.out.from⟩
        · have h1' : ¬ (k : Int) < (to_ : Int) := by omega
          go_wp2
          go_ret
          exact ⟨_, rfl, by have e := HE.out; rw [add_done hin, List.map_nil, List.append_nil] at e; rw [← e]; exact HO.out, HG.out.from⟩

end Go.Proofs.YtfhpkcamigkmdaaGreatDoor.W

namespace Go.Proofs.YtfhpkcamigkmdaaGreatDoor.W
open Go.RowKit K

/-- a filter's parts are as long as they must be -/
def formB (L M_ F : ByteArray) (n : Nat) (keep : Int) : Bool :=
  M.okB M_.data.toList && (M.okB F.data.toList && (decide ((M_.size : Int) = L.size) && (decide ((F.size : Int) = L.size) && (decide ((n : Int) = L.size - cntI M_ L.size) && inB keep 0 5))))

set_option maxRecDepth 8000 in
set_option maxHeartbeats 4000000 in
theorem formS (L M_ F : ByteArray) (A : Option Addr) (n c : Nat) (keep : Int) (w : World) (hL : L.size ≤ maxLen) (hM : M_.size ≤ maxLen) (hF : F.size ≤ maxLen) :
    Calls Tryz.prog 160 #[.agg #[.string L, .string M_, .string F, .slice A n c, .int .i64 keep]] w fun e w' => e = .returned (.bool (formB L M_ F n keep)) ∧ Below w.heap.size w w' := by
  unfold maxLen at hL hM hF
  have HB1 := Lib.hid (show Below w.heap.size w (w.alloc (Obj.cells #[Value.string L, Value.string M_, Value.string F, Value.slice A n c, Value.int IntKind.i64 keep] 92)) from (Below.refl _ _).alloc (Nat.le_refl _) _)
  rcases Bool.eq_false_or_eq_true (M.okB M_.data.toList) with h1 | h1
  · have HM := Lib.hid (show ∀ W : World, Calls Tryz.prog 189 #[.string M_] W fun e w' => e = .returned (.bool true) ∧ W = w' from fun W => by have hh := okS M_ W (by unfold maxLen; omega); rw [h1] at hh; exact hh)
    have K1 := Lib.hid h1
    clear h1
    rcases Bool.eq_false_or_eq_true (M.okB F.data.toList) with h2 | h2
    · have HF := Lib.hid (show ∀ W : World, Calls Tryz.prog 189 #[.string F] W fun e w' => e = .returned (.bool true) ∧ W = w' from fun W => by have hh := okS F W (by unfold maxLen; omega); rw [h2] at hh; exact hh)
      have K2 := Lib.hid h2
      clear h2
      by_cases h3 : (M_.size : Int) = (L.size : Int)
      · have h3b : ((M_.size : Int) == (L.size : Int)) = true := by simp [h3]
        have K3 := Lib.hid h3
        have hml : M_.size = L.size := by omega
        have KML := Lib.hid hml
        clear h3 hml
        by_cases h4 : (F.size : Int) = (L.size : Int)
        · have h4b : ((F.size : Int) == (L.size : Int)) = true := by simp [h4]
          have K4 := Lib.hid h4
          clear h4
          obtain ⟨r, hr⟩ : ∃ r : Int, r = cntI M_ L.size := ⟨_, rfl⟩
          have hbd := cntI_bd M_ L.size
          rw [← hr] at hbd
          have HON := Lib.hid (show ∀ W : World, Calls Tryz.prog 129 #[.string M_, .int .i64 (L.size : Nat)] W fun e w' => e = .returned (.int .i64 r) ∧ W = w' from fun W => by have hh := onesS M_ (L.size : Nat) W (by unfold maxLen; omega) (by omega) (by have := KML.out; omega); rw [Int.toNat_natCast, ← hr] at hh; exact hh)
          have KR := Lib.hid hr
          clear hr
          obtain ⟨d, hd⟩ : ∃ d : Nat, (d : Int) = L.size - r := ⟨(L.size - r).toNat, by omega⟩
          have hsub : (L.size : Int) - r = d := hd.symm
          have KD := Lib.hid hd
          clear hd
          by_cases h5 : (n : Int) = (d : Int)
          · have h5b : ((n : Int) == (d : Int)) = true := by simp [h5]
            have K5 := Lib.hid h5
            clear h5
            obtain ⟨x, hx⟩ : ∃ x : Bool, x = inB keep 0 5 := ⟨_, rfl⟩
            have HIN := Lib.hid (show ∀ W : World, Calls Tryz.prog 61 #[.int .i64 keep, .int .i64 0, .int .i64 5] W fun e w' => e = .returned (.bool x) ∧ W = w' from fun W => by have hh := inS keep 0 5 W; rw [← hx] at hh; exact hh)
            have KX := Lib.hid hx
            clear hx
            go_enter Tryz.func160, Tryz.ntmps160
            go_wp2
            go_quiet ((first | (go_at_call 189; first | with_reducible exact quiet_mine (HM.out _) | exact quiet_mine (HF.out _)) | (go_at_call 129; exact quiet_mine (HON.out _)) | (go_at_call 61; exact quiet_mine (HIN.out _))))
            go_wp2
            go_ret
            exact ⟨ret_bool (by unfold formB; rw [K1.out, K2.out, decide_eq_true K3.out, decide_eq_true K4.out, decide_eq_true (show (n : Int) = L.size - cntI M_ L.size by rw [← KR.out, ← KD.out]; exact K5.out), ← KX.out]; simp), below_drewN HB1.out _⟩
          · have h5b : ((n : Int) == (d : Int)) = false := by simp [h5]
            have K5 := Lib.hid h5
            clear h5
            go_enter Tryz.func160, Tryz.ntmps160
            go_wp2
            go_quiet ((first | (go_at_call 189; first | with_reducible exact quiet_mine (HM.out _) | exact quiet_mine (HF.out _)) | (go_at_call 129; exact quiet_mine (HON.out _))))
            go_wp2
            go_ret
            exact ⟨ret_bool (by unfold formB; rw [K1.out, K2.out, decide_eq_true K3.out, decide_eq_true K4.out, decide_eq_false (show ¬ (n : Int) = L.size - cntI M_ L.size by rw [← KR.out, ← KD.out]; exact K5.out)]; rfl), below_drewN HB1.out _⟩
        · have h4b : ((F.size : Int) == (L.size : Int)) = false := by simp [h4]
          have K4 := Lib.hid h4
          clear h4
          go_enter Tryz.func160, Tryz.ntmps160
          go_wp2
          go_quiet ((first | (go_at_call 189; first | with_reducible exact quiet_mine (HM.out _) | exact quiet_mine (HF.out _))))
          go_wp2
          go_ret
          exact ⟨ret_bool (by unfold formB; rw [K1.out, K2.out, decide_eq_true K3.out, decide_eq_false K4.out]; rfl), below_drewN HB1.out _⟩
      · have h3b : ((M_.size : Int) == (L.size : Int)) = false := by simp [h3]
        have K3 := Lib.hid h3
        clear h3
        go_enter Tryz.func160, Tryz.ntmps160
        go_wp2
        go_quiet ((first | (go_at_call 189; first | with_reducible exact quiet_mine (HM.out _) | exact quiet_mine (HF.out _))))
        go_wp2
        go_ret
        exact ⟨ret_bool (by unfold formB; rw [K1.out, K2.out, decide_eq_false K3.out]; rfl), below_drewN HB1.out _⟩
    · have HF := Lib.hid (show ∀ W : World, Calls Tryz.prog 189 #[.string F] W fun e w' => e = .returned (.bool false) ∧ W = w' from fun W => by have hh := okS F W (by unfold maxLen; omega); rw [h2] at hh; exact hh)
      have K2 := Lib.hid h2
      clear h2
      go_enter Tryz.func160, Tryz.ntmps160
      go_wp2
      go_quiet ((first | (go_at_call 189; first | with_reducible exact quiet_mine (HM.out _) | exact quiet_mine (HF.out _))))
      go_wp2
      go_ret
      exact ⟨ret_bool (by unfold formB; rw [K1.out, K2.out]; rfl), below_drewN HB1.out _⟩
  · have HM := Lib.hid (show ∀ W : World, Calls Tryz.prog 189 #[.string M_] W fun e w' => e = .returned (.bool false) ∧ W = w' from fun W => by have hh := okS M_ W (by unfold maxLen; omega); rw [h1] at hh; exact hh)
    have K1 := Lib.hid h1
    clear h1
    go_enter Tryz.func160, Tryz.ntmps160
    go_wp2
    go_quiet ((first | (go_at_call 189; exact quiet_mine (HM.out _))))
    go_wp2
    go_ret
    exact ⟨ret_bool (by unfold formB; rw [K1.out]; rfl), below_drewN HB1.out _⟩

theorem form_parts {L M_ F : ByteArray} {n : Nat} {keep : Int} (h : formB L M_ F n keep = true) : M_.size = L.size ∧ F.size = L.size ∧ L.size ≤ 400 ∧ n ≤ 400 ∧ 0 ≤ keep ∧ keep ≤ 5 := by
  unfold formB at h
  simp only [Bool.and_eq_true, decide_eq_true_eq] at h
  obtain ⟨h1, h2, h3, h4, h5, h6⟩ := h
  unfold M.okB at h1
  simp only [Bool.and_eq_true, decide_eq_true_eq, len_l] at h1
  have hb := cntI_bd M_ L.size
  have h7 : 0 ≤ keep ∧ keep ≤ 5 := by unfold inB at h6; exact of_decide_eq_true h6
  omega

end Go.Proofs.YtfhpkcamigkmdaaGreatDoor.W
