/-
  Contracts of the model's BitsOnes, BitsOne and BitsNext, at every string that Go can hold and every int.
-/
import Derived.Test.YtjankanjaljehaaW1
namespace Go.Proofs.Ytjankanjaljehaa.W
open Go.RowKit M

/-- what BitsOnes answers -/
def onesR (s : ByteArray) (p : Int) : Int := if okB s.data.toList = true ∧ 0 ≤ p ∧ p ≤ s.size then cntI s p.toNat else -1
/-- where BitsOne finds the one, if it does -/
def oneO (s : ByteArray) (n : Int) : Option Nat := if okB s.data.toList = true ∧ 0 ≤ n then oneIdx s.data.toList n.toNat else none
/-- where BitsNext finds the one, if it does -/
def nextO (s : ByteArray) (p : Int) : Option Nat := if okB s.data.toList = true ∧ 0 ≤ p ∧ p ≤ s.size then (oneIdx (s.data.toList.drop p.toNat) 0).map (p.toNat + ·) else none
/-- a place or none, as Go hands it back -/
def posV (o : Option Nat) : Value := .tuple #[.int .i64 ((o.getD 0 : Nat) : Int), .bool o.isSome]
def posN (o : Option Nat) : Int := ((o.getD 0 : Nat) : Int)
def posB (o : Option Nat) : Bool := o.isSome
theorem posV_two (o : Option Nat) : posV o = .tuple #[.int .i64 (posN o), .bool (posB o)] := rfl

theorem posV_none : posV none = .tuple #[.int .i64 0, .bool false] := rfl
theorem posV_some (k : Nat) : posV (some k) = .tuple #[.int .i64 k, .bool true] := rfl

theorem all_l (s : ByteArray) : s.data.toList.take s.size = s.data.toList := List.take_of_length_le (by rw [len_l]; exact Nat.le_refl _)

set_option maxHeartbeats 400000 in
theorem bitsOnesS (s : ByteArray) (p : Int) (w : World) (hs : s.size ≤ maxLen) :
    Calls Try.prog 13 #[.string s, .int .i64 p] w fun e w' => e = .returned (.int .i64 (onesR s p)) ∧ w = w' := by
  by_cases hok : okB s.data.toList = true
  · by_cases hp : 0 ≤ p ∧ p ≤ s.size
    · have hin : inB p 0 s.size = true := by simp [inB]; omega
      have hr : onesR s p = cntI s p.toNat := by unfold onesR; rw [if_pos ⟨hok, hp⟩]
      rw [hr]
      obtain ⟨h0, h1⟩ := hp
      clear hr
      go_enter Try.func13, Try.ntmps13
      go_wp2_with (first | (go_at_call 20; refine (okS _ _ hs).mono ?_; rintro e w' ⟨rfl, rfl⟩) | (go_at_call 27; refine (inS _ _ _ _).mono ?_; rintro e w' ⟨rfl, rfl⟩) | (go_at_call 28; refine (onesS _ _ _ hs h0 h1).mono ?_; rintro e w' ⟨rfl, rfl⟩))
      go_ret
      exact ⟨rfl, rfl⟩
    · have hin : inB p 0 s.size = false := by simp [inB]; omega
      have hr : onesR s p = -1 := by unfold onesR; rw [if_neg (fun h => hp h.2)]
      rw [hr]
      clear hr hp
      go_enter Try.func13, Try.ntmps13
      go_wp2_with (first | (go_at_call 20; refine (okS _ _ hs).mono ?_; rintro e w' ⟨rfl, rfl⟩) | (go_at_call 27; refine (inS _ _ _ _).mono ?_; rintro e w' ⟨rfl, rfl⟩))
      go_ret
      exact ⟨rfl, rfl⟩
  · have hr : onesR s p = -1 := by unfold onesR; rw [if_neg (fun h => hok h.1)]
    have hok' : okB s.data.toList = false := by simpa using hok
    rw [hr]
    clear hr hok
    go_enter Try.func13, Try.ntmps13
    go_wp2_with (first | (go_at_call 20; refine (okS _ _ hs).mono ?_; rintro e w' ⟨rfl, rfl⟩))
    go_ret
    exact ⟨rfl, rfl⟩

theorem cnt_all (s : ByteArray) : cntI s s.size = (ones s.data.toList : Int) := by unfold cntI; rw [all_l]

set_option maxHeartbeats 400000 in
theorem bitsOneS (s : ByteArray) (n : Int) (w : World) (hs : s.size ≤ maxLen) (hn : n ≤ 9223372036854775807) :
    Calls Try.prog 15 #[.string s, .int .i64 n] w fun e w' => e = .returned (posV (oneO s n)) ∧ w = w' := by
  have hc := cntI_bd s s.size
  have hl : s.size ≤ 9223372036854775807 := by unfold maxLen at hs; omega
  have hz : (0 : Int) ≤ s.size := by omega
  have hzz : (s.size : Int) ≤ s.size := Int.le_refl _
  by_cases hok : okB s.data.toList = true
  · by_cases hp : 0 ≤ n ∧ n ≤ cntI s s.size - 1
    · have hin : inB n 0 (cntI s s.size - 1) = true := by simp [inB]; omega
      obtain ⟨h0, h1⟩ := hp
      obtain ⟨k, hk⟩ : ∃ k, oneIdx s.data.toList n.toNat = some k := by
        cases h : oneIdx s.data.toList n.toNat with
        | some k => exact ⟨k, rfl⟩
        | none => rw [oneIdx_none] at h; rw [cnt_all] at h1; omega
      have hr : posV (oneO s n) = .tuple #[.int .i64 k, .bool true] := by unfold oneO; rw [if_pos ⟨hok, h0⟩, hk]; rfl
      have ho : oneOr s n.toNat = k := by unfold oneOr; rw [hk]; rfl
      rw [hr]
      clear hr hk
      go_enter Try.func15, Try.ntmps15
      go_wp2_with (first | (go_at_call 20; refine (okS _ _ hs).mono ?_; rintro e w' ⟨rfl, rfl⟩) | (go_at_call 28; refine (onesS _ _ _ hs hz hzz).mono ?_; rintro e w' ⟨rfl, rfl⟩) | (go_at_call 27; refine (inS _ _ _ _).mono ?_; rintro e w' ⟨rfl, rfl⟩) | (go_at_call 29; refine (oneS _ _ _ hs h0 hn).mono ?_; rintro e w' ⟨rfl, rfl⟩))
      go_ret2
      exact ⟨rfl, rfl⟩
    · have hin : inB n 0 (cntI s s.size - 1) = false := by simp [inB]; omega
      have hr : posV (oneO s n) = .tuple #[.int .i64 0, .bool false] := by
        unfold oneO
        split
        · rename_i h
          rw [(oneIdx_none _ _).mpr (by rw [cnt_all] at hp; omega)]; rfl
        · rfl
      rw [hr]
      clear hr hp
      go_enter Try.func15, Try.ntmps15
      go_wp2_with (first | (go_at_call 20; refine (okS _ _ hs).mono ?_; rintro e w' ⟨rfl, rfl⟩) | (go_at_call 28; refine (onesS _ _ _ hs hz hzz).mono ?_; rintro e w' ⟨rfl, rfl⟩) | (go_at_call 27; refine (inS _ _ _ _).mono ?_; rintro e w' ⟨rfl, rfl⟩))
      go_ret2
      exact ⟨rfl, rfl⟩
  · have hr : posV (oneO s n) = .tuple #[.int .i64 0, .bool false] := by unfold oneO; rw [if_neg (fun h => hok h.1)]; rfl
    have hok' : okB s.data.toList = false := by simpa using hok
    rw [hr]
    clear hr hok
    go_enter Try.func15, Try.ntmps15
    go_wp2_with (first | (go_at_call 20; refine (okS _ _ hs).mono ?_; rintro e w' ⟨rfl, rfl⟩))
    go_ret2
    exact ⟨rfl, rfl⟩

/-- the search for the next one, from p on, has come to k -/
def Walk (l : List UInt8) (p k : Nat) : Prop := (oneIdx (l.drop p) 0).map (p + ·) = (oneIdx (l.drop k) 0).map (k + ·)
theorem Walk.hit (s : ByteArray) (p k : Nat) (h : k < s.size) (hw : Walk s.data.toList p k) (hc : (s[k].toNat : Int) = 49) : (oneIdx (s.data.toList.drop p) 0).map (p + ·) = some k := by
  rw [hw, next_step _ _ _ (at_k s k h), if_pos ((c49 _).mp hc)]
theorem Walk.skip (s : ByteArray) (p k : Nat) (h : k < s.size) (hw : Walk s.data.toList p k) (hc : ¬ (s[k].toNat : Int) = 49) : Walk s.data.toList p (k + 1) := by
  unfold Walk at *
  rw [hw, next_step _ _ _ (at_k s k h), if_neg (fun e => hc ((c49 _).mpr e))]
theorem Walk.done (s : ByteArray) (p k : Nat) (h : ¬ k < s.size) (hw : Walk s.data.toList p k) : (oneIdx (s.data.toList.drop p) 0).map (p + ·) = none := by
  rw [hw, List.drop_eq_nil_of_le (by rw [len_l]; omega)]; rfl

theorem ret_pos {o o' : Option Nat} (h : o = o') : Ending.returned (posV o) = .returned (posV o') := by rw [h]

set_option maxHeartbeats 400000 in
theorem bitsNextS (s : ByteArray) (p : Int) (w : World) (hs : s.size ≤ maxLen) :
    Calls Try.prog 18 #[.string s, .int .i64 p] w fun e w' => e = .returned (posV (nextO s p)) ∧ w = w' := by
  by_cases hok : okB s.data.toList = true
  · by_cases hp : 0 ≤ p ∧ p ≤ s.size
    · have hin : inB p 0 s.size = true := by simp [inB]; omega
      have hr : nextO s p = (oneIdx (s.data.toList.drop p.toNat) 0).map (p.toNat + ·) := by unfold nextO; rw [if_pos ⟨hok, hp⟩]
      obtain ⟨h0, h1⟩ := hp
      obtain ⟨P, rfl⟩ := Int.eq_ofNat_of_zero_le h0
      rw [Int.toNat_natCast] at hr
      have HR := Lib.hid hr
      clear hr
      have hs' : s.size ≤ 9223372036854775807 := by unfold maxLen at hs; omega
      go_enter Try.func18, Try.ntmps18
      go_wp2_with (first | (go_at_call 20; refine (okS _ _ hs).mono ?_; rintro e w' ⟨rfl, rfl⟩) | (go_at_call 27; refine (inS _ _ _ _).mono ?_; rintro e w' ⟨rfl, rfl⟩))
      go_loop [6] (fun i => ∃ k : Nat, k ≤ s.size ∧ i = .int .i64 k ∧ Walk s.data.toList P k) (fun i => s.size - (intOf i).toNat)
      case atStart => exact ⟨P, by omega, rfl, rfl⟩
      case round =>
        obtain ⟨k, hk, rfl, hsk⟩ := hrel
        by_cases hlt : k < s.size
        · by_cases hc : (s[k].toNat : Int) = 49
          · have hc1 : ((s[k].toNat : Int) == 49) = true := by simp [hc]
            have HC := Lib.hid hc
            clear hc
            go_wp2
            go_ret2
            exact ⟨by rw [HR.out, Walk.hit s P k hlt hsk HC.out]; rfl, rfl⟩
          · have hc1 : ((s[k].toNat : Int) == 49) = false := by simp [hc]
            have HC := Lib.hid hc
            clear hc
            go_wp2
            go_round
            case rel => exact ⟨k + 1, by omega, by go_num, Walk.skip s P k hlt hsk HC.out⟩
            case measure => simp [intOf]; omega
        · go_wp2
          go_ret2
          exact ⟨by rw [HR.out, Walk.done s P k hlt hsk]; rfl, rfl⟩
    · have hin : inB p 0 s.size = false := by simp [inB]; omega
      have hr : posV (nextO s p) = .tuple #[.int .i64 0, .bool false] := by unfold nextO; rw [if_neg (fun h => hp h.2)]; rfl
      rw [hr]
      clear hr hp
      go_enter Try.func18, Try.ntmps18
      go_wp2_with (first | (go_at_call 20; refine (okS _ _ hs).mono ?_; rintro e w' ⟨rfl, rfl⟩) | (go_at_call 27; refine (inS _ _ _ _).mono ?_; rintro e w' ⟨rfl, rfl⟩))
      go_ret2
      exact ⟨rfl, rfl⟩
  · have hr : posV (nextO s p) = .tuple #[.int .i64 0, .bool false] := by unfold nextO; rw [if_neg (fun h => hok h.1)]; rfl
    have hok' : okB s.data.toList = false := by simpa using hok
    rw [hr]
    clear hr hok
    go_enter Try.func18, Try.ntmps18
    go_wp2_with (first | (go_at_call 20; refine (okS _ _ hs).mono ?_; rintro e w' ⟨rfl, rfl⟩))
    go_ret2
    exact ⟨rfl, rfl⟩

end Go.Proofs.Ytjankanjaljehaa.W
