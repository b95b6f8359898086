/-
  Contracts of the exact laws' helpers for filters: marking, looking for the marks, copying, measuring. Each at every filter that can be read. And what both SieveOf answer, as one filter.
-/
import Derived.Test.YtakadkhgcjndmaaJ3
import Derived.Test.YtakadkhgcjndmaaZ0a
namespace Go.Proofs.Ytakadkhgcjndmaa.W
open Go.RowKit K

theorem mark1 (w : World) (base n c : Nat) (A : Option Addr) (l : List ByteArray) (ho : Own w base (.slice A n c) l) (h1 : n ≤ 1073741823) :
    Calls Try.prog 62 #[.slice A n c, .int .i64 1] w (Marked base 1 n (.slice A n c) w) := markS w base n c 1 A l ho (by omega) (by omega)
theorem held1 (w : World) (B n c : Nat) (A : Option Addr) (hr : Strs w B A n (marks 1 n)) (hB : B ≤ w.heap.size) (h1 : n ≤ 1073741823) :
    Calls Try.prog 67 #[.slice A n c, .int .i64 1] w fun e w' => e = .returned (.int .i64 ((1 + n : Nat) : Int)) ∧ Below w.heap.size w w' := heldS w B n c 1 A hr hB (by omega) (by omega)

set_option maxHeartbeats 1000000 in
theorem markSv (w : World) (base n c : Nat) (A : Option Addr) (L M_ F : ByteArray) (keep : Int) (l : List ByteArray) (ho : Own w base (.slice A n c) l) (h1 : n ≤ 1073741823) :
    Calls Try.prog 63 #[.agg #[.string L, .string M_, .string F, .slice A n c, .int .i64 keep], .int .i64 1] w (Marked base 1 n (.slice A n c) w) := by
  have HM := Lib.hid (mark1 (w.alloc (.cells #[.string L, .string M_, .string F, .slice A n c, .int .i64 keep] 27)) base n c A l (ho.alloc _) h1)
  clear ho
  go_enter Try.func63, Try.ntmps63
  go_wp2_with fail
  go_at_call 62
  refine HM.out.mono ?_
  rintro e w1 ⟨rfl, ho1, hg1⟩
  have HO := Lib.hid ho1
  have HG := Lib.hid ((World.grownBy_alloc w (.cells #[.string L, .string M_, .string F, .slice A n c, .int .i64 keep] 27) _).trans hg1)
  clear ho1 hg1
  go_wp2
  go_ret
  exact ⟨rfl, HO.out, HG.out⟩

set_option maxHeartbeats 1000000 in
theorem heldSv (w : World) (B n c : Nat) (A : Option Addr) (L M_ F : ByteArray) (keep : Int) (hr : Strs w B A n (marks 1 n)) (hB : B ≤ w.heap.size) (h1 : n ≤ 1073741823) :
    Calls Try.prog 64 #[.agg #[.string L, .string M_, .string F, .slice A n c, .int .i64 keep], .int .i64 1] w fun e w' => e = .returned (.int .i64 ((1 + n : Nat) : Int)) ∧ Below w.heap.size w w' := by
  have hbw : Below w.heap.size w (w.alloc (.cells #[.string L, .string M_, .string F, .slice A n c, .int .i64 keep] 27)) := (Below.refl _ _).alloc (Nat.le_refl _) _
  have HM := Lib.hid (held1 _ B n c A (hr.below hbw hB) (Nat.le_trans hB hbw.size) h1)
  clear hr hbw
  go_enter Try.func64, Try.ntmps64
  go_wp2_with fail
  go_at_call 67
  refine HM.out.mono ?_
  rintro e w1 ⟨rfl, hb1⟩
  have HB := Lib.hid (((Below.refl w.heap.size w).alloc (Nat.le_refl _) (.cells #[.string L, .string M_, .string F, .slice A n c, .int .i64 keep] 27)).trans (hb1.mono (by simp)))
  clear hb1
  go_wp2
  go_ret
  exact ⟨ret_int (by omega), HB.out⟩

/-- what both SieveOf answer: the filter, field by field -/
def svYes (l : List ByteArray) (keep : Int) : Bool := keysB l && inB keep 0 5
def svL (l : List ByteArray) (keep : Int) : ByteArray := if svYes l keep = true then ba (T.sieve keep.toNat (ls l)).letters else ⟨#[]⟩
def svM (l : List ByteArray) (keep : Int) : ByteArray := if svYes l keep = true then ba (T.sieve keep.toNat (ls l)).more else ⟨#[]⟩
def svF (l : List ByteArray) (keep : Int) : ByteArray := if svYes l keep = true then ba (T.sieve keep.toNat (ls l)).first else ⟨#[]⟩
def svR (l : List ByteArray) (keep : Int) : List ByteArray := if svYes l keep = true then (T.sieve keep.toNat (ls l)).rests.map ba else []
def svK (l : List ByteArray) (keep : Int) : Int := if svYes l keep = true then keep else 0
/-- an answer of SieveOf: these fields, in memory of its own -/
def OfF (w : World) (L M_ F : ByteArray) (R : List ByteArray) (k : Int) (b : Bool) (e : Ending) (w' : World) : Prop :=
  ∃ A c, e = .returned (.tuple #[.agg #[.string L, .string M_, .string F, .slice A R.length c, .int .i64 k], .bool b]) ∧ Own w' w.heap.size (.slice A R.length c) R ∧ Below w.heap.size w w'
theorem of_fields {w w' : World} {l : List ByteArray} {keep : Int} {e : Ending} (h : OfA w l keep e w') : OfF w (svL l keep) (svM l keep) (svF l keep) (svR l keep) (svK l keep) (svYes l keep) e w' := by
  rcases h with ⟨h1, h2, v, rfl, ho, hb⟩ | ⟨h1, rfl, hb⟩
  · have hy : svYes l keep = true := by unfold svYes; rw [h1, h2]; rfl
    have h5 : 0 ≤ keep ∧ keep ≤ 5 := by unfold inB at h2; exact of_decide_eq_true h2
    obtain ⟨kp, rfl⟩ := Int.eq_ofNat_of_zero_le h5.1
    unfold svL svM svF svR svK
    rw [hy]
    simp only [if_true]
    obtain ⟨A, c, hv, hc, hm, -⟩ := ho.parts
    subst hv
    exact ⟨A, c, rfl, ho, hb⟩
  · have hy : svYes l keep = false := by
      unfold svYes
      rcases h1 with h | h
      · rw [h]; rfl
      · rw [h, Bool.and_false]
    unfold svL svM svF svR svK
    rw [hy]
    simp only [Bool.false_eq_true, if_false]
    exact ⟨none, 0, rfl, Own.none_ _ _, hb⟩
theorem svR_len (l : List ByteArray) (keep : Int) : (svR l keep).length ≤ 144 := by
  unfold svR
  split
  · next h =>
    unfold svYes at h
    rw [Bool.and_eq_true] at h
    rw [List.length_map]
    exact (all_small (keyL_of h.1) (by rw [ls_len]; exact (keys_iff.mp h.1).1) _).2.2.2
  · simp

theorem sv_small (l : List ByteArray) (keep : Int) : (svL l keep).size ≤ 144 ∧ (svM l keep).size ≤ 144 ∧ (svF l keep).size ≤ 144 ∧ (∀ s ∈ svR l keep, s.size ≤ 5) ∧ -1 ≤ svK l keep ∧ svK l keep ≤ 6 := by
  by_cases h : svYes l keep = true
  · have h' := h
    unfold svYes at h'
    rw [Bool.and_eq_true] at h'
    have h5 : 0 ≤ keep ∧ keep ≤ 5 := by have := h'.2; unfold inB at this; exact of_decide_eq_true this
    obtain ⟨a1, a2, a3, -⟩ := all_small (keyL_of h'.1) (by rw [ls_len]; exact (keys_iff.mp h'.1).1) keep.toNat
    unfold svL svM svF svR svK
    rw [if_pos h, if_pos h, if_pos h, if_pos h, if_pos h, ba_len, ba_len, ba_len]
    refine ⟨a1, a2, a3, fun s hs => ?_, by omega, by omega⟩
    obtain ⟨r, hr, rfl⟩ := List.mem_map.mp hs
    rw [ba_len]
    have := T.rests_short keep.toNat (T.forks (ls l)) r hr
    omega
  · unfold svL svM svF svR svK
    rw [if_neg h, if_neg h, if_neg h, if_neg h, if_neg h]
    exact ⟨by decide, by decide, by decide, fun s hs => (by cases hs), by omega, by omega⟩

end Go.Proofs.Ytakadkhgcjndmaa.W
