/-
  What the program says of an entry, and the order of two.
-/
import Derived.Test.YtbckgmfopbpocaaDoorE1
import Derived.Test.YtbckgmfopbpocaaDoorI2
namespace Go.Proofs.YtbckgmfopbpocaaDoor.W
open Go.RowKit K R

theorem okE_prog (k : ByteArray) (v : Int) (g : Bool) (t : Int) : okE ⟨k, v, g, t⟩ = (!(g && !decide (v = 0)) && (keyB k && (decide (0 ≤ v) && (decide (v ≤ 99) && (decide (1 ≤ t) && decide (t ≤ 999)))))) := by
  unfold okE
  cases g <;> cases keyB k <;> simp <;> cases decide (v = 0) <;> simp [Bool.and_assoc]

set_option maxHeartbeats 4000000 in
theorem okEI (k : ByteArray) (v : Int) (g : Bool) (t : Int) (w : World) (hk : k.size ≤ maxLen) :
    Calls Tryd.prog 38 #[.agg #[.string k, .int .i64 v, .bool g, .int .i64 t]] w fun e w' => e = .returned (.bool (okE ⟨k, v, g, t⟩)) ∧ Below w.heap.size w w' := by
  rw [okE_prog]
  rcases Bool.eq_false_or_eq_true (keyB k) with f1 | f1 <;> cases g <;> by_cases hv : v = 0 <;> by_cases h0 : 0 ≤ v <;> by_cases h1 : v ≤ 99 <;> by_cases h2 : 1 ≤ t <;> by_cases h3 : t ≤ 999 <;> (try omega)
  all_goals
    go_enter Tryd.func38, Tryd.ntmps38
    go_wp2_with (first | (go_at_call 58; refine Calls.mono (keyI k _ hk) ?_; rintro e w' ⟨rfl, rfl⟩))
    go_ret
    exact ⟨by simp [*], (Below.refl _ _).alloc (Nat.le_refl _) _⟩

def cmpN (a b : Int) : Int := if a < b then -1 else if b < a then 1 else 0
theorem nanN (a : Int) (w : World) : Calls Tryd.prog 76 #[.int .i64 a] w fun e w' => e = .returned (.bool false) ∧ w = w' := by
  go_enter Tryd.func76, Tryd.ntmps76
  go_wp2
  go_ret
  exact ⟨rfl, rfl⟩
theorem cmpNI (a b : Int) (w : World) : Calls Tryd.prog 71 #[.int .i64 a, .int .i64 b] w fun e w' => e = .returned (.int .i64 (cmpN a b)) ∧ w = w' := by
  unfold cmpN
  by_cases h1 : a < b
  · rw [if_pos h1]
    go_enter Tryd.func71, Tryd.ntmps71
    go_wp2_with (first | (go_at_call 76; refine Calls.mono (nanN _ _) ?_; rintro e w' ⟨rfl, rfl⟩))
    go_ret
    exact ⟨rfl, rfl⟩
  · rw [if_neg h1]
    by_cases h2 : b < a
    · rw [if_pos h2]
      go_enter Tryd.func71, Tryd.ntmps71
      go_wp2_with (first | (go_at_call 76; refine Calls.mono (nanN _ _) ?_; rintro e w' ⟨rfl, rfl⟩))
      go_ret
      exact ⟨rfl, rfl⟩
    · rw [if_neg h2]
      go_enter Tryd.func71, Tryd.ntmps71
      go_wp2_with (first | (go_at_call 76; refine Calls.mono (nanN _ _) ?_; rintro e w' ⟨rfl, rfl⟩))
      go_ret
      exact ⟨rfl, rfl⟩

section
variable (k k2 : ByteArray) (v v2 : Int) (g g2 : Bool) (t t2 : Int)
theorem two_below (w : World) (o o2 : Obj) : Below w.heap.size w ((w.alloc o).alloc o2) := ((Below.refl _ _).alloc (Nat.le_refl _) _).alloc (by simp) _
set_option maxHeartbeats 1000000 in
theorem byKeyI (w : World) : Calls Tryd.prog 59 #[.agg #[.string k, .int .i64 v, .bool g, .int .i64 t], .agg #[.string k2, .int .i64 v2, .bool g2, .int .i64 t2]] w fun e w' => e = .returned (.int .i64 (cmpS k k2)) ∧ Below w.heap.size w w' := by
  go_enter Tryd.func59, Tryd.ntmps59
  go_wp2_with (first | (go_at_call 70; refine Calls.mono (cmpI k k2 _) ?_; rintro e w' ⟨rfl, rfl⟩))
  go_ret
  exact ⟨rfl, two_below _ _ _⟩
set_option maxHeartbeats 1000000 in
theorem byAgeI (w : World) : Calls Tryd.prog 60 #[.agg #[.string k, .int .i64 v, .bool g, .int .i64 t], .agg #[.string k2, .int .i64 v2, .bool g2, .int .i64 t2]] w fun e w' => e = .returned (.int .i64 (cmpN t2 t)) ∧ Below w.heap.size w w' := by
  go_enter Tryd.func60, Tryd.ntmps60
  go_wp2_with (first | (go_at_call 71; refine Calls.mono (cmpNI t2 t _) ?_; rintro e w' ⟨rfl, rfl⟩))
  go_ret
  exact ⟨rfl, two_below _ _ _⟩
end

/-- the order of two entries, as a number -/
def ordV (a b : En) : Int := if cmpS a.key b.key = 0 then cmpN b.time a.time else cmpS a.key b.key
theorem ordV_neg (a b : En) : ordV a b < 0 ↔ R.ahead a b = true := by
  unfold ordV
  rw [ahead_iff]
  by_cases h : cmpS a.key b.key = 0
  · rw [if_pos h]
    have e := eqs_iff.mp (cmpS_zero.mp h)
    unfold cmpN
    constructor
    · intro hl
      right
      refine ⟨e, ?_⟩
      by_cases h1 : b.time < a.time
      · exact h1
      · rw [if_neg h1] at hl
        split at hl <;> omega
    · rintro (hl | ⟨-, hl⟩)
      · rw [e, lt_irrefl] at hl; cases hl
      · rw [if_pos hl]; decide
  · rw [if_neg h, cmpS_less]
    constructor
    · exact .inl
    · rintro (hl | ⟨hl, -⟩)
      · exact hl
      · exact absurd (cmpS_zero.mpr (eqs_iff.mpr hl)) h

end Go.Proofs.YtbckgmfopbpocaaDoor.W
