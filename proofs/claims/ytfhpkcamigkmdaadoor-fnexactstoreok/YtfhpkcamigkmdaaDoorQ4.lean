/-
  Contracts of the program's levelMax and (*tree).timesOk.
-/
import Derived.Test.YtfhpkcamigkmdaaDoorZAK
namespace Go.Proofs.YtfhpkcamigkmdaaDoor.W
open Go.RowKit K R

theorem maxI (n : Int) (w : World) (h0 : 0 ≤ n) (h1 : n ≤ 1000) :
    Calls Tryd.prog 44 #[.int .i64 n] w fun e w' => e = .returned (.int .i64 (8 * (n + 1))) ∧ w = w' := by
  go_enter Tryd.func44, Tryd.ntmps44
  go_wp2
  go_ret
  exact ⟨ret_int (by omega), rfl⟩

/-- the time before the k-th: none is -1 -/
def beforeT (l : List Int) (k : Nat) : Int := if h : 0 < k ∧ k ≤ l.length then l[k - 1]'(by omega) else -1
theorem beforeT_zero (l : List Int) : beforeT l 0 = -1 := by unfold beforeT; rw [dif_neg (by omega)]
theorem beforeT_succ {l : List Int} {k : Nat} (h : k < l.length) : beforeT l (k + 1) = l[k] := by unfold beforeT; rw [dif_pos (by omega)]; rfl
/-- what the program asks of times -/
def treeTimesB (l : List Int) (now : Int) : Bool := inB now 0 999 && timesB l now
theorem tt_off {l : List Int} {now : Int} (h : ¬ (0 ≤ now ∧ now ≤ 999)) : treeTimesB l now = false := by unfold treeTimesB inB; rw [decide_eq_false h]; rfl
theorem tt_many {l : List Int} {now : Int} (h : ¬ l.length ≤ 3) : treeTimesB l now = false := by unfold treeTimesB timesB; rw [decide_eq_false h]; simp
theorem tt_bad {l : List Int} {now : Int} {k : Nat} (g : goodT l now k) (h : k < l.length) (hb : l[k] ≤ beforeT l k ∨ now < l[k]) : treeTimesB l now = false := by
  have : timesB l now = false := by
    by_cases hin : 0 ≤ l[k] ∧ l[k] ≤ now
    · cases k with
      | zero => rw [beforeT_zero] at hb; omega
      | succ j =>
        rw [beforeT_succ (by omega)] at hb
        exact badT_ord (j := j) rfl h (by omega)
    · exact badT_in h hin
  unfold treeTimesB; rw [this, Bool.and_false]
theorem tt_next {l : List Int} {now : Int} {k : Nat} (g : goodT l now k) (h : k < l.length) (h1 : ¬ l[k] ≤ beforeT l k) (h2 : ¬ now < l[k]) : goodT l now (k + 1) := by
  cases k with
  | zero => rw [beforeT_zero] at h1; exact goodT_succ g h (by omega) (fun j hj => by omega)
  | succ j =>
    rw [beforeT_succ (by omega)] at h1
    have := g.1 j (by omega) (by omega)
    exact goodT_succ g h (by omega) (fun i hi => by obtain rfl : i = j := by omega
                                                    omega)

set_option maxHeartbeats 4000000 in
theorem timesI (w : World) (B g c : Nat) (A : Option Addr) (l : List Int) (now : Int) (hr : Nums w B A l.length l) (hB : B ≤ w.heap.size) (hn : l.length ≤ maxLen)
    (ht : w.cell? ⟨g, 20, none⟩ = some (.int .i64 now)) (hs : w.cell? ⟨g, 21, none⟩ = some (.slice A l.length c)) :
    Calls Tryd.prog 80 #[.pointer (some ⟨g, 0, none⟩)] w fun e w' => e = .returned (.bool (treeTimesB l now)) ∧ w = w' := by
  unfold maxLen at hn
  have HR := Lib.hid hr
  clear hr
  by_cases h1 : now < 0
  · have HQ := Lib.hid (tt_off (l := l) (now := now) (by omega))
    go_enter Tryd.func80, Tryd.ntmps80
    go_wp2
    go_ret
    exact ⟨ret_bool HQ.out.symm, rfl⟩
  · by_cases h2 : 999 < now
    · have HQ := Lib.hid (tt_off (l := l) (now := now) (by omega))
      go_enter Tryd.func80, Tryd.ntmps80
      go_wp2
      go_ret
      exact ⟨ret_bool HQ.out.symm, rfl⟩
    · by_cases h3 : (3 : Int) < (l.length : Int)
      · have HQ := Lib.hid (tt_many (l := l) (now := now) (by omega))
        go_enter Tryd.func80, Tryd.ntmps80
        go_wp2
        go_ret
        exact ⟨ret_bool HQ.out.symm, rfl⟩
      · go_enter Tryd.func80, Tryd.ntmps80
        go_wp2
        go_loopw [3, 31] (fun bv iv wr => ∃ k : Nat, k ≤ l.length ∧ iv = .int .i64 (k : Nat) ∧ bv = .int .i64 (beforeT l k) ∧ goodT l now k ∧ wr = w) (fun _ iv _ => l.length - (intOf iv).toNat)
        case atStart => exact ⟨0, Nat.zero_le _, rfl, by rw [beforeT_zero], goodT_zero l now, rfl⟩
        case round =>
          obtain ⟨k, hk, rfl, rfl, hg, rfl⟩ := hrel
          have HG := Lib.hid hg
          clear hg
          by_cases hlt : k < l.length
          · obtain ⟨b, off, hA, hb, hc⟩ := HR.out.cell k hlt
            subst hA
            have hx0 : (0 : Int) ≤ (k : Int) := by omega
            have hx1 : (k : Int) < (l.length : Int) := by omega
            obtain ⟨x, hx⟩ : ∃ y, y = l[k] := ⟨_, rfl⟩
            obtain ⟨y, hy⟩ : ∃ y, y = beforeT l k := ⟨_, rfl⟩
            have HX := Lib.hid hx
            have HY := Lib.hid hy
            rw [← hx] at hc
            rw [← hy]
            clear hx hy
            by_cases hq1 : x ≤ y
            · have HQ := Lib.hid (tt_bad HG.out hlt (.inl (by rw [← HX.out, ← HY.out]; exact hq1)))
              go_wp2
              go_ret
              exact ⟨ret_bool HQ.out.symm, rfl⟩
            · by_cases hq2 : now < x
              · have HQ := Lib.hid (tt_bad HG.out hlt (.inr (by rw [← HX.out]; exact hq2)))
                go_wp2
                go_ret
                exact ⟨ret_bool HQ.out.symm, rfl⟩
              · have HN := Lib.hid (tt_next HG.out hlt (by rw [← HX.out, ← HY.out]; exact hq1) (by rw [← HX.out]; exact hq2))
                go_wp2
                go_roundw
                case rel => exact ⟨k + 1, by omega, by go_num, by rw [beforeT_succ hlt, HX.out], HN.out, by first | rfl | trivial⟩
                case measure => simp [intOf]; omega
          · have hke : k = l.length := by omega
            subst hke
            have HQ := Lib.hid (show treeTimesB l now = true by unfold treeTimesB inB; rw [goodT_end HG.out, decide_eq_true (by omega), decide_eq_true (by omega)]; rfl)
            go_wp2
            go_ret
            exact ⟨ret_bool HQ.out.symm, rfl⟩

end Go.Proofs.YtfhpkcamigkmdaaDoor.W
