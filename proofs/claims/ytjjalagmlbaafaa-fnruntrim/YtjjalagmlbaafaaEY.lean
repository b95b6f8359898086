/-
  anyWithin: whether some time is from one on, and ahead of another one.
-/
import Derived.Test.YtjjalagmlbaafaaEM
namespace Go.Proofs.Ytjjalagmlbaafaa.W
open Go.RowKit K R

set_option maxHeartbeats 1000000 in
theorem withinC (w : World) (b1 b2 : Nat) (f u x : Int) (h1 : w.cell? ⟨b1, 0, none⟩ = some (.int .i64 f)) (h2 : w.cell? ⟨b2, 0, none⟩ = some (.int .i64 u)) :
    Calls Try.prog 97 #[.int .i64 x, .pointer (some ⟨b1, 0, none⟩), .pointer (some ⟨b2, 0, none⟩)] w fun e w' => e = .returned (.bool (inT f u x)) ∧ w = w' := by
  by_cases c1 : f ≤ x
  · by_cases c2 : x < u
    · have HE := Lib.hid (show inT f u x = true by unfold inT; rw [decide_eq_true c1, decide_eq_true c2]; rfl)
      go_enter Try.func97, Try.ntmps97
      go_wp2
      go_ret
      exact ⟨by rw [HE.out]; rfl, rfl⟩
    · have HE := Lib.hid (show inT f u x = false by unfold inT; rw [decide_eq_false c2, Bool.and_false])
      go_enter Try.func97, Try.ntmps97
      go_wp2
      go_ret
      exact ⟨by rw [HE.out]; rfl, rfl⟩
  · have HE := Lib.hid (show inT f u x = false by unfold inT; rw [decide_eq_false c1, Bool.false_and])
    go_enter Try.func97, Try.ntmps97
    go_wp2
    go_ret
    exact ⟨by rw [HE.out]; rfl, rfl⟩

set_option maxHeartbeats 2000000 in
theorem indexF (w : World) (B nt ct b1 b2 : Nat) (A2 : Option Addr) (times : List Int) (f u : Int) (hr2 : Nums w B A2 nt times) (hnt : nt ≤ maxLen) (h1 : w.cell? ⟨b1, 0, none⟩ = some (.int .i64 f)) (h2 : w.cell? ⟨b2, 0, none⟩ = some (.int .i64 u)) :
    Calls Try.prog 102 #[.slice A2 nt ct, .func (.func 97) #[] #[.pointer (some ⟨b1, 0, none⟩), .pointer (some ⟨b2, 0, none⟩)]] w fun e w' => (∃ z : Int, e = .returned (.int .i64 z) ∧ (times.any (inT f u) = true ∧ 0 ≤ z ∨ times.any (inT f u) = false ∧ z = -1)) ∧ w = w' := by
  have hlen := hr2.len
  subst hlen
  unfold maxLen at hnt
  have HR := Lib.hid hr2
  have HC := Lib.hid (fun x => withinC w b1 b2 f u x h1 h2)
  clear hr2 h1 h2
  go_enter Try.func102, Try.ntmps102
  go_wp2_with fail
  go_loopw [8] (fun i wr => ∃ k : Nat, k ≤ times.length ∧ i = .int .i64 (k : Nat) ∧ noT times f u k ∧ w = wr) (fun i _ => times.length - (intOf i).toNat)
  case atStart => exact ⟨0, Nat.zero_le _, rfl, fun i _ h => absurd h (Nat.not_lt_zero _), rfl⟩
  case round =>
    obtain ⟨k, hk, rfl, hno, rfl⟩ := hrel
    have HNO := Lib.hid hno
    clear hno
    by_cases hlt : k < times.length
    · obtain ⟨kb, ko, hA, hkb, d0⟩ := HR.out.cell k hlt
      subst hA
      obtain ⟨x, hx⟩ : ∃ x, x = times[k] := ⟨_, rfl⟩
      rw [← hx] at d0
      have HX := Lib.hid hx
      have z0 : (0 : Int) ≤ (k : Int) := by omega
      have z1 : (k : Int) < (times.length : Int) := by omega
      have HCX := Lib.hid (HC.out x)
      obtain ⟨q, hq⟩ : ∃ q, q = inT f u x := ⟨_, rfl⟩
      rw [← hq] at HCX
      have HQ := Lib.hid hq
      clear hx hq
      go_wp2_with fail
      go_at_call 97
      refine Calls.mono HCX.out ?_
      rintro e w2 ⟨rfl, rfl⟩
      cases q with
      | true =>
        have HA := Lib.hid (yesT hlt (show inT f u times[k] = true by rw [← HX.out, ← HQ.out]))
        go_wp2
        go_ret
        exact ⟨⟨_, rfl, .inl ⟨HA.out, by omega⟩⟩, rfl⟩
      | false =>
        have HN := Lib.hid (noT_succ hlt HNO.out (show inT f u times[k] = false by rw [← HX.out, ← HQ.out]))
        go_wp2
        go_roundw
        case rel => exact ⟨k + 1, by omega, by go_num, HN.out, by first | rfl | trivial⟩
        case measure => simp [intOf]; omega
    · have hke : k = times.length := by omega
      subst hke
      have HN := Lib.hid (noT_end HNO.out)
      go_wp2
      go_ret
      exact ⟨⟨-1, rfl, .inr ⟨HN.out, by first | rfl | trivial⟩⟩, rfl⟩

set_option maxHeartbeats 1000000 in
theorem containsF (w : World) (B nt ct b1 b2 : Nat) (A2 : Option Addr) (times : List Int) (f u : Int) (hr2 : Nums w B A2 nt times) (hnt : nt ≤ maxLen) (h1 : w.cell? ⟨b1, 0, none⟩ = some (.int .i64 f)) (h2 : w.cell? ⟨b2, 0, none⟩ = some (.int .i64 u)) :
    Calls Try.prog 96 #[.slice A2 nt ct, .func (.func 97) #[] #[.pointer (some ⟨b1, 0, none⟩), .pointer (some ⟨b2, 0, none⟩)]] w fun e w' => e = .returned (.bool (times.any (inT f u))) ∧ w = w' := by
  have HC := Lib.hid (indexF w B nt ct b1 b2 A2 times f u hr2 hnt h1 h2)
  clear hr2 h1 h2
  obtain ⟨q, hq⟩ : ∃ q, q = times.any (inT f u) := ⟨_, rfl⟩
  rw [← hq] at HC ⊢
  clear hq
  cases q
  all_goals
    go_enter Try.func96, Try.ntmps96
    go_wp2_with fail
    go_at_call 102
    refine Calls.mono HC.out ?_
    rintro e w2 ⟨⟨z, rfl, hz⟩, rfl⟩
    simp at hz
    try subst hz
    go_wp2
    go_ret
    exact ⟨rfl, rfl⟩

set_option maxHeartbeats 1000000 in
theorem anyI (w : World) (B nt ct : Nat) (A2 : Option Addr) (times : List Int) (f u : Int) (hr2 : Nums w B A2 nt times) (hB : B ≤ w.heap.size) (hnt : nt ≤ maxLen) :
    Calls Try.prog 89 #[.slice A2 nt ct, .int .i64 f, .int .i64 u] w fun e w' => e = .returned (.bool (times.any (inT f u))) ∧ Below w.heap.size w w' := by
  obtain ⟨W, hW⟩ : ∃ W, W = (w.alloc (.cells #[.int .i64 f] 3)).alloc (.cells #[.int .i64 u] 3) := ⟨_, rfl⟩
  have bW : Below w.heap.size w W := by rw [hW]; exact ((Below.refl _ _).alloc (Nat.le_refl _) _).alloc (by simp) _
  have h1 : W.cell? ⟨w.heap.size, 0, none⟩ = some (.int .i64 f) := by
    rw [hW, cell_of_row _ _ _ _ _ _ ((Below.heap_alloc _ _ _ (by simp)).trans (heap_alloc_new w _))]
    rfl
  have h2 : W.cell? ⟨w.heap.size + 1, 0, none⟩ = some (.int .i64 u) := by
    have h := heap_alloc_new (w.alloc (.cells #[.int .i64 f] 3)) (.cells #[.int .i64 u] 3)
    rw [World.size_alloc] at h
    rw [hW, cell_of_row _ _ _ _ _ _ h]
    rfl
  have HC := Lib.hid (containsF W B nt ct w.heap.size (w.heap.size + 1) A2 times f u (hr2.below bW hB) hnt h1 h2)
  have HB := Lib.hid bW
  have HW := Lib.hid hW
  rw [hW] at HC
  clear hr2 hW bW h1 h2
  go_enter Try.func89, Try.ntmps89
  go_wp2_with fail
  go_at_call 96
  refine Calls.mono HC.out ?_
  rw [← HW.out]
  rintro e w2 ⟨rfl, rfl⟩
  go_wp2
  go_ret
  exact ⟨rfl, HB.out⟩

end Go.Proofs.Ytjjalagmlbaafaa.W
