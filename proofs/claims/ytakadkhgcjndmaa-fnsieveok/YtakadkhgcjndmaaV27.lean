/-
  Contract of the model's SieveSize, at every filter that Go can hold.
-/
import Derived.Test.YtakadkhgcjndmaaJ6
namespace Go.Proofs.Ytakadkhgcjndmaa.W
open Go.RowKit K

/-- what SieveSize answers -/
def sizeO (L M_ F : ByteArray) (l : List ByteArray) (keep : Int) : Int := if svB L M_ F l keep = true then (L.size : Int) else -1

set_option maxHeartbeats 1000000 in
theorem sizeSv (L M_ F : ByteArray) (A : Option Addr) (n c : Nat) (l : List ByteArray) (keep : Int) (w : World) (hL : L.size ≤ maxLen) (hM : M_.size ≤ maxLen) (hF : F.size ≤ maxLen) (hr : Strs w w.heap.size A n l) (hnc : n ≤ c) (hc : c ≤ maxLen) (hfit : ∀ i (h : i < l.length), l[i].size ≤ 1000000000000) :
    Calls Try.prog 56 #[.agg #[.string L, .string M_, .string F, .slice A n c, .int .i64 keep]] w fun e w' => e = .returned (.int .i64 (sizeO L M_ F l keep)) ∧ Below w.heap.size w w' := by
  have hbw : Below w.heap.size w (w.alloc (.cells #[.string L, .string M_, .string F, .slice A n c, .int .i64 keep] 27)) := (Below.refl _ _).alloc (Nat.le_refl _) _
  have HV := Lib.hid (okSv L M_ F A n c l keep _ hL hM hF ((hr.below hbw (Nat.le_refl _)).more hbw.size) hnc hc hfit)
  clear hr hfit hbw
  rcases Bool.eq_false_or_eq_true (svB L M_ F l keep) with h1 | h1
  · have HS := Lib.hid (show sizeO L M_ F l keep = (L.size : Int) by unfold sizeO; rw [if_pos h1])
    rw [h1] at HV
    clear h1
    go_enter Try.func56, Try.ntmps56
    go_wp2_with fail
    go_at_call 39
    refine HV.out.mono ?_
    rintro e w1 ⟨rfl, hb1⟩
    have hbx : w1.heap[w.heap.size]? = some (.cells #[.string L, .string M_, .string F, .slice A n c, .int .i64 keep] 27 (0, 0)) := by rw [hb1.block _ (by simp)]; exact heap_alloc_new _ _
    have b0 : w1.cell? ⟨w.heap.size, 0, none⟩ = some (.string L) := by rw [cell_of_row _ _ _ _ _ _ hbx]; rfl
    have HBB := Lib.hid (((Below.refl w.heap.size w).alloc (Nat.le_refl _) (.cells #[.string L, .string M_, .string F, .slice A n c, .int .i64 keep] 27)).trans (hb1.mono (by simp)))
    clear hb1 hbx
    go_wp2
    go_ret
    exact ⟨ret_int HS.out.symm, HBB.out⟩
  · have HS := Lib.hid (show sizeO L M_ F l keep = -1 by unfold sizeO; rw [if_neg (by rw [h1]; decide)])
    rw [h1] at HV
    clear h1
    go_enter Try.func56, Try.ntmps56
    go_wp2_with fail
    go_at_call 39
    refine HV.out.mono ?_
    rintro e w1 ⟨rfl, hb1⟩
    have HBB := Lib.hid (((Below.refl w.heap.size w).alloc (Nat.le_refl _) (.cells #[.string L, .string M_, .string F, .slice A n c, .int .i64 keep] 27)).trans (hb1.mono (by simp)))
    clear hb1
    go_wp2
    go_ret
    exact ⟨ret_int HS.out.symm, HBB.out⟩

end Go.Proofs.Ytakadkhgcjndmaa.W
