/-
  A filter and a key are drawn for a law: once more, by another name.
-/
import Derived.Test.YtakadkhgcjndmaaDS5
namespace Go.Proofs.Ytakadkhgcjndmaa.W
open Go.RowKit K

set_option maxHeartbeats 4000000 in
theorem drawSeek (w : World) (A : Option Addr) (n c : Nat) (hb : Bytes w w.heap.size A n) (hnc : n ≤ c) (hc : c ≤ maxLen) :
    Calls Try.prog 51 #[.slice A n c] w (FltK w) := by
  obtain ⟨W0, hW0⟩ : ∃ W0, W0 = w.alloc (.cells #[.string ⟨#[]⟩, .string ⟨#[]⟩, .string ⟨#[]⟩, .slice none 0 0, .int .i64 0] 27) := ⟨_, rfl⟩
  have hs0 : W0.heap.size = w.heap.size + 1 := by rw [hW0]; simp
  have hbw : Below w.heap.size w W0 := by rw [hW0]; exact (Below.refl _ _).alloc (Nat.le_refl _) _
  have HX0 := Lib.hid (show W0.heap[w.heap.size]? = some (.cells #[.string ⟨#[]⟩, .string ⟨#[]⟩, .string ⟨#[]⟩, .slice none 0 0, .int .i64 0] 27 (0, 0)) by rw [hW0]; exact heap_alloc_new _ _)
  have HK := Lib.hid (drawHas W0 A n c (bytes_up hb hbw) hnc hc)
  have HB0 := Lib.hid hbw
  rw [hW0] at HK
  have HW0 := Lib.hid hW0
  clear hb hW0 hbw
  go_enter Try.func51, Try.ntmps51
  go_wp2_with fail
  go_at_call 43
  refine HK.out.mono ?_
  rw [← HW0.out]
  rintro e w1 ⟨L, M_, F, R, keep, A2, c2, k, rfl, hk, hfm⟩
  have HX1 := Lib.hid (show w1.heap[w.heap.size]? = some (.cells #[.string ⟨#[]⟩, .string ⟨#[]⟩, .string ⟨#[]⟩, .slice none 0 0, .int .i64 0] 27 (0, 0)) by rw [hfm.below.block _ (by omega)]; exact HX0.out)
  have HFM := Lib.hid (show FltM w w1 L M_ F R keep A2 c2 from ⟨hfm.szL, hfm.szM, hfm.szF, hfm.szR, hfm.szS, hfm.k1, hfm.k2, hfm.own.base HB0.out.size, HB0.out.trans (hfm.below.mono HB0.out.size)⟩)
  have HKK := Lib.hid hk
  clear hk hfm HK
  have q0 : w1.cell? ⟨w.heap.size, 0, none⟩ = some (.string ⟨#[]⟩) := by rw [cell_of_row _ _ _ _ _ _ HX1.out]; rfl
  have qz0 : w1.frozen? ⟨w.heap.size, 0, none⟩ = false := by rw [frozen_of_row _ _ _ _ _ HX1.out]
  have q1 : w1.cell? ⟨w.heap.size, 1, none⟩ = some (.string ⟨#[]⟩) := by rw [cell_of_row _ _ _ _ _ _ HX1.out]; rfl
  have qz1 : w1.frozen? ⟨w.heap.size, 1, none⟩ = false := by rw [frozen_of_row _ _ _ _ _ HX1.out]
  have q2 : w1.cell? ⟨w.heap.size, 2, none⟩ = some (.string ⟨#[]⟩) := by rw [cell_of_row _ _ _ _ _ _ HX1.out]; rfl
  have qz2 : w1.frozen? ⟨w.heap.size, 2, none⟩ = false := by rw [frozen_of_row _ _ _ _ _ HX1.out]
  have q3 : w1.cell? ⟨w.heap.size, 3, none⟩ = some (.slice none 0 0) := by rw [cell_of_row _ _ _ _ _ _ HX1.out]; rfl
  have qz3 : w1.frozen? ⟨w.heap.size, 3, none⟩ = false := by rw [frozen_of_row _ _ _ _ _ HX1.out]
  have q4 : w1.cell? ⟨w.heap.size, 4, none⟩ = some (.int .i64 0) := by rw [cell_of_row _ _ _ _ _ _ HX1.out]; rfl
  have qz4 : w1.frozen? ⟨w.heap.size, 4, none⟩ = false := by rw [frozen_of_row _ _ _ _ _ HX1.out]
  go_wp2
  refine bodyPost_ret (v := .tuple #[.agg #[.string L, .string M_, .string F, .slice A2 R.length c2, .int .i64 keep], .string k]) ?_ rfl ⟨L, M_, F, R, keep, A2, c2, k, rfl, HKK.out, ?_⟩
  · exact ret_pair rfl _ _ w.heap.size _ _ rfl rfl (load_sieve (box_five HX1.out _ _ _ _ _))
  · exact fltM_five HFM.out HX1.out (Nat.le_refl _) _ _ _ _ _

end Go.Proofs.Ytakadkhgcjndmaa.W
