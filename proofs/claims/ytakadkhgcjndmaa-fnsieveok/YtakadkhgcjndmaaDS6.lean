/-
  The contracts of the other functions that draw filters for the laws: with two keys.
-/
import Derived.Test.YtakadkhgcjndmaaDS5
namespace Go.Proofs.Ytakadkhgcjndmaa.W
open Go.RowKit K

theorem results_cell_two {fn : Func} {p u v : Tmp} {ty : TypeId} (h : fn.results = #[.cell p ty, .tmp u, .tmp v]) (tmps : Array Value) (w : World) (g : Nat) (cs : Array Value) (x y : Value)
    (hp : tmps.getD p undef = .pointer (some ⟨g, 0, none⟩)) (hx : tmps.getD u undef = x) (hy : tmps.getD v undef = y) (hl : (loadVar ty ⟨g, 0, none⟩).run Try.prog w = .ok (.agg cs) w) :
    (results fn tmps).run Try.prog w = .ok (.tuple #[.agg cs, x, y]) w := by
  have e : (results fn tmps).run Try.prog w = ((asAddr (tmps.getD p undef)).run Try.prog w).andThen fun a w₁ => ((loadVar ty a).run Try.prog w₁).andThen fun b w₂ => .ok (.tuple #[b, tmps.getD u undef, tmps.getD v undef]) w₂ := by
    simp only [results, h]
    simp [Sem.run_bind, Result.andThen]
  rw [e, hp, hx, hy]
  simp [asAddr, Result.andThen, hl]

set_option maxHeartbeats 4000000 in
theorem drawMeets (w : World) (A : Option Addr) (n c : Nat) (hb : Bytes w w.heap.size A n) (hnc : n ≤ c) (hc : c ≤ maxLen) :
    Calls Try.prog 49 #[.slice A n c] w (FltKK w) := by
  obtain ⟨W0, hW0⟩ : ∃ W0, W0 = w.alloc (.cells #[.string ⟨#[]⟩, .string ⟨#[]⟩, .string ⟨#[]⟩, .slice none 0 0, .int .i64 0] 27) := ⟨_, rfl⟩
  have hs0 : W0.heap.size = w.heap.size + 1 := by rw [hW0]; simp
  have hbw : Below w.heap.size w W0 := by rw [hW0]; exact (Below.refl _ _).alloc (Nat.le_refl _) _
  have HX0 := Lib.hid (show W0.heap[w.heap.size]? = some (.cells #[.string ⟨#[]⟩, .string ⟨#[]⟩, .string ⟨#[]⟩, .slice none 0 0, .int .i64 0] 27 (0, 0)) by rw [hW0]; exact heap_alloc_new _ _)
  have HK := Lib.hid (openR W0 A n c (bytes_up hb hbw) hnc hc)
  have HB0 := Lib.hid hbw
  rw [hW0] at HK
  have HW0 := Lib.hid hW0
  clear hb hW0 hbw
  go_enter Try.func49, Try.ntmps49
  go_wp2_with fail
  go_at_call 68
  refine HK.out.mono ?_
  rw [← HW0.out]
  rintro e w1 ⟨A1, n1, c1, rfl, hr1, hb1⟩
  rw [hs0] at hr1
  rw [hs0]
  have HX1 := Lib.hid (show w1.heap[w.heap.size]? = some (.cells #[.string ⟨#[]⟩, .string ⟨#[]⟩, .string ⟨#[]⟩, .slice none 0 0, .int .i64 0] 27 (0, 0)) by rw [hb1.block _ (by omega)]; exact HX0.out)
  have HB1 := Lib.hid (HB0.out.trans (hb1.mono HB0.out.size))
  have HR1 := Lib.hid hr1
  have hgl : w.heap.size + 1 < w1.heap.size := (Array.getElem?_eq_some_iff.1 hr1.blk).1
  clear hr1 hb1 HK
  go_wp2_with fail
  go_at_call 84
  refine (bentD w1 (w.heap.size + 1) 0 n1 c1 A1 HR1.out (by omega)).mono ?_
  rintro e w2 ⟨L, M_, F, R, keep, A2, c2, l, V, cc, B2, p2, rfl, hp2, S2⟩
  have hsz2 := S2.grown.size
  have HX2 := Lib.hid (show w2.heap[w.heap.size]? = some (.cells #[.string ⟨#[]⟩, .string ⟨#[]⟩, .string ⟨#[]⟩, .slice none 0 0, .int .i64 0] 27 (0, 0)) by rw [S2.grown.block _ (by omega) (fun e => by injection e; omega)]; exact HX1.out)
  have HB2 := Lib.hid (HB1.out.grown S2.grown HB1.out.size (fun k e => by injection e; omega))
  have HS2 := Lib.hid S2
  clear S2
  obtain ⟨W2, hW2⟩ : ∃ W2, W2 = w2.alloc (.cells #[.string L, .string M_, .string F, .slice A2 R.length c2, .int .i64 keep] 27) := ⟨_, rfl⟩
  have HS2b := Lib.hid (show SvM 300 w1 W2 (w.heap.size + 1) p2 n1 c1 A1 L M_ F R keep A2 c2 l V cc B2 by rw [hW2]; exact HS2.out.alloc _)
  have HX2b := Lib.hid (show W2.heap[w.heap.size]? = some (.cells #[.string ⟨#[]⟩, .string ⟨#[]⟩, .string ⟨#[]⟩, .slice none 0 0, .int .i64 0] 27 (0, 0)) by rw [hW2]; exact box_al HX2.out _)
  have HY2b := Lib.hid (show W2.heap[w2.heap.size]? = some (.cells #[.string L, .string M_, .string F, .slice A2 R.length c2, .int .i64 keep] 27 (0, 0)) by rw [hW2]; exact heap_alloc_new _ _)
  have hsz2b : W2.heap.size = w2.heap.size + 1 := by rw [hW2]; simp
  have HW2 := Lib.hid hW2
  clear hW2
  go_upto_region 3 with fail
  rw [← HW2.out]
  go_wp2_with fail
  go_at_call 92
  refine (nearK W2 (w.heap.size + 1) p2 n1 c1 A1 W2.heap.size l.length cc V l HS2b.out.rd (by omega) HS2b.out.keys.strs.1 (Nat.le_refl _) (HS2b.out.keys.far (by omega)) HS2.out.ks (by have := HS2.out.kl; omega)).mono ?_
  rintro e w3 ⟨a, q3, hka, hq3, rfl, hr3, hg3⟩
  have HS3 := Lib.hid (HS2b.out.next hg3 (by omega) hr3)
  have hsz3 := hg3.size
  have HX3 := Lib.hid (show w3.heap[w.heap.size]? = some (.cells #[.string ⟨#[]⟩, .string ⟨#[]⟩, .string ⟨#[]⟩, .slice none 0 0, .int .i64 0] 27 (0, 0)) by rw [hg3.block _ (by omega) (fun e => by injection e; omega)]; exact HX2b.out)
  have HY3 := Lib.hid (show w3.heap[w2.heap.size]? = some (.cells #[.string L, .string M_, .string F, .slice A2 R.length c2, .int .i64 keep] 27 (0, 0)) by rw [hg3.block _ (by omega) (fun e => by injection e; omega)]; exact HY2b.out)
  have HKA := Lib.hid hka
  clear hka hr3 hg3 HS2b HX2b HY2b
  go_wp2_with fail
  go_at_call 92
  refine (nearK w3 (w.heap.size + 1) q3 n1 c1 A1 w3.heap.size l.length cc V l HS3.out.rd (by omega) HS3.out.keys.strs.1 (Nat.le_refl _) (HS3.out.keys.far (by omega)) HS2.out.ks (by have := HS2.out.kl; omega)).mono ?_
  rintro e w4 ⟨b, q4, hkb, hq4, rfl, hr4, hg4⟩
  have HS4 := Lib.hid (HS3.out.next hg4 (by omega) hr4)
  have hsz4 := hg4.size
  have HX4 := Lib.hid (show w4.heap[w.heap.size]? = some (.cells #[.string ⟨#[]⟩, .string ⟨#[]⟩, .string ⟨#[]⟩, .slice none 0 0, .int .i64 0] 27 (0, 0)) by rw [hg4.block _ (by omega) (fun e => by injection e; omega)]; exact HX3.out)
  have HY4 := Lib.hid (show w4.heap[w2.heap.size]? = some (.cells #[.string L, .string M_, .string F, .slice A2 R.length c2, .int .i64 keep] 27 (0, 0)) by rw [hg4.block _ (by omega) (fun e => by injection e; omega)]; exact HY3.out)
  have HKB := Lib.hid hkb
  clear hkb hr4 hg4 HS3 HX3 HY3
  have y0 : w4.cell? ⟨w.heap.size, 0, none⟩ = some (.string ⟨#[]⟩) := by rw [cell_of_row _ _ _ _ _ _ HX4.out]; rfl
  have yz0 : w4.frozen? ⟨w.heap.size, 0, none⟩ = false := by rw [frozen_of_row _ _ _ _ _ HX4.out]
  have y1 : w4.cell? ⟨w.heap.size, 1, none⟩ = some (.string ⟨#[]⟩) := by rw [cell_of_row _ _ _ _ _ _ HX4.out]; rfl
  have yz1 : w4.frozen? ⟨w.heap.size, 1, none⟩ = false := by rw [frozen_of_row _ _ _ _ _ HX4.out]
  have y2 : w4.cell? ⟨w.heap.size, 2, none⟩ = some (.string ⟨#[]⟩) := by rw [cell_of_row _ _ _ _ _ _ HX4.out]; rfl
  have yz2 : w4.frozen? ⟨w.heap.size, 2, none⟩ = false := by rw [frozen_of_row _ _ _ _ _ HX4.out]
  have y3 : w4.cell? ⟨w.heap.size, 3, none⟩ = some (.slice none 0 0) := by rw [cell_of_row _ _ _ _ _ _ HX4.out]; rfl
  have yz3 : w4.frozen? ⟨w.heap.size, 3, none⟩ = false := by rw [frozen_of_row _ _ _ _ _ HX4.out]
  have y4 : w4.cell? ⟨w.heap.size, 4, none⟩ = some (.int .i64 0) := by rw [cell_of_row _ _ _ _ _ _ HX4.out]; rfl
  have yz4 : w4.frozen? ⟨w.heap.size, 4, none⟩ = false := by rw [frozen_of_row _ _ _ _ _ HX4.out]
  have v0 : w4.cell? ⟨w2.heap.size, 0, none⟩ = some (.string L) := by rw [cell_of_row _ _ _ _ _ _ HY4.out]; rfl
  have vz0 : w4.frozen? ⟨w2.heap.size, 0, none⟩ = false := by rw [frozen_of_row _ _ _ _ _ HY4.out]
  have v1 : w4.cell? ⟨w2.heap.size, 1, none⟩ = some (.string M_) := by rw [cell_of_row _ _ _ _ _ _ HY4.out]; rfl
  have vz1 : w4.frozen? ⟨w2.heap.size, 1, none⟩ = false := by rw [frozen_of_row _ _ _ _ _ HY4.out]
  have v2 : w4.cell? ⟨w2.heap.size, 2, none⟩ = some (.string F) := by rw [cell_of_row _ _ _ _ _ _ HY4.out]; rfl
  have vz2 : w4.frozen? ⟨w2.heap.size, 2, none⟩ = false := by rw [frozen_of_row _ _ _ _ _ HY4.out]
  have v3 : w4.cell? ⟨w2.heap.size, 3, none⟩ = some (.slice A2 R.length c2) := by rw [cell_of_row _ _ _ _ _ _ HY4.out]; rfl
  have vz3 : w4.frozen? ⟨w2.heap.size, 3, none⟩ = false := by rw [frozen_of_row _ _ _ _ _ HY4.out]
  have v4 : w4.cell? ⟨w2.heap.size, 4, none⟩ = some (.int .i64 keep) := by rw [cell_of_row _ _ _ _ _ _ HY4.out]; rfl
  have vz4 : w4.frozen? ⟨w2.heap.size, 4, none⟩ = false := by rw [frozen_of_row _ _ _ _ _ HY4.out]
  rcases Bool.eq_false_or_eq_true (!Op.bytesLess a.toList b.toList && !(a.toList == b.toList)) with h1 | h1
  · go_wp2_with fail
    go_at_call 70
    refine (pick w4 (w.heap.size + 1) q4 n1 c1 A1 8 HS4.out.rd (by omega) (by omega)).mono ?_
    rintro e w5 ⟨z, rfl, hz0, hz1, hr5, hg5⟩
    have HS5 := Lib.hid (HS4.out.next hg5 (by omega) hr5)
    have hsz5 := hg5.size
    have HX5 := Lib.hid (show w5.heap[w.heap.size]? = some (.cells #[.string ⟨#[]⟩, .string ⟨#[]⟩, .string ⟨#[]⟩, .slice none 0 0, .int .i64 0] 27 (0, 0)) by rw [hg5.block _ (by omega) (fun e => by injection e; omega)]; exact HX4.out)
    have HY5 := Lib.hid (show w5.heap[w2.heap.size]? = some (.cells #[.string L, .string M_, .string F, .slice A2 R.length c2, .int .i64 keep] 27 (0, 0)) by rw [hg5.block _ (by omega) (fun e => by injection e; omega)]; exact HY4.out)
    clear hr5 hg5 hz1 HS4 HX4 HY4
    have y50 : w5.cell? ⟨w.heap.size, 0, none⟩ = some (.string ⟨#[]⟩) := by rw [cell_of_row _ _ _ _ _ _ HX5.out]; rfl
    have y5z0 : w5.frozen? ⟨w.heap.size, 0, none⟩ = false := by rw [frozen_of_row _ _ _ _ _ HX5.out]
    have y51 : w5.cell? ⟨w.heap.size, 1, none⟩ = some (.string ⟨#[]⟩) := by rw [cell_of_row _ _ _ _ _ _ HX5.out]; rfl
    have y5z1 : w5.frozen? ⟨w.heap.size, 1, none⟩ = false := by rw [frozen_of_row _ _ _ _ _ HX5.out]
    have y52 : w5.cell? ⟨w.heap.size, 2, none⟩ = some (.string ⟨#[]⟩) := by rw [cell_of_row _ _ _ _ _ _ HX5.out]; rfl
    have y5z2 : w5.frozen? ⟨w.heap.size, 2, none⟩ = false := by rw [frozen_of_row _ _ _ _ _ HX5.out]
    have y53 : w5.cell? ⟨w.heap.size, 3, none⟩ = some (.slice none 0 0) := by rw [cell_of_row _ _ _ _ _ _ HX5.out]; rfl
    have y5z3 : w5.frozen? ⟨w.heap.size, 3, none⟩ = false := by rw [frozen_of_row _ _ _ _ _ HX5.out]
    have y54 : w5.cell? ⟨w.heap.size, 4, none⟩ = some (.int .i64 0) := by rw [cell_of_row _ _ _ _ _ _ HX5.out]; rfl
    have y5z4 : w5.frozen? ⟨w.heap.size, 4, none⟩ = false := by rw [frozen_of_row _ _ _ _ _ HX5.out]
    have v50 : w5.cell? ⟨w2.heap.size, 0, none⟩ = some (.string L) := by rw [cell_of_row _ _ _ _ _ _ HY5.out]; rfl
    have v5z0 : w5.frozen? ⟨w2.heap.size, 0, none⟩ = false := by rw [frozen_of_row _ _ _ _ _ HY5.out]
    have v51 : w5.cell? ⟨w2.heap.size, 1, none⟩ = some (.string M_) := by rw [cell_of_row _ _ _ _ _ _ HY5.out]; rfl
    have v5z1 : w5.frozen? ⟨w2.heap.size, 1, none⟩ = false := by rw [frozen_of_row _ _ _ _ _ HY5.out]
    have v52 : w5.cell? ⟨w2.heap.size, 2, none⟩ = some (.string F) := by rw [cell_of_row _ _ _ _ _ _ HY5.out]; rfl
    have v5z2 : w5.frozen? ⟨w2.heap.size, 2, none⟩ = false := by rw [frozen_of_row _ _ _ _ _ HY5.out]
    have v53 : w5.cell? ⟨w2.heap.size, 3, none⟩ = some (.slice A2 R.length c2) := by rw [cell_of_row _ _ _ _ _ _ HY5.out]; rfl
    have v5z3 : w5.frozen? ⟨w2.heap.size, 3, none⟩ = false := by rw [frozen_of_row _ _ _ _ _ HY5.out]
    have v54 : w5.cell? ⟨w2.heap.size, 4, none⟩ = some (.int .i64 keep) := by rw [cell_of_row _ _ _ _ _ _ HY5.out]; rfl
    have v5z4 : w5.frozen? ⟨w2.heap.size, 4, none⟩ = false := by rw [frozen_of_row _ _ _ _ _ HY5.out]
    by_cases hz : 0 < z
    · go_wp2
      refine bodyPost_ret (v := .tuple #[.agg #[.string L, .string M_, .string F, .slice A2 R.length c2, .int .i64 keep], .string b, .string a]) ?_ rfl ⟨L, M_, F, R, keep, A2, c2, b, a, rfl, HKB.out, HKA.out, ?_⟩
      · exact results_cell_two rfl _ _ w.heap.size _ _ _ rfl rfl rfl (load_sieve (box_five HX5.out _ _ _ _ _))
      · exact fltM_five (fltM HS5.out (by omega) (by omega) HB1.out) HX5.out (Nat.le_refl _) _ _ _ _ _
    · go_wp2
      refine bodyPost_ret (v := .tuple #[.agg #[.string L, .string M_, .string F, .slice A2 R.length c2, .int .i64 keep], .string a, .string b]) ?_ rfl ⟨L, M_, F, R, keep, A2, c2, a, b, rfl, HKA.out, HKB.out, ?_⟩
      · exact results_cell_two rfl _ _ w.heap.size _ _ _ rfl rfl rfl (load_sieve (box_five HX5.out _ _ _ _ _))
      · exact fltM_five (fltM HS5.out (by omega) (by omega) HB1.out) HX5.out (Nat.le_refl _) _ _ _ _ _
  · go_wp2
    refine bodyPost_ret (v := .tuple #[.agg #[.string L, .string M_, .string F, .slice A2 R.length c2, .int .i64 keep], .string a, .string b]) ?_ rfl ⟨L, M_, F, R, keep, A2, c2, a, b, rfl, HKA.out, HKB.out, ?_⟩
    · exact results_cell_two rfl _ _ w.heap.size _ _ _ rfl rfl rfl (load_sieve (box_five HX4.out _ _ _ _ _))
    · exact fltM_five (fltM HS4.out (by omega) (by omega) HB1.out) HX4.out (Nat.le_refl _) _ _ _ _ _

end Go.Proofs.Ytakadkhgcjndmaa.W
