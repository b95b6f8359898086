/-
  A filter is drawn for a law, some with a letter turned.
-/
import Derived.Test.YtakadkhgcjndmaaDS6
import Derived.Deep.RegionWith
namespace Go.Proofs.Ytakadkhgcjndmaa.W
open Go.RowKit K

def one1 (s : ByteArray) : Prop := s.size ≤ 1

set_option maxHeartbeats 8000000 in
set_option maxRecDepth 100000 in
theorem drawOk (w : World) (A : Option Addr) (n c : Nat) (hb : Bytes w w.heap.size A n) (hnc : n ≤ c) (hc : c ≤ maxLen) :
    Calls Try.prog 40 #[.slice A n c] w (FltD w) := by
  obtain ⟨W0, hW0⟩ : ∃ W0, W0 = w.alloc (.cells #[.string ⟨#[]⟩, .string ⟨#[]⟩, .string ⟨#[]⟩, .slice none 0 0, .int .i64 0] 27) := ⟨_, rfl⟩
  have hs0 : W0.heap.size = w.heap.size + 1 := by rw [hW0]; simp
  have hbw : Below w.heap.size w W0 := by rw [hW0]; exact (Below.refl _ _).alloc (Nat.le_refl _) _
  have HX0 := Lib.hid (show W0.heap[w.heap.size]? = some (.cells #[.string ⟨#[]⟩, .string ⟨#[]⟩, .string ⟨#[]⟩, .slice none 0 0, .int .i64 0] 27 (0, 0)) by rw [hW0]; exact heap_alloc_new _ _)
  have HK := Lib.hid (openR W0 A n c (bytes_up hb hbw) hnc hc)
  have HB0 := Lib.hid hbw
  rw [hW0] at HK
  have HW0 := Lib.hid hW0
  clear hb hW0 hbw
  go_enter Try.func40, Try.ntmps40
  go_wp2_with fail
  go_at_call 68
  refine HK.out.mono ?_
  rw [← HW0.out]
  rintro e w1 ⟨A1, n1, c1, rfl, hr1, hb1⟩
  rw [hs0] at hr1
  rw [hs0]
  have HX1 := Lib.hid (show w1.heap[w.heap.size]? = some (.cells #[.string ⟨#[]⟩, .string ⟨#[]⟩, .string ⟨#[]⟩, .slice none 0 0, .int .i64 0] 27 (0, 0)) by rw [hb1.block _ (by omega)]; exact HX0.out)
  have HB1 := Lib.hid (HB0.out.trans (hb1.mono HB0.out.size))
  have HR1 := Lib.hid hr1
  have hgl : w.heap.size + 1 < w1.heap.size := (Array.getElem?_eq_some_iff.1 hr1.blk).1
  clear hr1 hb1 HK
  go_wp2_with fail
  go_at_call 84
  refine (bentD w1 (w.heap.size + 1) 0 n1 c1 A1 HR1.out (by omega)).mono ?_
  rintro e w2 ⟨L, M_, F, R, keep, A2, c2, l, V, cc, B2, p2, rfl, hp2, S2⟩
  have hsz2 := S2.grown.size
  have hx2 : w2.heap[w.heap.size]? = some (.cells #[.string ⟨#[]⟩, .string ⟨#[]⟩, .string ⟨#[]⟩, .slice none 0 0, .int .i64 0] 27 (0, 0)) := by rw [S2.grown.block _ (by omega) (fun e => by injection e; omega)]; exact HX1.out
  obtain ⟨W2, hW2⟩ : ∃ W2, W2 = w2.alloc (.cells #[.string L, .string M_, .string F, .slice A2 R.length c2, .int .i64 keep] 27) := ⟨_, rfl⟩
  have HS2 := Lib.hid (show SvM 300 w1 W2 (w.heap.size + 1) p2 n1 c1 A1 L M_ F R keep A2 c2 l V cc B2 by rw [hW2]; exact S2.alloc _)
  have HX2 := Lib.hid (show W2.heap[w.heap.size]? = some (.cells #[.string ⟨#[]⟩, .string ⟨#[]⟩, .string ⟨#[]⟩, .slice none 0 0, .int .i64 0] 27 (0, 0)) by rw [hW2]; exact box_al hx2 _)
  have HY2 := Lib.hid (show W2.heap[w2.heap.size]? = some (.cells #[.string L, .string M_, .string F, .slice A2 R.length c2, .int .i64 keep] 27 (0, 0)) by rw [hW2]; exact heap_alloc_new _ _)
  have hsz2b : W2.heap.size = w2.heap.size + 1 := by rw [hW2]; simp
  have HPK := Lib.hid (pick W2 (w.heap.size + 1) p2 n1 c1 A1 3 HS2.out.rd (by omega) (by omega))
  have HW2 := Lib.hid hW2
  rw [hW2] at HPK
  clear S2 hx2 hW2
  go_wp2_with fail
  go_at_call 70
  refine HPK.out.mono ?_
  rw [← HW2.out]
  rintro e w3 ⟨x, rfl, hx0, hx1, hr3, hg3⟩
  have hsz3 := hg3.size
  have HS3 := Lib.hid (HS2.out.next hg3 (by omega) hr3)
  have HX3 := Lib.hid (show w3.heap[w.heap.size]? = some (.cells #[.string ⟨#[]⟩, .string ⟨#[]⟩, .string ⟨#[]⟩, .slice none 0 0, .int .i64 0] 27 (0, 0)) by rw [hg3.block _ (by omega) (fun e => by injection e; omega)]; exact HX2.out)
  have HY3 := Lib.hid (show w3.heap[w2.heap.size]? = some (.cells #[.string L, .string M_, .string F, .slice A2 R.length c2, .int .i64 keep] 27 (0, 0)) by rw [hg3.block _ (by omega) (fun e => by injection e; omega)]; exact HY2.out)
  clear hr3 hg3 HPK HS2 HX2 HY2
  have a0 : w3.cell? ⟨w2.heap.size, 0, none⟩ = some (.string L) := by rw [cell_of_row _ _ _ _ _ _ HY3.out]; rfl
  have az0 : w3.frozen? ⟨w2.heap.size, 0, none⟩ = false := by rw [frozen_of_row _ _ _ _ _ HY3.out]
  have a1 : w3.cell? ⟨w2.heap.size, 1, none⟩ = some (.string M_) := by rw [cell_of_row _ _ _ _ _ _ HY3.out]; rfl
  have az1 : w3.frozen? ⟨w2.heap.size, 1, none⟩ = false := by rw [frozen_of_row _ _ _ _ _ HY3.out]
  have a2 : w3.cell? ⟨w2.heap.size, 2, none⟩ = some (.string F) := by rw [cell_of_row _ _ _ _ _ _ HY3.out]; rfl
  have az2 : w3.frozen? ⟨w2.heap.size, 2, none⟩ = false := by rw [frozen_of_row _ _ _ _ _ HY3.out]
  have a3 : w3.cell? ⟨w2.heap.size, 3, none⟩ = some (.slice A2 R.length c2) := by rw [cell_of_row _ _ _ _ _ _ HY3.out]; rfl
  have az3 : w3.frozen? ⟨w2.heap.size, 3, none⟩ = false := by rw [frozen_of_row _ _ _ _ _ HY3.out]
  have a4 : w3.cell? ⟨w2.heap.size, 4, none⟩ = some (.int .i64 keep) := by rw [cell_of_row _ _ _ _ _ _ HY3.out]; rfl
  have az4 : w3.frozen? ⟨w2.heap.size, 4, none⟩ = false := by rw [frozen_of_row _ _ _ _ _ HY3.out]
  by_cases hcs : x = 0 ∧ 0 < L.size
  · obtain ⟨rfl, hLp⟩ := hcs
    have hLp' : (0 : Int) < (L.size : Int) := by omega
    go_wp2_with fail
    go_at_call 70
    refine (pick w3 (w.heap.size + 1) (p2 + 1) n1 c1 A1 (L.size : Int) HS3.out.rd (by omega) (by have := HS3.out.szL; omega)).mono ?_
    rintro e w4 ⟨y, rfl, hy0, hy1, hr4, hg4⟩
    obtain ⟨Y, rfl⟩ := Int.eq_ofNat_of_zero_le hy0
    have hY : Y < L.size := by omega
    have hsz4 := hg4.size
    have HS4 := Lib.hid (HS3.out.next hg4 (by omega) hr4)
    have HX4 := Lib.hid (show w4.heap[w.heap.size]? = some (.cells #[.string ⟨#[]⟩, .string ⟨#[]⟩, .string ⟨#[]⟩, .slice none 0 0, .int .i64 0] 27 (0, 0)) by rw [hg4.block _ (by omega) (fun e => by injection e; omega)]; exact HX3.out)
    have HY4 := Lib.hid (show w4.heap[w2.heap.size]? = some (.cells #[.string L, .string M_, .string F, .slice A2 R.length c2, .int .i64 keep] 27 (0, 0)) by rw [hg4.block _ (by omega) (fun e => by injection e; omega)]; exact HY3.out)
    clear hr4 hg4 HS3 HX3 HY3 a0 az0 a1 az1 a2 az2 a3 az3 a4 az4 hy0 hy1 hx0 hx1
    have a0 : w4.cell? ⟨w2.heap.size, 0, none⟩ = some (.string L) := by rw [cell_of_row _ _ _ _ _ _ HY4.out]; rfl
    have az0 : w4.frozen? ⟨w2.heap.size, 0, none⟩ = false := by rw [frozen_of_row _ _ _ _ _ HY4.out]
    have a1 : w4.cell? ⟨w2.heap.size, 1, none⟩ = some (.string M_) := by rw [cell_of_row _ _ _ _ _ _ HY4.out]; rfl
    have az1 : w4.frozen? ⟨w2.heap.size, 1, none⟩ = false := by rw [frozen_of_row _ _ _ _ _ HY4.out]
    have a2 : w4.cell? ⟨w2.heap.size, 2, none⟩ = some (.string F) := by rw [cell_of_row _ _ _ _ _ _ HY4.out]; rfl
    have az2 : w4.frozen? ⟨w2.heap.size, 2, none⟩ = false := by rw [frozen_of_row _ _ _ _ _ HY4.out]
    have a3 : w4.cell? ⟨w2.heap.size, 3, none⟩ = some (.slice A2 R.length c2) := by rw [cell_of_row _ _ _ _ _ _ HY4.out]; rfl
    have az3 : w4.frozen? ⟨w2.heap.size, 3, none⟩ = false := by rw [frozen_of_row _ _ _ _ _ HY4.out]
    have a4 : w4.cell? ⟨w2.heap.size, 4, none⟩ = some (.int .i64 keep) := by rw [cell_of_row _ _ _ _ _ _ HY4.out]; rfl
    have az4 : w4.frozen? ⟨w2.heap.size, 4, none⟩ = false := by rw [frozen_of_row _ _ _ _ _ HY4.out]
    have HOF := Lib.hid (show ∀ W : World, W.heap = (w4.alloc (.cells ([⟨#[97]⟩, ⟨#[100]⟩, ⟨#[45]⟩, ⟨#[120]⟩].map Value.string).toArray 9)).heap → W.os = w4.os ∧ W.tape = w4.tape ∧ W.output = w4.output → Calls Try.prog 88 #[.pointer (some ⟨w.heap.size + 1, 0, none⟩), .slice (some ⟨w4.heap.size, 0, none⟩) 4 4] W fun e w5 => ∃ s q, s.size ≤ 1 ∧ e = .returned (.string s) ∧ SvM 300 w1 w5 (w.heap.size + 1) q n1 c1 A1 L M_ F R keep A2 c2 l V cc B2 ∧ w5.heap[w.heap.size]? = some (.cells #[.string ⟨#[]⟩, .string ⟨#[]⟩, .string ⟨#[]⟩, .slice none 0 0, .int .i64 0] 27 (0, 0)) ∧ w5.heap[w2.heap.size]? = some (.cells #[.string L, .string M_, .string F, .slice A2 R.length c2, .int .i64 keep] 27 (0, 0)) from fun W hW hO => by
      obtain ⟨W4, hW4⟩ : ∃ W4, W4 = w4.alloc (.cells ([⟨#[97]⟩, ⟨#[100]⟩, ⟨#[45]⟩, ⟨#[120]⟩].map Value.string).toArray 9) := ⟨_, rfl⟩
      rw [← hW4] at hW
      have h4 : SvM 300 w1 W4 (w.heap.size + 1) (p2 + 1 + 1) n1 c1 A1 L M_ F R keep A2 c2 l V cc B2 := by rw [hW4]; exact HS4.out.alloc _
      have hs4 : W4.heap.size = w4.heap.size + 1 := by rw [hW4]; simp
      refine (ofR one1 W (w.heap.size + 1) (p2 + 1 + 1) n1 c1 w4.heap.size 4 A1 (Rd.same h4.rd hW) (by omega) (by omega) (by omega) (by omega) (fun i hi => ?_) (by rw [hW, hs4]; omega)).mono ?_
      · obtain ⟨s, h1, h2⟩ := lits_at w4 [⟨#[97]⟩, ⟨#[100]⟩, ⟨#[45]⟩, ⟨#[120]⟩] 9 one1 (by unfold one1; decide) i hi
        exact ⟨s, by rw [← h1, ← hW4]; exact World.cell?_of_block (by rw [hW]), h2⟩
      · rintro e w5 ⟨s, hs, rfl, hr5, hg5⟩
        have hg5' : W4.grownBy w5 (some (w.heap.size + 1)) := grown_pre hg5 hW (by rw [hO.1, hW4]; rfl) (by rw [hO.2.1, hW4]; rfl) (by rw [hO.2.2, hW4]; rfl)
        refine ⟨s, _, hs, rfl, h4.next hg5' (by omega) hr5, ?_, ?_⟩
        · rw [hg5'.block _ (by omega) (fun e => by injection e; omega), hW4]; exact box_al HX4.out _
        · rw [hg5'.block _ (by omega) (fun e => by injection e; omega), hW4]; exact box_al HY4.out _)
    have y0 : (0 : Int) ≤ (Y : Int) := by omega
    have y1 : (Y : Int) ≤ (L.size : Int) := by omega
    have hL300 := HS4.out.szL
    obtain ⟨Y1, hY1⟩ : ∃ x : Nat, x = Y + 1 := ⟨_, rfl⟩
    have hwr : IntKind.i64.wrap ((Y : Int) + 1) = (Y1 : Int) := i64_nat Y1 (by omega) _ (by omega)
    have y2 : (Y1 : Int) ≤ (L.size : Int) := by omega
    have y3 : (0 : Int) ≤ (Y1 : Int) := by omega
    obtain ⟨L1, hE1⟩ : ∃ x, L.extract 0 Y = x := ⟨_, rfl⟩
    obtain ⟨L2, hE2⟩ : ∃ x, L.extract Y1 L.size = x := ⟨_, rfl⟩
    have hz1 : L1.size = Y := by rw [← hE1]; simp; omega
    have hz2 : L2.size = L.size - Y1 := by rw [← hE2]; simp
    have HZ1 := Lib.hid hz1
    have HZ2 := Lib.hid hz2
    have HY1 := Lib.hid hY1
    clear hz1 hz2 hY1
    have b0 : ∀ (W : World) (o : Obj), W.heap = w4.heap → (W.alloc o).cell? ⟨w2.heap.size, 0, none⟩ = some (.string L) := fun W o hW => by rw [cell_of_row _ _ _ _ _ _ (box_al (w := W) (by rw [hW]; exact HY4.out) o)]; rfl
    have b1 : ∀ (d : Nat) (o : Obj), (World.alloc { w4 with drawn := d } o).cell? ⟨w2.heap.size, 0, none⟩ = some (.string L) := fun d o => b0 _ o rfl
    go_wp2_with fail
    go_region_with (go_at_call 88; refine Calls.mono (HOF.out _ (by rfl) ⟨by rfl, by rfl, by rfl⟩) ?_; rintro e w5 ⟨s, q, hs, rfl, S5, hx5, hy5⟩; have HX5 := Lib.hid hx5; have HY5 := Lib.hid hy5; have HS5 := Lib.hid S5; have a0 : w5.cell? ⟨w2.heap.size, 0, none⟩ = some (.string L) := (by rw [cell_of_row _ _ _ _ _ _ hy5]; rfl); have az0 : w5.frozen? ⟨w2.heap.size, 0, none⟩ = false := (by rw [frozen_of_row _ _ _ _ _ hy5]); have a1 : w5.cell? ⟨w2.heap.size, 1, none⟩ = some (.string M_) := (by rw [cell_of_row _ _ _ _ _ _ hy5]; rfl); have az1 : w5.frozen? ⟨w2.heap.size, 1, none⟩ = false := (by rw [frozen_of_row _ _ _ _ _ hy5]); have a2 : w5.cell? ⟨w2.heap.size, 2, none⟩ = some (.string F) := (by rw [cell_of_row _ _ _ _ _ _ hy5]; rfl); have az2 : w5.frozen? ⟨w2.heap.size, 2, none⟩ = false := (by rw [frozen_of_row _ _ _ _ _ hy5]); have a3 : w5.cell? ⟨w2.heap.size, 3, none⟩ = some (.slice A2 R.length c2) := (by rw [cell_of_row _ _ _ _ _ _ hy5]; rfl); have az3 : w5.frozen? ⟨w2.heap.size, 3, none⟩ = false := (by rw [frozen_of_row _ _ _ _ _ hy5]); have a4 : w5.cell? ⟨w2.heap.size, 4, none⟩ = some (.int .i64 keep) := (by rw [cell_of_row _ _ _ _ _ _ hy5]; rfl); have az4 : w5.frozen? ⟨w2.heap.size, 4, none⟩ = false := (by rw [frozen_of_row _ _ _ _ _ hy5]); have q0 : w5.cell? ⟨w.heap.size, 0, none⟩ = some (.string ⟨#[]⟩) := (by rw [cell_of_row _ _ _ _ _ _ hx5]; rfl); have qz0 : w5.frozen? ⟨w.heap.size, 0, none⟩ = false := (by rw [frozen_of_row _ _ _ _ _ hx5]); have q1 : w5.cell? ⟨w.heap.size, 1, none⟩ = some (.string ⟨#[]⟩) := (by rw [cell_of_row _ _ _ _ _ _ hx5]; rfl); have qz1 : w5.frozen? ⟨w.heap.size, 1, none⟩ = false := (by rw [frozen_of_row _ _ _ _ _ hx5]); have q2 : w5.cell? ⟨w.heap.size, 2, none⟩ = some (.string ⟨#[]⟩) := (by rw [cell_of_row _ _ _ _ _ _ hx5]; rfl); have qz2 : w5.frozen? ⟨w.heap.size, 2, none⟩ = false := (by rw [frozen_of_row _ _ _ _ _ hx5]); have q3 : w5.cell? ⟨w.heap.size, 3, none⟩ = some (.slice none 0 0) := (by rw [cell_of_row _ _ _ _ _ _ hx5]; rfl); have qz3 : w5.frozen? ⟨w.heap.size, 3, none⟩ = false := (by rw [frozen_of_row _ _ _ _ _ hx5]); have q4 : w5.cell? ⟨w.heap.size, 4, none⟩ = some (.int .i64 0) := (by rw [cell_of_row _ _ _ _ _ _ hx5]; rfl); have qz4 : w5.frozen? ⟨w.heap.size, 4, none⟩ = false := (by rw [frozen_of_row _ _ _ _ _ hx5]); have HSZ := Lib.hid hs; have z1 : ¬ 9223372036854775807 < L1.size + s.size := (by have := HZ1.out; omega); obtain ⟨L3, hE3⟩ : ∃ x, L1 ++ s = x := ⟨_, rfl⟩; have HZ3 := Lib.hid (show L3.size = L1.size + s.size by rw [← hE3]; simp); have z2 : ¬ 9223372036854775807 < L3.size + L2.size := (by have := HZ1.out; have := HZ2.out; have := HZ3.out; omega); clear hx5 hy5 S5 hs)
    all_goals
      have HS6 := Lib.hid ((HS5.out.setBox HY5.out (by omega) (by omega) 0 (.string (L3 ++ L2))).upd (L' := L3 ++ L2) (M' := M_) (F' := F) (keep' := keep) (by have h1 := HZ1.out; have h2 := HZ2.out; have h3 := HZ3.out; have h4 := HSZ.out; have h5 := HY1.out; rw [ByteArray.size_append]; omega) HS5.out.szM HS5.out.szF HS5.out.k1 HS5.out.k2)
      have HX6 := Lib.hid (show (w5.setCell ⟨w2.heap.size, 0, none⟩ (.string (L3 ++ L2))).heap[w.heap.size]? = some (.cells #[.string ⟨#[]⟩, .string ⟨#[]⟩, .string ⟨#[]⟩, .slice none 0 0, .int .i64 0] 27 (0, 0)) by rw [heap_setCell_other _ _ _ _ (by simp; omega)]; exact HX5.out)
      have hne : ¬ w.heap.size = w2.heap.size := by omega
      have hne2 : ¬ w2.heap.size = w.heap.size := by omega
      go_wp2
      refine bodyPost_ret (v := .agg #[.string (L3 ++ L2), .string M_, .string F, .slice A2 R.length c2, .int .i64 keep]) ?_ rfl ⟨L3 ++ L2, M_, F, R, keep, A2, c2, rfl, ?_⟩
      · exact results_cell_row rfl _ _ w.heap.size 27 _ (0, 0) _ rfl (box_five HX6.out _ _ _ _ _) Try.underlying27 rfl sieve_size
      · exact fltM_five (fltM HS6.out (by omega) (by omega) HB1.out) HX6.out (Nat.le_refl _) _ _ _ _ _
  · have hno : ¬ (x = 0 ∧ 0 < L.size) := hcs
    have q0 : w3.cell? ⟨w.heap.size, 0, none⟩ = some (.string ⟨#[]⟩) := by rw [cell_of_row _ _ _ _ _ _ HX3.out]; rfl
    have qz0 : w3.frozen? ⟨w.heap.size, 0, none⟩ = false := by rw [frozen_of_row _ _ _ _ _ HX3.out]
    have q1 : w3.cell? ⟨w.heap.size, 1, none⟩ = some (.string ⟨#[]⟩) := by rw [cell_of_row _ _ _ _ _ _ HX3.out]; rfl
    have qz1 : w3.frozen? ⟨w.heap.size, 1, none⟩ = false := by rw [frozen_of_row _ _ _ _ _ HX3.out]
    have q2 : w3.cell? ⟨w.heap.size, 2, none⟩ = some (.string ⟨#[]⟩) := by rw [cell_of_row _ _ _ _ _ _ HX3.out]; rfl
    have qz2 : w3.frozen? ⟨w.heap.size, 2, none⟩ = false := by rw [frozen_of_row _ _ _ _ _ HX3.out]
    have q3 : w3.cell? ⟨w.heap.size, 3, none⟩ = some (.slice none 0 0) := by rw [cell_of_row _ _ _ _ _ _ HX3.out]; rfl
    have qz3 : w3.frozen? ⟨w.heap.size, 3, none⟩ = false := by rw [frozen_of_row _ _ _ _ _ HX3.out]
    have q4 : w3.cell? ⟨w.heap.size, 4, none⟩ = some (.int .i64 0) := by rw [cell_of_row _ _ _ _ _ _ HX3.out]; rfl
    have qz4 : w3.frozen? ⟨w.heap.size, 4, none⟩ = false := by rw [frozen_of_row _ _ _ _ _ HX3.out]
    by_cases hx : x = 0
    · have hL0 : L.size = 0 := by rcases Nat.eq_zero_or_pos L.size with h | h; exact h; exact absurd ⟨hx, h⟩ hno
      subst hx
      have hLn : ¬ (0 : Int) < (L.size : Int) := by omega
      go_wp2
      refine bodyPost_ret (v := .agg #[.string L, .string M_, .string F, .slice A2 R.length c2, .int .i64 keep]) ?_ rfl ⟨L, M_, F, R, keep, A2, c2, rfl, ?_⟩
      · exact results_cell_row rfl _ _ w.heap.size 27 _ (0, 0) _ rfl (box_five HX3.out _ _ _ _ _) Try.underlying27 rfl sieve_size
      · exact fltM_five (fltM HS3.out (by omega) (by omega) HB1.out) HX3.out (Nat.le_refl _) _ _ _ _ _
    · go_wp2
      refine bodyPost_ret (v := .agg #[.string L, .string M_, .string F, .slice A2 R.length c2, .int .i64 keep]) ?_ rfl ⟨L, M_, F, R, keep, A2, c2, rfl, ?_⟩
      · exact results_cell_row rfl _ _ w.heap.size 27 _ (0, 0) _ rfl (box_five HX3.out _ _ _ _ _) Try.underlying27 rfl sieve_size
      · exact fltM_five (fltM HS3.out (by omega) (by omega) HB1.out) HX3.out (Nat.le_refl _) _ _ _ _ _
end Go.Proofs.Ytakadkhgcjndmaa.W
