/-
  The exact law of RunAt, as a walk over the contracts.
-/
import Derived.Test.YtfpgjkanmanajaaEB
import Derived.Test.YtfpgjkanmanajaaE9
namespace Go.Proofs.Ytfpgjkanmanajaa.W
open Go.RowKit K R

set_option maxHeartbeats 8000000 in
set_option maxRecDepth 100000 in
theorem exactRunAt (w : World) (A : Option Addr) (n c : Nat) (l : List En) (kk : ByteArray) (t : Int) (hr : Ents w w.heap.size A n l) (hn : n ≤ maxLen) (hf : ∀ e ∈ l, e.key.size ≤ maxLen) :
    Calls Try.prog 17 #[.slice A n c, .string kk, .int .i64 t] w fun e w' => e = .returned (.bool true) ∧ Below w.heap.size w w' := by
  by_cases hbig : (1048576 : Int) < (kk.size : Int)
  · clear hr
    go_enter Try.func17, Try.ntmps17
    go_wp2
    go_ret
    exact ⟨rfl, Below.refl _ _⟩
  have hlen := hr.len
  subst hlen
  have HR := Lib.hid hr
  have HF := Lib.hid hf
  clear hr hf
  obtain ⟨x0, h0⟩ : ∃ y, y = (atE (atO l kk t)).key := ⟨_, rfl⟩
  obtain ⟨x1, h1⟩ : ∃ y, y = (atE (atO l kk t)).val := ⟨_, rfl⟩
  obtain ⟨x2, h2⟩ : ∃ y, y = (atE (atO l kk t)).gone := ⟨_, rfl⟩
  obtain ⟨x3, h3⟩ : ∃ y, y = (atE (atO l kk t)).time := ⟨_, rfl⟩
  obtain ⟨x4, h4⟩ : ∃ y, y = (atO l kk t).isSome := ⟨_, rfl⟩
  have hV : atV (atO l kk t) = .tuple #[.agg #[.string x0, .int .i64 x1, .bool x2, .int .i64 x3], .bool x4] := by unfold atV; rw [h0, h1, h2, h3, h4]
  have HS := Lib.hid (show ∀ (W : World) (A : Option Addr) (c : Nat), Ents W W.heap.size A l.length l → Calls Try.prog 29 #[.slice A l.length c, .string kk, .int .i64 t] W fun e w' => e = .returned (.tuple #[.agg #[.string x0, .int .i64 x1, .bool x2, .int .i64 x3], .bool x4]) ∧ Below W.heap.size W w' from fun W A c h => by rw [← hV]; exact runAtS W W.heap.size l.length c A l kk t h (Nat.le_refl _) hn HF.out)
  have HI := Lib.hid (show ∀ (W : World) (A : Option Addr) (c : Nat), Ents W W.heap.size A l.length l → Calls Try.prog 30 #[.slice A l.length c, .string kk, .int .i64 t] W fun e w' => e = .returned (.tuple #[.agg #[.string x0, .int .i64 x1, .bool x2, .int .i64 x3], .bool x4]) ∧ Below W.heap.size W w' from fun W A c h => by rw [← hV]; exact runAtI W W.heap.size l.length c A l kk t h (Nat.le_refl _) hn HF.out)
  clear hV h0 h1 h2 h3 h4
  go_enter Try.func17, Try.ntmps17
  go_wp2_with fail
  go_at_call 45
  refine Calls.mono (szEnS w w.heap.size l.length c A l HR.out (Nat.le_refl _) hn HF.out) ?_
  rintro e w1 ⟨x, rfl, hx0, hx1, hx2, hb1⟩
  have HB1 := Lib.hid hb1
  clear hb1
  by_cases hneg : x < 0
  · clear hx2
    go_wp2
    go_ret
    exact ⟨rfl, HB1.out⟩
  · have hlen := (hx2 (by omega)).1
    clear hx2
    go_wp2_with fail
    go_at_call 46
    refine Calls.mono (copyE w1 w.heap.size l.length c A l (HR.out.below HB1.out (Nat.le_refl _)) HB1.out.size hlen) ?_
    rintro e w2 ⟨g2, c2, rfl, o2, b2⟩
    have HB2 := Lib.hid (HB1.out.trans (b2.mono HB1.out.size))
    have HE2 := Lib.hid (OwnE.ents o2 rfl)
    clear o2 b2 HB1
    go_wp2_with fail
    go_at_call 29
    refine Calls.mono (HS.out w2 _ c2 HE2.out) ?_
    rintro e w3 ⟨rfl, b3⟩
    have HB3 := Lib.hid (HB2.out.trans (b3.mono HB2.out.size))
    clear b3 HB2 HE2
    obtain ⟨W3, hW3⟩ : ∃ W, W = w3.alloc (.cells #[.string x0, .int .i64 x1, .bool x2, .int .i64 x3] 33) := ⟨_, rfl⟩
    have HX3 := Lib.hid (show ∀ W, Below W3.heap.size W3 W → W.heap[w3.heap.size]? = some (.cells #[.string x0, .int .i64 x1, .bool x2, .int .i64 x3] 33 (0, 0)) from fun W hW => by rw [hW.block _ (by rw [hW3]; simp), hW3]; exact heap_alloc_new _ _)
    have HBW := Lib.hid (show Below w.heap.size w W3 by rw [hW3]; exact HB3.out.alloc HB3.out.size _)
    have HC := Lib.hid (copyE W3 w.heap.size l.length c A l (HR.out.below HBW.out (Nat.le_refl _)) HBW.out.size hlen)
    have HW3 := Lib.hid hW3
    rw [hW3] at HC
    clear hW3 HB3
    go_wp2_with fail
    go_at_call 46
    refine HC.out.mono ?_
    rw [← HW3.out]
    rintro e w4 ⟨g4, c4, rfl, o4, b4⟩
    have HB4 := Lib.hid (HBW.out.trans (b4.mono HBW.out.size))
    have HE4 := Lib.hid (OwnE.ents o4 rfl)
    have H34 := Lib.hid b4
    clear o4 b4
    go_wp2_with fail
    go_at_call 30
    refine Calls.mono (HI.out w4 _ c4 HE4.out) ?_
    rintro e w5 ⟨rfl, b5⟩
    obtain ⟨W5, hW5⟩ : ∃ W, W = w5.alloc (.cells #[.string x0, .int .i64 x1, .bool x2, .int .i64 x3] 33) := ⟨_, rfl⟩
    have hbw5 : Below w5.heap.size w5 W5 := by rw [hW5]; exact (Below.refl _ _).alloc (Nat.le_refl _) _
    have b45 := b5.trans (hbw5.mono b5.size)
    have HB5 := Lib.hid (HB4.out.trans (b45.mono HB4.out.size))
    have HE5 := Lib.hid ((HE4.out.below b45 (Nat.le_refl _)).more b45.size)
    have HX5 := Lib.hid (HX3.out W5 (H34.out.trans (b45.mono H34.out.size)))
    have HY5 := Lib.hid (show W5.heap[w5.heap.size]? = some (.cells #[.string x0, .int .i64 x1, .bool x2, .int .i64 x3] 33 (0, 0)) by rw [hW5]; exact heap_alloc_new _ _)
    have HW5 := Lib.hid hW5
    clear b5 b45 hbw5 hW5 HB4 HE4
    go_upto_region 10 with fail
    rw [← HW5.out]
    have p0 : W5.cell? ⟨w3.heap.size, 0, none⟩ = some (.string x0) := by rw [cell_of_row _ _ _ _ _ _ HX5.out]; rfl
    have p1 : W5.cell? ⟨w3.heap.size, 1, none⟩ = some (.int .i64 x1) := by rw [cell_of_row _ _ _ _ _ _ HX5.out]; rfl
    have p2 : W5.cell? ⟨w3.heap.size, 2, none⟩ = some (.bool x2) := by rw [cell_of_row _ _ _ _ _ _ HX5.out]; rfl
    have p3 : W5.cell? ⟨w3.heap.size, 3, none⟩ = some (.int .i64 x3) := by rw [cell_of_row _ _ _ _ _ _ HX5.out]; rfl
    have q0 : W5.cell? ⟨w5.heap.size, 0, none⟩ = some (.string x0) := by rw [cell_of_row _ _ _ _ _ _ HY5.out]; rfl
    have q1 : W5.cell? ⟨w5.heap.size, 1, none⟩ = some (.int .i64 x1) := by rw [cell_of_row _ _ _ _ _ _ HY5.out]; rfl
    have q2 : W5.cell? ⟨w5.heap.size, 2, none⟩ = some (.bool x2) := by rw [cell_of_row _ _ _ _ _ _ HY5.out]; rfl
    have q3 : W5.cell? ⟨w5.heap.size, 3, none⟩ = some (.int .i64 x3) := by rw [cell_of_row _ _ _ _ _ _ HY5.out]; rfl
    cases x4
    all_goals
      go_wp2_with (first | (go_at_call 48; refine Calls.mono (eqEn x0 x1 x2 x3 _) ?_; rintro e w6 ⟨rfl, b6⟩; have H6 := Lib.hid b6; clear b6) | (go_at_call 46; fail))
      have HB6 := Lib.hid (HB5.out.trans (H6.out.mono HB5.out.size))
      go_at_call 46
      refine Calls.mono (copyE w6 w.heap.size l.length c A l (HR.out.below HB6.out (Nat.le_refl _)) HB6.out.size hlen) ?_
      rintro e w7 ⟨g7, c7, rfl, o7, b7⟩
      have HB7 := Lib.hid (HB6.out.trans (b7.mono HB6.out.size))
      have HE7 := Lib.hid (OwnE.ents o7 rfl)
      have b57 := H6.out.trans (b7.mono H6.out.size)
      have HE5b := Lib.hid ((HE5.out.below b57 (Nat.le_refl _)).more b57.size)
      clear o7 b7 b57
      go_wp2_with fail
      go_at_call 47
      refine Calls.mono (eqEnS w7 w7.heap.size l.length c4 c7 _ _ l HE5b.out HE7.out (Nat.le_refl _) hn) ?_
      rintro e w8 ⟨rfl, b8⟩
      have HB8 := Lib.hid (HB7.out.trans (b8.mono HB7.out.size))
      clear b8
      go_wp2
      go_ret
      exact ⟨rfl, HB8.out⟩

end Go.Proofs.Ytfpgjkanmanajaa.W
