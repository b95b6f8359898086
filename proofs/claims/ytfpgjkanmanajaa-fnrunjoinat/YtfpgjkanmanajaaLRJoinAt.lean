/-
  The law FnRunJoinAt (P31), as a walk over the contracts.
-/
import Derived.Test.YtfpgjkanmanajaaGK
namespace Go.Proofs.Ytfpgjkanmanajaa.W
open Go.RowKit K R

set_option maxHeartbeats 8000000 in
set_option maxRecDepth 100000 in
theorem lawRunJoinAt (w : World) (A : Option Addr) (n c : Nat) (hb0 : Bytes w w.heap.size A n) (hnc : n ≤ c) (hc : c ≤ maxLen) (A9 : Option Addr) (n9 c9 : Nat) (hb9 : Bytes w w.heap.size A9 n9) (hnc9 : n9 ≤ c9) (hc9 : c9 ≤ maxLen) :
    Calls Try.prog 6 #[.slice A n c, .slice A9 n9 c9] w fun e w' => e = .returned (.bool true) ∧ Below w.heap.size w w' := by
  by_cases hbig : (1048576 : Int) < (n : Int)
  · clear hb0
    go_enter Try.func6, Try.ntmps6
    go_wp2
    go_ret
    exact ⟨rfl, Below.refl _ _⟩
  by_cases hbig9 : (1048576 : Int) < (n9 : Int)
  · clear hb0
    go_enter Try.func6, Try.ntmps6
    go_wp2
    go_ret
    exact ⟨rfl, Below.refl _ _⟩
  go_enter Try.func6, Try.ntmps6
  go_wp2_with fail
  go_at_call 31
  refine Calls.mono (drawRunJoin w A n c hb0 hnc hc) ?_
  rintro e w1 ⟨A1, A2, c1, c2, l, l2, rfl, hf, hg, hb⟩
  have HF := Lib.hid hf
  have HG := Lib.hid hg
  have HB := Lib.hid hb
  have hl45 := hf.len
  have hl245 := hg.len
  have HB9 := Lib.hid (bytes_moreJ (hb9.keep fun b o h => hb.cell (p := ⟨b, o, none⟩) h) hb.size)
  clear hb9
  clear hb0 hf hg hb
  go_wp2_with fail
  go_at_call 28
  refine Calls.mono (drawRunAt w1 A9 n9 c9 HB9.out hnc9 hc9) ?_
  rintro e w2 ⟨A8, c8, l8, s, t, hs6, ht, rfl, -, b_⟩
  replace HF := Lib.hid (HF.out.below b_)
  replace HG := Lib.hid (HG.out.below b_)
  replace HB := Lib.hid (HB.out.trans (b_.mono HB.out.size))
  clear b_ HB9
  obtain ⟨r, hr⟩ : ∃ r, joinF l l2 = r := ⟨_, rfl⟩
  obtain ⟨q, hq⟩ : ∃ q, joinB l l2 = q := ⟨_, rfl⟩
  have HJR := Lib.hid hr
  have HJQ := Lib.hid hq
  clear hr hq
  go_wp2_with fail
  go_at_call 32
  refine Calls.mono (joinS_is HF.out HG.out HJR.out HJQ.out) ?_
  rintro e w3 ⟨A3, c3, rfl, hf_, b_⟩
  replace HF := Lib.hid (HF.out.below b_)
  replace HG := Lib.hid (HG.out.below b_)
  replace HB := Lib.hid (HB.out.trans (b_.mono HB.out.size))
  have HM := Lib.hid hf_
  clear hf_ b_
  go_wp2_with fail
  go_at_call 26
  refine Calls.mono (joinI_is HF.out HG.out HJR.out HJQ.out) ?_
  rintro e w4 ⟨A4, c4, rfl, hf_, b_⟩
  replace HF := Lib.hid (HF.out.below b_)
  replace HG := Lib.hid (HG.out.below b_)
  replace HM := Lib.hid (HM.out.below b_)
  replace HB := Lib.hid (HB.out.trans (b_.mono HB.out.size))
  have HX := Lib.hid hf_
  clear hf_ b_
  cases q with
  | false =>
    go_wp2_with fail
    go_at_call 27
    refine Calls.mono (same_few HX.out HM.out) ?_
    rintro e w5 ⟨rfl, b_⟩
    replace HF := Lib.hid (HF.out.below b_)
    replace HG := Lib.hid (HG.out.below b_)
    replace HM := Lib.hid (HM.out.below b_)
    replace HX := Lib.hid (HX.out.below b_)
    replace HB := Lib.hid (HB.out.trans (b_.mono HB.out.size))
    clear b_
    go_wp2_with fail
    go_at_call 27
    refine Calls.mono (same_few HX.out HM.out) ?_
    rintro e w6 ⟨rfl, b_⟩
    replace HF := Lib.hid (HF.out.below b_)
    replace HG := Lib.hid (HG.out.below b_)
    replace HM := Lib.hid (HM.out.below b_)
    replace HX := Lib.hid (HX.out.below b_)
    replace HB := Lib.hid (HB.out.trans (b_.mono HB.out.size))
    clear b_
    go_wp2
    go_ret
    exact ⟨rfl, HB.out⟩
  | true =>
    go_wp2_with fail
    go_at_call 27
    refine Calls.mono (same_few HX.out HM.out) ?_
    rintro e w5 ⟨rfl, b_⟩
    replace HF := Lib.hid (HF.out.below b_)
    replace HG := Lib.hid (HG.out.below b_)
    replace HM := Lib.hid (HM.out.below b_)
    replace HX := Lib.hid (HX.out.below b_)
    replace HB := Lib.hid (HB.out.trans (b_.mono HB.out.size))
    clear b_
    clear HM
    have HJA := Lib.hid (show _ from joined_at HJQ.out s (t : Int))
    rw [HJR.out] at HJA
    obtain ⟨of, hof⟩ : ∃ o, atO l s (t : Int) = o := ⟨_, rfl⟩
    obtain ⟨og, hog⟩ : ∃ o, atO l2 s (t : Int) = o := ⟨_, rfl⟩
    rw [hof, hog] at HJA
    obtain ⟨y0, y1, y2, y3, b1, hy, hyb⟩ := at_letters of
    obtain ⟨z0, z1, z2, z3, b2, hz, hzb⟩ := at_letters og
    have HOF := Lib.hid hof
    have HOG := Lib.hid hog
    have HY := Lib.hid hy
    have HYB := Lib.hid hyb
    have HZ := Lib.hid hz
    have HZB := Lib.hid hzb
    clear hof hog hy hyb hz hzb
    cases b1 with
    | false =>
      have eo : of = none := (by cases of with | none => rfl | some v => exact absurd HYB.out (by simp))
      have hje := HJA.out
      rw [eo] at hje
      have HJE := Lib.hid (show atO r s (t : Int) = og by rw [hje])
      clear hje eo
      cases b2 with
      | false =>
        have HOE := Lib.hid (show atO r s (t : Int) = og from HJE.out)
        go_wp2_with fail
        go_at_call 30
        refine Calls.mono (atI_is HX.out HOE.out HZ.out HZB.out) ?_
        rintro e u1 ⟨rfl, b_⟩
        obtain ⟨U1, hU1⟩ : ∃ W, W = u1.alloc (.cells #[.string z0, .int .i64 z1, .bool z2, .int .i64 z3] 33) := ⟨_, rfl⟩
        have bb_ : Below w5.heap.size w5 U1 := by rw [hU1]; exact b_.trans ((new_box u1 z0 z1 z2 z3).mono b_.size)
        have XU1 := Lib.hid (show Box U1 u1.heap.size z0 z1 z2 z3 by rw [hU1]; exact Box.new _ _ _ _ _)
        replace HB := Lib.hid (HB.out.trans (bb_.mono HB.out.size))
        replace HF := Lib.hid (HF.out.below bb_)
        replace HG := Lib.hid (HG.out.below bb_)
        replace HX := Lib.hid (HX.out.below bb_)
        have HU1 := Lib.hid hU1
        clear b_ bb_ hU1
        go_upto_region 10 with fail
        rw [← HU1.out]
        go_wp2_with fail
        go_at_call 30
        refine Calls.mono (atI_is HF.out HOF.out HY.out HYB.out) ?_
        rintro e u2 ⟨rfl, b_⟩
        obtain ⟨U2, hU2⟩ : ∃ W, W = u2.alloc (.cells #[.string y0, .int .i64 y1, .bool y2, .int .i64 y3] 33) := ⟨_, rfl⟩
        have bb_ : Below U1.heap.size U1 U2 := by rw [hU2]; exact b_.trans ((new_box u2 y0 y1 y2 y3).mono b_.size)
        have XU2 := Lib.hid (show Box U2 u2.heap.size y0 y1 y2 y3 by rw [hU2]; exact Box.new _ _ _ _ _)
        replace XU1 := Lib.hid (XU1.out.keep bb_)
        replace HB := Lib.hid (HB.out.trans (bb_.mono HB.out.size))
        replace HF := Lib.hid (HF.out.below bb_)
        replace HG := Lib.hid (HG.out.below bb_)
        replace HX := Lib.hid (HX.out.below bb_)
        have HU2 := Lib.hid hU2
        clear b_ bb_ hU2
        go_upto_region 11 with fail
        rw [← HU2.out]
        go_wp2_with fail
        go_at_call 30
        refine Calls.mono (atI_is HG.out HOG.out HZ.out HZB.out) ?_
        rintro e u3 ⟨rfl, b_⟩
        obtain ⟨U3, hU3⟩ : ∃ W, W = u3.alloc (.cells #[.string z0, .int .i64 z1, .bool z2, .int .i64 z3] 33) := ⟨_, rfl⟩
        have bb_ : Below U2.heap.size U2 U3 := by rw [hU3]; exact b_.trans ((new_box u3 z0 z1 z2 z3).mono b_.size)
        have XU3 := Lib.hid (show Box U3 u3.heap.size z0 z1 z2 z3 by rw [hU3]; exact Box.new _ _ _ _ _)
        replace XU1 := Lib.hid (XU1.out.keep bb_)
        replace XU2 := Lib.hid (XU2.out.keep bb_)
        replace HB := Lib.hid (HB.out.trans (bb_.mono HB.out.size))
        replace HF := Lib.hid (HF.out.below bb_)
        replace HG := Lib.hid (HG.out.below bb_)
        replace HX := Lib.hid (HX.out.below bb_)
        have HU3 := Lib.hid hU3
        clear b_ bb_ hU3
        go_upto_region 12 with fail
        rw [← HU3.out]
        obtain ⟨p10, p11, p12, p13⟩ := XU1.out.cells
        obtain ⟨p20, p21, p22, p23⟩ := XU2.out.cells
        obtain ⟨p30, p31, p32, p33⟩ := XU3.out.cells
        have q0 : (z0.toList == z0.toList) = true := by simp
        clear HJA HOE HOF HOG HY HYB HZ HZB
        go_wp2
        go_ret
        exact ⟨rfl, HB.out⟩
      | true =>
        have HOE := Lib.hid (show atO r s (t : Int) = og from HJE.out)
        go_wp2_with fail
        go_at_call 30
        refine Calls.mono (atI_is HX.out HOE.out HZ.out HZB.out) ?_
        rintro e u1 ⟨rfl, b_⟩
        obtain ⟨U1, hU1⟩ : ∃ W, W = u1.alloc (.cells #[.string z0, .int .i64 z1, .bool z2, .int .i64 z3] 33) := ⟨_, rfl⟩
        have bb_ : Below w5.heap.size w5 U1 := by rw [hU1]; exact b_.trans ((new_box u1 z0 z1 z2 z3).mono b_.size)
        have XU1 := Lib.hid (show Box U1 u1.heap.size z0 z1 z2 z3 by rw [hU1]; exact Box.new _ _ _ _ _)
        replace HB := Lib.hid (HB.out.trans (bb_.mono HB.out.size))
        replace HF := Lib.hid (HF.out.below bb_)
        replace HG := Lib.hid (HG.out.below bb_)
        replace HX := Lib.hid (HX.out.below bb_)
        have HU1 := Lib.hid hU1
        clear b_ bb_ hU1
        go_upto_region 10 with fail
        rw [← HU1.out]
        go_wp2_with fail
        go_at_call 30
        refine Calls.mono (atI_is HF.out HOF.out HY.out HYB.out) ?_
        rintro e u2 ⟨rfl, b_⟩
        obtain ⟨U2, hU2⟩ : ∃ W, W = u2.alloc (.cells #[.string y0, .int .i64 y1, .bool y2, .int .i64 y3] 33) := ⟨_, rfl⟩
        have bb_ : Below U1.heap.size U1 U2 := by rw [hU2]; exact b_.trans ((new_box u2 y0 y1 y2 y3).mono b_.size)
        have XU2 := Lib.hid (show Box U2 u2.heap.size y0 y1 y2 y3 by rw [hU2]; exact Box.new _ _ _ _ _)
        replace XU1 := Lib.hid (XU1.out.keep bb_)
        replace HB := Lib.hid (HB.out.trans (bb_.mono HB.out.size))
        replace HF := Lib.hid (HF.out.below bb_)
        replace HG := Lib.hid (HG.out.below bb_)
        replace HX := Lib.hid (HX.out.below bb_)
        have HU2 := Lib.hid hU2
        clear b_ bb_ hU2
        go_upto_region 11 with fail
        rw [← HU2.out]
        go_wp2_with fail
        go_at_call 30
        refine Calls.mono (atI_is HG.out HOG.out HZ.out HZB.out) ?_
        rintro e u3 ⟨rfl, b_⟩
        obtain ⟨U3, hU3⟩ : ∃ W, W = u3.alloc (.cells #[.string z0, .int .i64 z1, .bool z2, .int .i64 z3] 33) := ⟨_, rfl⟩
        have bb_ : Below U2.heap.size U2 U3 := by rw [hU3]; exact b_.trans ((new_box u3 z0 z1 z2 z3).mono b_.size)
        have XU3 := Lib.hid (show Box U3 u3.heap.size z0 z1 z2 z3 by rw [hU3]; exact Box.new _ _ _ _ _)
        replace XU1 := Lib.hid (XU1.out.keep bb_)
        replace XU2 := Lib.hid (XU2.out.keep bb_)
        replace HB := Lib.hid (HB.out.trans (bb_.mono HB.out.size))
        replace HF := Lib.hid (HF.out.below bb_)
        replace HG := Lib.hid (HG.out.below bb_)
        replace HX := Lib.hid (HX.out.below bb_)
        have HU3 := Lib.hid hU3
        clear b_ bb_ hU3
        go_upto_region 12 with fail
        rw [← HU3.out]
        obtain ⟨p10, p11, p12, p13⟩ := XU1.out.cells
        obtain ⟨p20, p21, p22, p23⟩ := XU2.out.cells
        obtain ⟨p30, p31, p32, p33⟩ := XU3.out.cells
        have q0 : (z0.toList == z0.toList) = true := by simp
        clear HJA HOE HOF HOG HY HYB HZ HZB
        go_wp2
        go_ret
        exact ⟨rfl, HB.out⟩
    | true =>
      have eo := some_of HY.out HYB.out
      cases b2 with
      | false =>
        have eg : og = none := (by cases og with | none => rfl | some v => exact absurd HZB.out (by simp))
        have hje := HJA.out
        rw [eo, eg] at hje
        have HJE := Lib.hid (show atO r s (t : Int) = of by rw [hje, eo])
        clear hje eo eg
        have HOE := Lib.hid (show atO r s (t : Int) = of from HJE.out)
        go_wp2_with fail
        go_at_call 30
        refine Calls.mono (atI_is HX.out HOE.out HY.out HYB.out) ?_
        rintro e u1 ⟨rfl, b_⟩
        obtain ⟨U1, hU1⟩ : ∃ W, W = u1.alloc (.cells #[.string y0, .int .i64 y1, .bool y2, .int .i64 y3] 33) := ⟨_, rfl⟩
        have bb_ : Below w5.heap.size w5 U1 := by rw [hU1]; exact b_.trans ((new_box u1 y0 y1 y2 y3).mono b_.size)
        have XU1 := Lib.hid (show Box U1 u1.heap.size y0 y1 y2 y3 by rw [hU1]; exact Box.new _ _ _ _ _)
        replace HB := Lib.hid (HB.out.trans (bb_.mono HB.out.size))
        replace HF := Lib.hid (HF.out.below bb_)
        replace HG := Lib.hid (HG.out.below bb_)
        replace HX := Lib.hid (HX.out.below bb_)
        have HU1 := Lib.hid hU1
        clear b_ bb_ hU1
        go_upto_region 10 with fail
        rw [← HU1.out]
        go_wp2_with fail
        go_at_call 30
        refine Calls.mono (atI_is HF.out HOF.out HY.out HYB.out) ?_
        rintro e u2 ⟨rfl, b_⟩
        obtain ⟨U2, hU2⟩ : ∃ W, W = u2.alloc (.cells #[.string y0, .int .i64 y1, .bool y2, .int .i64 y3] 33) := ⟨_, rfl⟩
        have bb_ : Below U1.heap.size U1 U2 := by rw [hU2]; exact b_.trans ((new_box u2 y0 y1 y2 y3).mono b_.size)
        have XU2 := Lib.hid (show Box U2 u2.heap.size y0 y1 y2 y3 by rw [hU2]; exact Box.new _ _ _ _ _)
        replace XU1 := Lib.hid (XU1.out.keep bb_)
        replace HB := Lib.hid (HB.out.trans (bb_.mono HB.out.size))
        replace HF := Lib.hid (HF.out.below bb_)
        replace HG := Lib.hid (HG.out.below bb_)
        replace HX := Lib.hid (HX.out.below bb_)
        have HU2 := Lib.hid hU2
        clear b_ bb_ hU2
        go_upto_region 11 with fail
        rw [← HU2.out]
        go_wp2_with fail
        go_at_call 30
        refine Calls.mono (atI_is HG.out HOG.out HZ.out HZB.out) ?_
        rintro e u3 ⟨rfl, b_⟩
        obtain ⟨U3, hU3⟩ : ∃ W, W = u3.alloc (.cells #[.string z0, .int .i64 z1, .bool z2, .int .i64 z3] 33) := ⟨_, rfl⟩
        have bb_ : Below U2.heap.size U2 U3 := by rw [hU3]; exact b_.trans ((new_box u3 z0 z1 z2 z3).mono b_.size)
        have XU3 := Lib.hid (show Box U3 u3.heap.size z0 z1 z2 z3 by rw [hU3]; exact Box.new _ _ _ _ _)
        replace XU1 := Lib.hid (XU1.out.keep bb_)
        replace XU2 := Lib.hid (XU2.out.keep bb_)
        replace HB := Lib.hid (HB.out.trans (bb_.mono HB.out.size))
        replace HF := Lib.hid (HF.out.below bb_)
        replace HG := Lib.hid (HG.out.below bb_)
        replace HX := Lib.hid (HX.out.below bb_)
        have HU3 := Lib.hid hU3
        clear b_ bb_ hU3
        go_upto_region 12 with fail
        rw [← HU3.out]
        obtain ⟨p10, p11, p12, p13⟩ := XU1.out.cells
        obtain ⟨p20, p21, p22, p23⟩ := XU2.out.cells
        obtain ⟨p30, p31, p32, p33⟩ := XU3.out.cells
        have q0 : (y0.toList == y0.toList) = true := by simp
        clear HJA HOE HOF HOG HY HYB HZ HZB
        go_wp2
        go_ret
        exact ⟨rfl, HB.out⟩
      | true =>
        have eg := some_of HZ.out HZB.out
        have hje := HJA.out
        rw [eo, eg] at hje
        by_cases hlt : z3 < y3
        · have HJE := Lib.hid (show atO r s (t : Int) = of by rw [hje, eo]; exact if_pos hlt)
          clear hje eo eg
          have HOE := Lib.hid (show atO r s (t : Int) = of from HJE.out)
          go_wp2_with fail
          go_at_call 30
          refine Calls.mono (atI_is HX.out HOE.out HY.out HYB.out) ?_
          rintro e u1 ⟨rfl, b_⟩
          obtain ⟨U1, hU1⟩ : ∃ W, W = u1.alloc (.cells #[.string y0, .int .i64 y1, .bool y2, .int .i64 y3] 33) := ⟨_, rfl⟩
          have bb_ : Below w5.heap.size w5 U1 := by rw [hU1]; exact b_.trans ((new_box u1 y0 y1 y2 y3).mono b_.size)
          have XU1 := Lib.hid (show Box U1 u1.heap.size y0 y1 y2 y3 by rw [hU1]; exact Box.new _ _ _ _ _)
          replace HB := Lib.hid (HB.out.trans (bb_.mono HB.out.size))
          replace HF := Lib.hid (HF.out.below bb_)
          replace HG := Lib.hid (HG.out.below bb_)
          replace HX := Lib.hid (HX.out.below bb_)
          have HU1 := Lib.hid hU1
          clear b_ bb_ hU1
          go_upto_region 10 with fail
          rw [← HU1.out]
          go_wp2_with fail
          go_at_call 30
          refine Calls.mono (atI_is HF.out HOF.out HY.out HYB.out) ?_
          rintro e u2 ⟨rfl, b_⟩
          obtain ⟨U2, hU2⟩ : ∃ W, W = u2.alloc (.cells #[.string y0, .int .i64 y1, .bool y2, .int .i64 y3] 33) := ⟨_, rfl⟩
          have bb_ : Below U1.heap.size U1 U2 := by rw [hU2]; exact b_.trans ((new_box u2 y0 y1 y2 y3).mono b_.size)
          have XU2 := Lib.hid (show Box U2 u2.heap.size y0 y1 y2 y3 by rw [hU2]; exact Box.new _ _ _ _ _)
          replace XU1 := Lib.hid (XU1.out.keep bb_)
          replace HB := Lib.hid (HB.out.trans (bb_.mono HB.out.size))
          replace HF := Lib.hid (HF.out.below bb_)
          replace HG := Lib.hid (HG.out.below bb_)
          replace HX := Lib.hid (HX.out.below bb_)
          have HU2 := Lib.hid hU2
          clear b_ bb_ hU2
          go_upto_region 11 with fail
          rw [← HU2.out]
          go_wp2_with fail
          go_at_call 30
          refine Calls.mono (atI_is HG.out HOG.out HZ.out HZB.out) ?_
          rintro e u3 ⟨rfl, b_⟩
          obtain ⟨U3, hU3⟩ : ∃ W, W = u3.alloc (.cells #[.string z0, .int .i64 z1, .bool z2, .int .i64 z3] 33) := ⟨_, rfl⟩
          have bb_ : Below U2.heap.size U2 U3 := by rw [hU3]; exact b_.trans ((new_box u3 z0 z1 z2 z3).mono b_.size)
          have XU3 := Lib.hid (show Box U3 u3.heap.size z0 z1 z2 z3 by rw [hU3]; exact Box.new _ _ _ _ _)
          replace XU1 := Lib.hid (XU1.out.keep bb_)
          replace XU2 := Lib.hid (XU2.out.keep bb_)
          replace HB := Lib.hid (HB.out.trans (bb_.mono HB.out.size))
          replace HF := Lib.hid (HF.out.below bb_)
          replace HG := Lib.hid (HG.out.below bb_)
          replace HX := Lib.hid (HX.out.below bb_)
          have HU3 := Lib.hid hU3
          clear b_ bb_ hU3
          go_upto_region 12 with fail
          rw [← HU3.out]
          obtain ⟨p10, p11, p12, p13⟩ := XU1.out.cells
          obtain ⟨p20, p21, p22, p23⟩ := XU2.out.cells
          obtain ⟨p30, p31, p32, p33⟩ := XU3.out.cells
          have q0 : (y0.toList == y0.toList) = true := by simp
          clear HJA HOE HOF HOG HY HYB HZ HZB
          go_wp2
          go_ret
          exact ⟨rfl, HB.out⟩
        · have HJE := Lib.hid (show atO r s (t : Int) = og by rw [hje, eg]; exact if_neg hlt)
          clear hje eo eg
          have HOE := Lib.hid (show atO r s (t : Int) = og from HJE.out)
          go_wp2_with fail
          go_at_call 30
          refine Calls.mono (atI_is HX.out HOE.out HZ.out HZB.out) ?_
          rintro e u1 ⟨rfl, b_⟩
          obtain ⟨U1, hU1⟩ : ∃ W, W = u1.alloc (.cells #[.string z0, .int .i64 z1, .bool z2, .int .i64 z3] 33) := ⟨_, rfl⟩
          have bb_ : Below w5.heap.size w5 U1 := by rw [hU1]; exact b_.trans ((new_box u1 z0 z1 z2 z3).mono b_.size)
          have XU1 := Lib.hid (show Box U1 u1.heap.size z0 z1 z2 z3 by rw [hU1]; exact Box.new _ _ _ _ _)
          replace HB := Lib.hid (HB.out.trans (bb_.mono HB.out.size))
          replace HF := Lib.hid (HF.out.below bb_)
          replace HG := Lib.hid (HG.out.below bb_)
          replace HX := Lib.hid (HX.out.below bb_)
          have HU1 := Lib.hid hU1
          clear b_ bb_ hU1
          go_upto_region 10 with fail
          rw [← HU1.out]
          go_wp2_with fail
          go_at_call 30
          refine Calls.mono (atI_is HF.out HOF.out HY.out HYB.out) ?_
          rintro e u2 ⟨rfl, b_⟩
          obtain ⟨U2, hU2⟩ : ∃ W, W = u2.alloc (.cells #[.string y0, .int .i64 y1, .bool y2, .int .i64 y3] 33) := ⟨_, rfl⟩
          have bb_ : Below U1.heap.size U1 U2 := by rw [hU2]; exact b_.trans ((new_box u2 y0 y1 y2 y3).mono b_.size)
          have XU2 := Lib.hid (show Box U2 u2.heap.size y0 y1 y2 y3 by rw [hU2]; exact Box.new _ _ _ _ _)
          replace XU1 := Lib.hid (XU1.out.keep bb_)
          replace HB := Lib.hid (HB.out.trans (bb_.mono HB.out.size))
          replace HF := Lib.hid (HF.out.below bb_)
          replace HG := Lib.hid (HG.out.below bb_)
          replace HX := Lib.hid (HX.out.below bb_)
          have HU2 := Lib.hid hU2
          clear b_ bb_ hU2
          go_upto_region 11 with fail
          rw [← HU2.out]
          go_wp2_with fail
          go_at_call 30
          refine Calls.mono (atI_is HG.out HOG.out HZ.out HZB.out) ?_
          rintro e u3 ⟨rfl, b_⟩
          obtain ⟨U3, hU3⟩ : ∃ W, W = u3.alloc (.cells #[.string z0, .int .i64 z1, .bool z2, .int .i64 z3] 33) := ⟨_, rfl⟩
          have bb_ : Below U2.heap.size U2 U3 := by rw [hU3]; exact b_.trans ((new_box u3 z0 z1 z2 z3).mono b_.size)
          have XU3 := Lib.hid (show Box U3 u3.heap.size z0 z1 z2 z3 by rw [hU3]; exact Box.new _ _ _ _ _)
          replace XU1 := Lib.hid (XU1.out.keep bb_)
          replace XU2 := Lib.hid (XU2.out.keep bb_)
          replace HB := Lib.hid (HB.out.trans (bb_.mono HB.out.size))
          replace HF := Lib.hid (HF.out.below bb_)
          replace HG := Lib.hid (HG.out.below bb_)
          replace HX := Lib.hid (HX.out.below bb_)
          have HU3 := Lib.hid hU3
          clear b_ bb_ hU3
          go_upto_region 12 with fail
          rw [← HU3.out]
          obtain ⟨p10, p11, p12, p13⟩ := XU1.out.cells
          obtain ⟨p20, p21, p22, p23⟩ := XU2.out.cells
          obtain ⟨p30, p31, p32, p33⟩ := XU3.out.cells
          have q0 : (z0.toList == z0.toList) = true := by simp
          clear HJA HOE HOF HOG HY HYB HZ HZB
          go_wp2
          go_ret
          exact ⟨rfl, HB.out⟩

end Go.Proofs.Ytfpgjkanmanajaa.W
