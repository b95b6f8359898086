/-
  The law FnRunAtMore (P39), as a walk over the contracts.
-/
import Derived.Test.YtjjalagmlbaafaaEQ
namespace Go.Proofs.Ytjjalagmlbaafaa.W
open Go.RowKit K R

set_option maxHeartbeats 8000000 in
set_option maxRecDepth 100000 in
theorem lawRunAtMore (w : World) (A : Option Addr) (n c : Nat) (hb0 : Bytes w w.heap.size A n) (hnc : n ≤ c) (hc : c ≤ maxLen) (A9 : Option Addr) (n9 c9 : Nat) :
    Calls Try.prog 14 #[.slice A n c, .slice A9 n9 c9] w fun e w' => e = .returned (.bool true) ∧ Below w.heap.size w w' := by
  by_cases hbig : (1048576 : Int) < (n : Int)
  · clear hb0
    go_enter Try.func14, Try.ntmps14
    go_wp2
    go_ret
    exact ⟨rfl, Below.refl _ _⟩
  by_cases hbig9 : (1048576 : Int) < (n9 : Int)
  · clear hb0
    go_enter Try.func14, Try.ntmps14
    go_wp2
    go_ret
    exact ⟨rfl, Below.refl _ _⟩
  go_enter Try.func14, Try.ntmps14
  go_wp2_with fail
  go_at_call 27
  refine Calls.mono (drawRunAt w A n c hb0 hnc hc) ?_
  rintro e w1 ⟨A1, c1, l, s, t, hs6, ht, rfl, hf, hb⟩
  have HF := Lib.hid hf
  have HB := Lib.hid hb
  clear hb0 hf hb
  obtain ⟨o, ho⟩ : ∃ o, atO l s (t : Nat) = o := ⟨_, rfl⟩
  obtain ⟨x0, x1, x2, x3, b, hx, hbs⟩ := at_letters o
  have HO := Lib.hid ho
  have HX := Lib.hid hx
  have HBS := Lib.hid hbs
  clear ho hx hbs
  go_wp2_with fail
  go_at_call 28
  refine Calls.mono (atS_is HF.out HO.out HX.out HBS.out) ?_
  rintro e w2 ⟨rfl, b_⟩
  obtain ⟨W2, hW2⟩ : ∃ W, W = w2.alloc (.cells #[.string x0, .int .i64 x1, .bool x2, .int .i64 x3] 33) := ⟨_, rfl⟩
  have bb_ : Below w1.heap.size w1 W2 := by rw [hW2]; exact b_.trans ((new_box w2 x0 x1 x2 x3).mono b_.size)
  have XW2 := Lib.hid (show Box W2 w2.heap.size x0 x1 x2 x3 by rw [hW2]; exact Box.new _ _ _ _ _)
  replace HB := Lib.hid (HB.out.trans (bb_.mono HB.out.size))
  replace HF := Lib.hid (HF.out.below bb_)
  have HW2 := Lib.hid hW2
  clear b_ bb_ hW2
  have HC := Lib.hid (atI_is HF.out HO.out HX.out HBS.out)
  rw [HW2.out] at HC
  go_wp2_with fail
  go_at_call 29
  refine Calls.mono HC.out ?_
  rw [← HW2.out]
  rintro e w3 ⟨rfl, b_⟩
  obtain ⟨W3, hW3⟩ : ∃ W, W = w3.alloc (.cells #[.string x0, .int .i64 x1, .bool x2, .int .i64 x3] 33) := ⟨_, rfl⟩
  have bb_ : Below W2.heap.size W2 W3 := by rw [hW3]; exact b_.trans ((new_box w3 x0 x1 x2 x3).mono b_.size)
  have XW3 := Lib.hid (show Box W3 w3.heap.size x0 x1 x2 x3 by rw [hW3]; exact Box.new _ _ _ _ _)
  replace XW2 := Lib.hid (XW2.out.keep bb_)
  replace HB := Lib.hid (HB.out.trans (bb_.mono HB.out.size))
  replace HF := Lib.hid (HF.out.below bb_)
  have HW3 := Lib.hid hW3
  clear b_ bb_ hW3
  go_upto_region 6 with fail
  rw [← HW3.out]
  obtain ⟨p10, p11, p12, p13⟩ := XW2.out.cells
  obtain ⟨p20, p21, p22, p23⟩ := XW3.out.cells
  have q0 : (x0.toList == x0.toList) = true := by simp
  cases b with
  | false =>
    go_wp2
    go_ret
    exact ⟨rfl, HB.out⟩
  | true =>
    have hsome := some_of HX.out HBS.out
    obtain ⟨⟨f, hf, hft⟩, hg, hn0⟩ := more_facts (HO.out.trans hsome) n9
    obtain ⟨y0, y1, y2, y3⟩ := f
    have hft' : x3 ≤ y3 := hft
    have eT : IntKind.i64.wrap ((t : Int) + (n9 : Int)) = (t : Int) + (n9 : Int) := i64_z _ (by omega) (by omega)
    have HC1 := Lib.hid (show ∀ W, Few W A1 c1 l → Calls Try.prog 29 #[.slice A1 l.length c1, .string s, .int .i64 ((t : Int) + (n9 : Int))] W (AtA W y0 y1 y2 y3 true) from fun W h => atI_is h hf rfl rfl)
    have HC2 := Lib.hid (show ∀ W, Few W A1 c1 l → Calls Try.prog 29 #[.slice A1 l.length c1, .string s, .int .i64 x3] W (AtA W x0 x1 x2 x3 true) from fun W h => atI_is h hg rfl rfl)
    have HC3 := Lib.hid (show ∀ W, Few W A1 c1 l → Calls Try.prog 29 #[.slice A1 l.length c1, .string s, .int .i64 0] W (AtA W ⟨#[]⟩ 0 false 0 false) from fun W h => atI_is h hn0 rfl rfl)
    clear hsome hf hft hg hn0
    go_wp2_with fail
    go_at_call 29
    refine Calls.mono (HC1.out W3 HF.out) ?_
    rintro e w4 ⟨rfl, b_⟩
    obtain ⟨W4, hW4⟩ : ∃ W, W = w4.alloc (.cells #[.string y0, .int .i64 y1, .bool y2, .int .i64 y3] 33) := ⟨_, rfl⟩
    have bb_ : Below W3.heap.size W3 W4 := by rw [hW4]; exact b_.trans ((new_box w4 y0 y1 y2 y3).mono b_.size)
    have XW4 := Lib.hid (show Box W4 w4.heap.size y0 y1 y2 y3 by rw [hW4]; exact Box.new _ _ _ _ _)
    replace XW2 := Lib.hid (XW2.out.keep bb_)
    replace XW3 := Lib.hid (XW3.out.keep bb_)
    replace HB := Lib.hid (HB.out.trans (bb_.mono HB.out.size))
    replace HF := Lib.hid (HF.out.below bb_)
    have HW4 := Lib.hid hW4
    clear b_ bb_ hW4
    go_upto_region 9 with fail
    rw [← HW4.out]
    obtain ⟨p30, p31, p32, p33⟩ := XW3.out.cells
    go_wp2_with fail
    go_at_call 29
    refine Calls.mono (HC2.out W4 HF.out) ?_
    rintro e w5 ⟨rfl, b_⟩
    obtain ⟨W5, hW5⟩ : ∃ W, W = w5.alloc (.cells #[.string x0, .int .i64 x1, .bool x2, .int .i64 x3] 33) := ⟨_, rfl⟩
    have bb_ : Below W4.heap.size W4 W5 := by rw [hW5]; exact b_.trans ((new_box w5 x0 x1 x2 x3).mono b_.size)
    have XW5 := Lib.hid (show Box W5 w5.heap.size x0 x1 x2 x3 by rw [hW5]; exact Box.new _ _ _ _ _)
    replace XW2 := Lib.hid (XW2.out.keep bb_)
    replace XW3 := Lib.hid (XW3.out.keep bb_)
    replace XW4 := Lib.hid (XW4.out.keep bb_)
    replace HB := Lib.hid (HB.out.trans (bb_.mono HB.out.size))
    replace HF := Lib.hid (HF.out.below bb_)
    have HW5 := Lib.hid hW5
    clear b_ bb_ hW5
    go_upto_region 10 with fail
    rw [← HW5.out]
    go_wp2_with fail
    go_at_call 29
    refine Calls.mono (HC3.out W5 HF.out) ?_
    rintro e w6 ⟨rfl, b_⟩
    obtain ⟨W6, hW6⟩ : ∃ W, W = w6.alloc (.cells #[.string ⟨#[]⟩, .int .i64 0, .bool false, .int .i64 0] 33) := ⟨_, rfl⟩
    have bb_ : Below W5.heap.size W5 W6 := by rw [hW6]; exact b_.trans ((new_box w6 ⟨#[]⟩ 0 false 0).mono b_.size)
    have XW6 := Lib.hid (show Box W6 w6.heap.size ⟨#[]⟩ 0 false 0 by rw [hW6]; exact Box.new _ _ _ _ _)
    replace XW2 := Lib.hid (XW2.out.keep bb_)
    replace XW3 := Lib.hid (XW3.out.keep bb_)
    replace XW4 := Lib.hid (XW4.out.keep bb_)
    replace XW5 := Lib.hid (XW5.out.keep bb_)
    replace HB := Lib.hid (HB.out.trans (bb_.mono HB.out.size))
    replace HF := Lib.hid (HF.out.below bb_)
    have HW6 := Lib.hid hW6
    clear b_ bb_ hW6
    go_upto_region 11 with fail
    rw [← HW6.out]
    obtain ⟨p40, p41, p42, p43⟩ := XW3.out.cells
    obtain ⟨p50, p51, p52, p53⟩ := XW4.out.cells
    obtain ⟨p60, p61, p62, p63⟩ := XW5.out.cells
    go_wp2
    go_ret
    exact ⟨rfl, HB.out⟩

end Go.Proofs.Ytjjalagmlbaafaa.W
