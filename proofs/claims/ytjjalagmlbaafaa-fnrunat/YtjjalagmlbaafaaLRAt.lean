/-
  The law FnRunAt (P29), as a walk over the contracts.
-/
import Derived.Test.YtjjalagmlbaafaaEQ
namespace Go.Proofs.Ytjjalagmlbaafaa.W
open Go.RowKit K R

/-- the law's own look: no entry of the key up to the time is newer than the one told -/
theorem none_newer {l : List En} {s : ByteArray} {t : Int} {o : Option En} (hr : runB l = true) (ho : atO l s t = o) {x0 : ByteArray} {x1 : Int} {x2 : Bool} {x3 : Int} {b : Bool} (hx : atE o = ⟨x0, x1, x2, x3⟩) (hb : o.isSome = b) :
    (∀ i (h : i < l.length), (l[i].key.toList == s.toList) = true → l[i].time ≤ t → b = true ∧ l[i].time ≤ x3) ∧ (b = true → x0 = s ∧ x3 ≤ t) := by
  rw [atO_run hr] at ho
  have hord := (run_iff.mp hr).2.2
  cases o with
  | none =>
    have h := at_none.mp ho
    refine ⟨fun i hi he ht => absurd ht (h _ (List.getElem_mem hi) (eqs_iff.mp he)), fun e => ?_⟩
    rw [← hb] at e; cases e
  | some e =>
    have he : e = ⟨x0, x1, x2, x3⟩ := hx
    subst he
    refine ⟨fun i hi he ht => ⟨hb.symm, at_newest hord ho _ (List.getElem_mem hi) (eqs_iff.mp he) ht⟩, fun _ => ?_⟩
    have := at_some ho
    exact ⟨this.2.1, this.2.2⟩

set_option maxHeartbeats 8000000 in
set_option maxRecDepth 100000 in
theorem lawRunAt (w : World) (A : Option Addr) (n c : Nat) (hb0 : Bytes w w.heap.size A n) (hnc : n ≤ c) (hc : c ≤ maxLen) :
    Calls Try.prog 4 #[.slice A n c] w fun e w' => e = .returned (.bool true) ∧ Below w.heap.size w w' := by
  by_cases hbig : (1048576 : Int) < (n : Int)
  · clear hb0
    go_enter Try.func4, Try.ntmps4
    go_wp2
    go_ret
    exact ⟨rfl, Below.refl _ _⟩
  go_enter Try.func4, Try.ntmps4
  go_wp2_with fail
  go_at_call 27
  refine Calls.mono (drawRunAt w A n c hb0 hnc hc) ?_
  rintro e w1 ⟨A1, c1, l, s, t, hs6, ht, rfl, hf, hb⟩
  have HF := Lib.hid hf
  have HB := Lib.hid hb
  clear hb0 hf hb
  obtain ⟨o, ho⟩ : ∃ o, atO l s (t : Nat) = o := ⟨_, rfl⟩
  obtain ⟨x0, x1, x2, x3, b, hx, hbs⟩ := at_letters o
  have HO := Lib.hid ho
  have HX := Lib.hid hx
  have HBS := Lib.hid hbs
  clear ho hx hbs
  go_wp2_with fail
  go_at_call 28
  refine Calls.mono (atS_is HF.out HO.out HX.out HBS.out) ?_
  rintro e w2 ⟨rfl, b_⟩
  obtain ⟨W2, hW2⟩ : ∃ W, W = w2.alloc (.cells #[.string x0, .int .i64 x1, .bool x2, .int .i64 x3] 33) := ⟨_, rfl⟩
  have bb_ : Below w1.heap.size w1 W2 := by rw [hW2]; exact b_.trans ((new_box w2 x0 x1 x2 x3).mono b_.size)
  have XW2 := Lib.hid (show Box W2 w2.heap.size x0 x1 x2 x3 by rw [hW2]; exact Box.new _ _ _ _ _)
  replace HB := Lib.hid (HB.out.trans (bb_.mono HB.out.size))
  replace HF := Lib.hid (HF.out.below bb_)
  have HW2 := Lib.hid hW2
  clear b_ bb_ hW2
  have HC := Lib.hid (atI_is HF.out HO.out HX.out HBS.out)
  rw [HW2.out] at HC
  go_wp2_with fail
  go_at_call 29
  refine Calls.mono HC.out ?_
  rw [← HW2.out]
  rintro e w3 ⟨rfl, b_⟩
  obtain ⟨W3, hW3⟩ : ∃ W, W = w3.alloc (.cells #[.string x0, .int .i64 x1, .bool x2, .int .i64 x3] 33) := ⟨_, rfl⟩
  have bb_ : Below W2.heap.size W2 W3 := by rw [hW3]; exact b_.trans ((new_box w3 x0 x1 x2 x3).mono b_.size)
  have XW3 := Lib.hid (show Box W3 w3.heap.size x0 x1 x2 x3 by rw [hW3]; exact Box.new _ _ _ _ _)
  replace XW2 := Lib.hid (XW2.out.keep bb_)
  replace HB := Lib.hid (HB.out.trans (bb_.mono HB.out.size))
  replace HF := Lib.hid (HF.out.below bb_)
  have HW3 := Lib.hid hW3
  clear b_ bb_ hW3
  go_upto_region 6 with fail
  rw [← HW3.out]
  obtain ⟨p10, p11, p12, p13⟩ := XW2.out.cells
  obtain ⟨p20, p21, p22, p23⟩ := XW3.out.cells
  have q0 : (x0.toList == x0.toList) = true := by simp
  have hl45 := HF.out.len
  rcases Bool.eq_false_or_eq_true (runB l) with hr | hr
  · have HRN := Lib.hid (show Calls Try.prog 24 #[.slice A1 l.length c1] W3 fun e w' => e = .returned (.bool true) ∧ Below W3.heap.size W3 w' from by rw [← hr]; exact runS W3 W3.heap.size l.length c1 A1 l HF.out.ents (Nat.le_refl _) (by unfold maxLen; omega) HF.out.fit)
    have HNN := Lib.hid (none_newer hr HO.out HX.out HBS.out)
    clear hr
    cases b with
    | false =>
      go_wp2_with fail
      go_at_call 24
      refine Calls.mono HRN.out ?_
      rintro e w4 ⟨rfl, b4⟩
      replace XW2 := Lib.hid (XW2.out.keep b4)
      replace XW3 := Lib.hid (XW3.out.keep b4)
      replace HF := Lib.hid (HF.out.below b4)
      replace HB := Lib.hid (HB.out.trans (b4.mono HB.out.size))
      clear b4 p10 p11 p12 p13 p20 p21 p22 p23
      go_wp2_with fail
      go_loopw [10] (fun i wr => ∃ k : Nat, k ≤ l.length ∧ i = .int .i64 (k : Nat) ∧ Below w4.heap.size w4 wr) (fun i _ => l.length - (intOf i).toNat)
      case atStart => exact ⟨0, Nat.zero_le _, rfl, Below.refl _ _⟩
      case round =>
        obtain ⟨k, hk, rfl, hb⟩ := hrel
        have HBL := Lib.hid hb
        clear hb
        by_cases hlt : k < l.length
        · obtain ⟨kb, ko, hA, hkb, c0, c1, c2, c3⟩ := (HF.out.below HBL.out).ents.cell k hlt
          subst hA
          have nn := HNN.out.1 k hlt
          obtain ⟨z0, h0⟩ : ∃ y, y = l[k].key := ⟨_, rfl⟩
          obtain ⟨z3, h3⟩ : ∃ y, y = l[k].time := ⟨_, rfl⟩
          rw [← h0] at c0 nn
          rw [← h3] at c3 nn
          obtain ⟨r0, r1, r2, r3⟩ := (XW3.out.keep HBL.out).cells
          have z0' : (0 : Int) ≤ (k : Int) := by omega
          have z1' : (k : Int) < (l.length : Int) := by omega
          clear h0 h3 c1 c2 r0 r1 r2
          rcases Bool.eq_false_or_eq_true (z0.toList == s.toList) with he | he
          · by_cases htt : z3 ≤ (t : Int)
            · have hnn := nn he htt
              exact absurd hnn.1 (by decide)
            · have ht2 : decide (z3 ≤ (t : Int)) = false := by simpa using htt
              clear nn
              go_wp2_with fail
              go_quiet (fail)
              go_wp2
              go_roundw
              case rel => exact ⟨k + 1, by omega, by go_num, bel2 HBL.out (by rfl) (by rfl) (by rfl) (by rfl)⟩
              case measure => simp [intOf]; omega
          · clear nn
            go_wp2_with fail
            go_quiet (fail)
            go_wp2
            go_roundw
            case rel => exact ⟨k + 1, by omega, by go_num, bel2 HBL.out (by rfl) (by rfl) (by rfl) (by rfl)⟩
            case measure => simp [intOf]; omega
        · have hke : k = l.length := by omega
          subst hke
          obtain ⟨p20, p21, p22, p23⟩ := (XW3.out.keep HBL.out).cells
          have HBF := Lib.hid (HB.out.trans (HBL.out.mono HB.out.size))
          go_wp2
          go_ret
          exact ⟨rfl, HBF.out⟩
    | true =>
      go_wp2_with fail
      go_at_call 24
      refine Calls.mono HRN.out ?_
      rintro e w4 ⟨rfl, b4⟩
      replace XW2 := Lib.hid (XW2.out.keep b4)
      replace XW3 := Lib.hid (XW3.out.keep b4)
      replace HF := Lib.hid (HF.out.below b4)
      replace HB := Lib.hid (HB.out.trans (b4.mono HB.out.size))
      clear b4 p10 p11 p12 p13 p20 p21 p22 p23
      go_wp2_with fail
      go_loopw [10] (fun i wr => ∃ k : Nat, k ≤ l.length ∧ i = .int .i64 (k : Nat) ∧ Below w4.heap.size w4 wr) (fun i _ => l.length - (intOf i).toNat)
      case atStart => exact ⟨0, Nat.zero_le _, rfl, Below.refl _ _⟩
      case round =>
        obtain ⟨k, hk, rfl, hb⟩ := hrel
        have HBL := Lib.hid hb
        clear hb
        by_cases hlt : k < l.length
        · obtain ⟨kb, ko, hA, hkb, c0, c1, c2, c3⟩ := (HF.out.below HBL.out).ents.cell k hlt
          subst hA
          have nn := HNN.out.1 k hlt
          obtain ⟨z0, h0⟩ : ∃ y, y = l[k].key := ⟨_, rfl⟩
          obtain ⟨z3, h3⟩ : ∃ y, y = l[k].time := ⟨_, rfl⟩
          rw [← h0] at c0 nn
          rw [← h3] at c3 nn
          obtain ⟨r0, r1, r2, r3⟩ := (XW3.out.keep HBL.out).cells
          have z0' : (0 : Int) ≤ (k : Int) := by omega
          have z1' : (k : Int) < (l.length : Int) := by omega
          clear h0 h3 c1 c2 r0 r1 r2
          rcases Bool.eq_false_or_eq_true (z0.toList == s.toList) with he | he
          · by_cases htt : z3 ≤ (t : Int)
            · have hnn := nn he htt
              have hx3 := hnn.2
              have hx4 : ¬ x3 < z3 := by omega
              have hx5 : decide (x3 < z3) = false := by simpa using hx4
              clear nn hnn
              go_wp2_with fail
              go_quiet (fail)
              go_wp2
              go_roundw
              case rel => exact ⟨k + 1, by omega, by go_num, bel2 HBL.out (by rfl) (by rfl) (by rfl) (by rfl)⟩
              case measure => simp [intOf]; omega
            · have ht2 : decide (z3 ≤ (t : Int)) = false := by simpa using htt
              clear nn
              go_wp2_with fail
              go_quiet (fail)
              go_wp2
              go_roundw
              case rel => exact ⟨k + 1, by omega, by go_num, bel2 HBL.out (by rfl) (by rfl) (by rfl) (by rfl)⟩
              case measure => simp [intOf]; omega
          · clear nn
            go_wp2_with fail
            go_quiet (fail)
            go_wp2
            go_roundw
            case rel => exact ⟨k + 1, by omega, by go_num, bel2 HBL.out (by rfl) (by rfl) (by rfl) (by rfl)⟩
            case measure => simp [intOf]; omega
        · have hke : k = l.length := by omega
          subst hke
          obtain ⟨p20, p21, p22, p23⟩ := (XW3.out.keep HBL.out).cells
          have HBF := Lib.hid (HB.out.trans (HBL.out.mono HB.out.size))
          obtain ⟨he0, he3⟩ := HNN.out.2 (by trivial)
          have hes : (x0.toList == s.toList) = true := eqs_iff.mpr he0
          clear he0
          go_wp2
          go_ret
          exact ⟨rfl, HBF.out⟩
  · have HRN := Lib.hid (show Calls Try.prog 24 #[.slice A1 l.length c1] W3 fun e w' => e = .returned (.bool false) ∧ Below W3.heap.size W3 w' from by rw [← hr]; exact runS W3 W3.heap.size l.length c1 A1 l HF.out.ents (Nat.le_refl _) (by unfold maxLen; omega) HF.out.fit)
    clear hr
    cases b
    all_goals
      go_wp2_with fail
      go_at_call 24
      refine Calls.mono HRN.out ?_
      rintro e w4 ⟨rfl, b4⟩
      replace XW2 := Lib.hid (XW2.out.keep b4)
      replace XW3 := Lib.hid (XW3.out.keep b4)
      replace HB := Lib.hid (HB.out.trans (b4.mono HB.out.size))
      clear b4 p10 p11 p12 p13 p20 p21 p22 p23
      obtain ⟨p10, p11, p12, p13⟩ := XW2.out.cells
      obtain ⟨p20, p21, p22, p23⟩ := XW3.out.cells
      go_wp2
      go_ret
      exact ⟨rfl, HB.out⟩

end Go.Proofs.Ytjjalagmlbaafaa.W
