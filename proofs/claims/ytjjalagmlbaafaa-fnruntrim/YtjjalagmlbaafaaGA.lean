/-
  withoutLastGone; RunTrim, the model's and the program's.
-/
import Derived.Test.YtjjalagmlbaafaaEZ
namespace Go.Proofs.Ytjjalagmlbaafaa.W
open Go.RowKit K R

theorem eqs_comm (a b : ByteArray) : eqs a b = eqs b a := by
  rw [Bool.eq_iff_iff, eqs_iff, eqs_iff]
  exact ⟨Eq.symm, Eq.symm⟩
theorem last_new {l : List En} {k : Nat} (h : k + 1 < l.length) : lastI l k = newAt l (k + 1) := by
  unfold lastI newAt
  rw [decide_eq_false (by omega), decide_eq_false (by omega), Bool.false_or, Bool.false_or, Nat.add_sub_cancel, eqs_comm]

set_option maxHeartbeats 8000000 in
set_option maxRecDepth 100000 in
theorem botI (w : World) (B n c : Nat) (A : Option Addr) (l : List En) (hr : Ents w B A n l) (hB : B ≤ w.heap.size) (hn : n ≤ 1000000) :
    Calls Try.prog 71 #[.slice A n c] w fun e w' => ∃ v, e = .returned v ∧ OwnE w' w.heap.size v (selUp l (keepI l) l.length) ∧ Below w.heap.size w w' := by
  have hlen := hr.len
  subst hlen
  have HR := Lib.hid hr
  clear hr
  go_enter Try.func71, Try.ntmps71
  go_wp2_with fail
  go_loopw [3, 9] (fun s i wr => ∃ (v : Value) (k : Nat), k ≤ l.length ∧ i = .int .i64 (k : Nat) ∧ s = v ∧ OwnE wr w.heap.size v (selUp l (keepI l) k) ∧ Below w.heap.size w wr) (fun _ i _ => l.length - (intOf i).toNat)
  case atStart => exact ⟨_, 0, Nat.zero_le _, rfl, rfl, nilE2 _ _, Below.refl _ _⟩
  case round =>
    obtain ⟨v, k, hk, rfl, hv, ho, hb⟩ := hrel
    have hv1 := hv.symm
    clear hv
    subst hv1
    have HOL := Lib.hid ho
    have HBL := Lib.hid hb
    clear ho hb
    by_cases hlt : k < l.length
    · have hsl := selUp_len l (keepI l) k
      obtain ⟨OUT, hOUT⟩ : ∃ OUT, OUT = selUp l (keepI l) k := ⟨_, rfl⟩
      have HOUT := Lib.hid hOUT
      rw [← hOUT] at HOL hsl
      clear hOUT
      obtain ⟨kb, ko, hA, hkb, d0, d1, d2, d3⟩ := (HR.out.below HBL.out hB).cell k hlt
      subst hA
      obtain ⟨x0, h0⟩ : ∃ y, y = l[k].key := ⟨_, rfl⟩
      rw [← h0] at d0
      obtain ⟨x1, h1⟩ : ∃ y, y = l[k].val := ⟨_, rfl⟩
      rw [← h1] at d1
      obtain ⟨x2, h2⟩ : ∃ y, y = l[k].gone := ⟨_, rfl⟩
      rw [← h2] at d2
      obtain ⟨x3, h3⟩ : ∃ y, y = l[k].time := ⟨_, rfl⟩
      rw [← h3] at d3
      have HE := Lib.hid (show en l (k) = ⟨x0, x1, x2, x3⟩ by rw [en_at (by omega), h0, h1, h2, h3])
      clear h0 h1 h2 h3
      have z0 : (0 : Int) ≤ (k : Int) := by omega
      have z1 : (k : Int) < (l.length : Int) := by omega
      obtain ⟨W1, hW1⟩ : ∃ W, W = wr.alloc (.cells #[.string x0, .int .i64 x1, .bool x2, .int .i64 x3] 33) := ⟨_, rfl⟩
      have b1 : Below wr.heap.size wr W1 := by rw [hW1]; exact new_box wr x0 x1 x2 x3
      have HBX := Lib.hid (show Box W1 wr.heap.size x0 x1 x2 x3 by rw [hW1]; exact Box.new _ _ _ _ _)
      have HO1 := Lib.hid (rowBelow HOL.out b1)
      have HB1 := Lib.hid (HBL.out.trans (b1.mono HBL.out.size))
      have HW1 := Lib.hid hW1
      clear hW1 b1 HOL
      go_upto_region 5 with fail
      rw [← HW1.out]
      clear d0 d1 d2 d3 HBL
      by_cases hend : k + 1 < l.length
      · have he1 : ((k : Int) + 1 == (l.length : Int)) = false := by simp; omega
        have HLN := Lib.hid (last_new hend)
        have HFO := Lib.hid (show Calls Try.prog 73 #[.slice (some ⟨kb, ko, none⟩) l.length c, .int .i64 ((k : Int) + 1)] W1 fun e w' => e = .returned (.bool (!newAt l (k + 1))) ∧ Same W1 w' from followsI W1 B l.length c (k + 1) _ l (HR.out.below HB1.out hB) (by unfold maxLen; omega) hend)
        obtain ⟨q, hq⟩ : ∃ q, q = newAt l (k + 1) := ⟨_, rfl⟩
        rw [← hq] at HFO HLN
        clear hq
        go_wp2_with fail
        go_at_call 73
        refine Calls.mono HFO.out ?_
        rintro e w2 ⟨rfl, hs2⟩
        have b2 := hs2.below W1.heap.size
        have HO2 := Lib.hid (rowBelow HO1.out b2)
        have HB2 := Lib.hid (HB1.out.trans (b2.mono HB1.out.size))
        obtain ⟨c0, c1, c2, c3⟩ := (HBX.out.keep b2).cells
        clear hs2 b2 HO1 HB1 HBX HFO
        cases q with
        | true =>
          have HLA := Lib.hid HLN.out
          cases x2 with
          | false =>
            have HN := Lib.hid (show selUp l (keepI l) (k + 1) = OUT ++ [⟨x0, x1, false, x3⟩] by rw [selUp_yes (by unfold keepI; rw [HE.out, HLA.out]; rfl), HOUT.out, HE.out])
            have HOA := Lib.hid (show OwnE (w2.alloc (.cells #[.string x0, .int .i64 x1, .bool false, .int .i64 x3] 33)) w.heap.size v OUT from World.ownsRow.alloc HO2.out _)
            have HBA := Lib.hid (HB2.out.alloc HB2.out.size (.cells #[.string x0, .int .i64 x1, .bool false, .int .i64 x3] 33))
            have hc0 : (w2.alloc (.cells #[.string x0, .int .i64 x1, .bool false, .int .i64 x3] 33)).cell? ⟨w2.heap.size, 0, none⟩ = some (.string x0) := by rw [cell_of_row _ _ _ _ _ _ (heap_alloc_new _ _)]; rfl
            have hc1 : (w2.alloc (.cells #[.string x0, .int .i64 x1, .bool false, .int .i64 x3] 33)).cell? ⟨w2.heap.size, 1, none⟩ = some (.int .i64 x1) := by rw [cell_of_row _ _ _ _ _ _ (heap_alloc_new _ _)]; rfl
            have hc2 : (w2.alloc (.cells #[.string x0, .int .i64 x1, .bool false, .int .i64 x3] 33)).cell? ⟨w2.heap.size, 2, none⟩ = some (.bool false) := by rw [cell_of_row _ _ _ _ _ _ (heap_alloc_new _ _)]; rfl
            have hc3 : (w2.alloc (.cells #[.string x0, .int .i64 x1, .bool false, .int .i64 x3] 33)).cell? ⟨w2.heap.size, 3, none⟩ = some (.int .i64 x3) := by rw [cell_of_row _ _ _ _ _ _ (heap_alloc_new _ _)]; rfl
            go_wp2_with (at_builtin; refine app_en rfl (.tmp 33) (.tmp 35) rfl (w2.alloc (.cells #[.string x0, .int .i64 x1, .bool false, .int .i64 x3] 33)) w.heap.size v OUT rfl HOA.out w2.heap.size 1 ⟨x0, x1, false, x3⟩ rfl hc0 hc1 hc2 hc3 (by omega) HBA.out.size ?_; intro vb wb ob gb; have OB := Lib.hid ob; have BB := Lib.hid (HBA.out.grown gb HBA.out.size fun k hk => (World.ownsRow.lt HOA.out k hk).1); clear ob gb)
            go_roundw
            case rel => exact ⟨_, k + 1, by omega, by go_num, rfl, by rw [HN.out]; exact OB.out, BB.out⟩
            case measure => simp [intOf]; omega
          | true =>
            have HN := Lib.hid (show selUp l (keepI l) (k + 1) = OUT by rw [selUp_no (by unfold keepI; rw [HE.out, HLA.out]; rfl), HOUT.out])
            go_wp2
            go_roundw
            case rel => exact ⟨_, k + 1, by omega, by go_num, rfl, by rw [HN.out]; exact HO2.out, HB2.out⟩
            case measure => simp [intOf]; omega
        | false =>
          have HLA := Lib.hid HLN.out
          cases x2 with
          | false =>
            have HN := Lib.hid (show selUp l (keepI l) (k + 1) = OUT ++ [⟨x0, x1, false, x3⟩] by rw [selUp_yes (by unfold keepI; rw [HE.out, HLA.out]; rfl), HOUT.out, HE.out])
            have HOA := Lib.hid (show OwnE (w2.alloc (.cells #[.string x0, .int .i64 x1, .bool false, .int .i64 x3] 33)) w.heap.size v OUT from World.ownsRow.alloc HO2.out _)
            have HBA := Lib.hid (HB2.out.alloc HB2.out.size (.cells #[.string x0, .int .i64 x1, .bool false, .int .i64 x3] 33))
            have hc0 : (w2.alloc (.cells #[.string x0, .int .i64 x1, .bool false, .int .i64 x3] 33)).cell? ⟨w2.heap.size, 0, none⟩ = some (.string x0) := by rw [cell_of_row _ _ _ _ _ _ (heap_alloc_new _ _)]; rfl
            have hc1 : (w2.alloc (.cells #[.string x0, .int .i64 x1, .bool false, .int .i64 x3] 33)).cell? ⟨w2.heap.size, 1, none⟩ = some (.int .i64 x1) := by rw [cell_of_row _ _ _ _ _ _ (heap_alloc_new _ _)]; rfl
            have hc2 : (w2.alloc (.cells #[.string x0, .int .i64 x1, .bool false, .int .i64 x3] 33)).cell? ⟨w2.heap.size, 2, none⟩ = some (.bool false) := by rw [cell_of_row _ _ _ _ _ _ (heap_alloc_new _ _)]; rfl
            have hc3 : (w2.alloc (.cells #[.string x0, .int .i64 x1, .bool false, .int .i64 x3] 33)).cell? ⟨w2.heap.size, 3, none⟩ = some (.int .i64 x3) := by rw [cell_of_row _ _ _ _ _ _ (heap_alloc_new _ _)]; rfl
            go_wp2_with (at_builtin; refine app_en rfl (.tmp 33) (.tmp 35) rfl (w2.alloc (.cells #[.string x0, .int .i64 x1, .bool false, .int .i64 x3] 33)) w.heap.size v OUT rfl HOA.out w2.heap.size 1 ⟨x0, x1, false, x3⟩ rfl hc0 hc1 hc2 hc3 (by omega) HBA.out.size ?_; intro vb wb ob gb; have OB := Lib.hid ob; have BB := Lib.hid (HBA.out.grown gb HBA.out.size fun k hk => (World.ownsRow.lt HOA.out k hk).1); clear ob gb)
            go_roundw
            case rel => exact ⟨_, k + 1, by omega, by go_num, rfl, by rw [HN.out]; exact OB.out, BB.out⟩
            case measure => simp [intOf]; omega
          | true =>
            have HN := Lib.hid (show selUp l (keepI l) (k + 1) = OUT ++ [⟨x0, x1, true, x3⟩] by rw [selUp_yes (by unfold keepI; rw [HE.out, HLA.out]; rfl), HOUT.out, HE.out])
            have HOA := Lib.hid (show OwnE (w2.alloc (.cells #[.string x0, .int .i64 x1, .bool true, .int .i64 x3] 33)) w.heap.size v OUT from World.ownsRow.alloc HO2.out _)
            have HBA := Lib.hid (HB2.out.alloc HB2.out.size (.cells #[.string x0, .int .i64 x1, .bool true, .int .i64 x3] 33))
            have hc0 : (w2.alloc (.cells #[.string x0, .int .i64 x1, .bool true, .int .i64 x3] 33)).cell? ⟨w2.heap.size, 0, none⟩ = some (.string x0) := by rw [cell_of_row _ _ _ _ _ _ (heap_alloc_new _ _)]; rfl
            have hc1 : (w2.alloc (.cells #[.string x0, .int .i64 x1, .bool true, .int .i64 x3] 33)).cell? ⟨w2.heap.size, 1, none⟩ = some (.int .i64 x1) := by rw [cell_of_row _ _ _ _ _ _ (heap_alloc_new _ _)]; rfl
            have hc2 : (w2.alloc (.cells #[.string x0, .int .i64 x1, .bool true, .int .i64 x3] 33)).cell? ⟨w2.heap.size, 2, none⟩ = some (.bool true) := by rw [cell_of_row _ _ _ _ _ _ (heap_alloc_new _ _)]; rfl
            have hc3 : (w2.alloc (.cells #[.string x0, .int .i64 x1, .bool true, .int .i64 x3] 33)).cell? ⟨w2.heap.size, 3, none⟩ = some (.int .i64 x3) := by rw [cell_of_row _ _ _ _ _ _ (heap_alloc_new _ _)]; rfl
            go_wp2_with (at_builtin; refine app_en rfl (.tmp 33) (.tmp 35) rfl (w2.alloc (.cells #[.string x0, .int .i64 x1, .bool true, .int .i64 x3] 33)) w.heap.size v OUT rfl HOA.out w2.heap.size 1 ⟨x0, x1, true, x3⟩ rfl hc0 hc1 hc2 hc3 (by omega) HBA.out.size ?_; intro vb wb ob gb; have OB := Lib.hid ob; have BB := Lib.hid (HBA.out.grown gb HBA.out.size fun k hk => (World.ownsRow.lt HOA.out k hk).1); clear ob gb)
            go_roundw
            case rel => exact ⟨_, k + 1, by omega, by go_num, rfl, by rw [HN.out]; exact OB.out, BB.out⟩
            case measure => simp [intOf]; omega
      · have hend3 : k + 1 = l.length := by omega
        have he1 : ((k : Int) + 1 == (l.length : Int)) = true := by simp; omega
        have HLA := Lib.hid (last_end (r := l) (i := k) hend3)
        obtain ⟨c0, c1, c2, c3⟩ := HBX.out.cells
        clear hend3
        cases x2 with
        | false =>
          have HN := Lib.hid (show selUp l (keepI l) (k + 1) = OUT ++ [⟨x0, x1, false, x3⟩] by rw [selUp_yes (by unfold keepI; rw [HE.out, HLA.out]; rfl), HOUT.out, HE.out])
          have HOA := Lib.hid (show OwnE (W1.alloc (.cells #[.string x0, .int .i64 x1, .bool false, .int .i64 x3] 33)) w.heap.size v OUT from World.ownsRow.alloc HO1.out _)
          have HBA := Lib.hid (HB1.out.alloc HB1.out.size (.cells #[.string x0, .int .i64 x1, .bool false, .int .i64 x3] 33))
          have hc0 : (W1.alloc (.cells #[.string x0, .int .i64 x1, .bool false, .int .i64 x3] 33)).cell? ⟨W1.heap.size, 0, none⟩ = some (.string x0) := by rw [cell_of_row _ _ _ _ _ _ (heap_alloc_new _ _)]; rfl
          have hc1 : (W1.alloc (.cells #[.string x0, .int .i64 x1, .bool false, .int .i64 x3] 33)).cell? ⟨W1.heap.size, 1, none⟩ = some (.int .i64 x1) := by rw [cell_of_row _ _ _ _ _ _ (heap_alloc_new _ _)]; rfl
          have hc2 : (W1.alloc (.cells #[.string x0, .int .i64 x1, .bool false, .int .i64 x3] 33)).cell? ⟨W1.heap.size, 2, none⟩ = some (.bool false) := by rw [cell_of_row _ _ _ _ _ _ (heap_alloc_new _ _)]; rfl
          have hc3 : (W1.alloc (.cells #[.string x0, .int .i64 x1, .bool false, .int .i64 x3] 33)).cell? ⟨W1.heap.size, 3, none⟩ = some (.int .i64 x3) := by rw [cell_of_row _ _ _ _ _ _ (heap_alloc_new _ _)]; rfl
          go_wp2_with (at_builtin; refine app_en rfl (.tmp 33) (.tmp 35) rfl (W1.alloc (.cells #[.string x0, .int .i64 x1, .bool false, .int .i64 x3] 33)) w.heap.size v OUT rfl HOA.out W1.heap.size 1 ⟨x0, x1, false, x3⟩ rfl hc0 hc1 hc2 hc3 (by omega) HBA.out.size ?_; intro vb wb ob gb; have OB := Lib.hid ob; have BB := Lib.hid (HBA.out.grown gb HBA.out.size fun k hk => (World.ownsRow.lt HOA.out k hk).1); clear ob gb)
          go_roundw
          case rel => exact ⟨_, k + 1, by omega, by go_num, rfl, by rw [HN.out]; exact OB.out, BB.out⟩
          case measure => simp [intOf]; omega
        | true =>
          have HN := Lib.hid (show selUp l (keepI l) (k + 1) = OUT by rw [selUp_no (by unfold keepI; rw [HE.out, HLA.out]; rfl), HOUT.out])
          go_wp2
          go_roundw
          case rel => exact ⟨_, k + 1, by omega, by go_num, rfl, by rw [HN.out]; exact HO1.out, HB1.out⟩
          case measure => simp [intOf]; omega
    · have hke : k = l.length := by omega
      subst hke
      go_wp2
      go_ret
      exact ⟨_, rfl, HOL.out, HBL.out⟩

end Go.Proofs.Ytjjalagmlbaafaa.W
