/-
  RunList, the model's and the program's.
-/
import Derived.Test.YtfpgjkanmanajaaEQ
namespace Go.Proofs.Ytfpgjkanmanajaa.W
open Go.RowKit K R

theorem row_ne {w : World} {E1 E2 : TypeId} {sz1 sz2 b1 b2 n1 n2 : Nat} {v1 v2 : Value} {cs1 cs2 : List Value} (h1 : w.ownsRow b1 E1 sz1 v1 n1 cs1) (h2 : w.ownsRow b2 E2 sz2 v2 n2 cs2) (hE : E1 ≠ E2) : v1.ownBlock = none ∨ v1.ownBlock ≠ v2.ownBlock := by
  rcases h1.2 with ⟨hv, _⟩ | ⟨g, cap, cur, hv, hb, hg, _⟩
  · subst hv; exact .inl rfl
  · rcases h2.2 with ⟨hv2, _⟩ | ⟨g2, cap2, cur2, hv2, hb2, hg2, _⟩
    · subst hv hv2; exact .inr (by intro x; cases x)
    · subst hv hv2
      refine .inr fun x => hE ?_
      have x2 : some g = some g2 := x
      injection x2 with x3
      subst x3
      rw [hg] at hg2
      injection hg2 with e
      injection e
theorem strs_of {w : World} {base n c : Nat} {A : Option Addr} {l : List ByteArray} (h : Own w base (.slice A n c) l) : Strs w w.heap.size A n l := by
  obtain ⟨A', c', hv, -, -, hs⟩ := h.parts
  injection hv with e1 e2 e3
  subst e1 e2
  exact hs
theorem fm_some {α β : Type} {ks : List α} {p : α → Option β} {k : Nat} {y : β} (h : k < ks.length) (hp : p ks[k] = some y) : (ks.take (k + 1)).filterMap p = (ks.take k).filterMap p ++ [y] := by
  rw [List.take_succ_eq_append_getElem h, List.filterMap_append]
  simp [hp]
theorem fm_none {α β : Type} {ks : List α} {p : α → Option β} {k : Nat} (h : k < ks.length) (hp : p ks[k] = none) : (ks.take (k + 1)).filterMap p = (ks.take k).filterMap p := by
  rw [List.take_succ_eq_append_getElem h, List.filterMap_append]
  simp [hp]
theorem pickE_none {r : List En} {f u k : ByteArray} {t : Int} (h : ∀ e, atL r k t = some e → e.gone = true ∨ lt k f = true ∨ lt u k = true) : pickE r f u t k = none := by
  cases hp : pickE r f u t k with
  | none => rfl
  | some e =>
    obtain ⟨h1, h2, h3, h4⟩ := pick_some.mp hp
    rcases h e h1 with g | g | g
    · rw [h2] at g; cases g
    · rw [h3] at g; cases g
    · rw [h4] at g; cases g
theorem gt_of {a b : ByteArray} (h1 : Op.bytesLess a.toList b.toList = false) (h2 : (a.toList == b.toList) = false) : lt b a = true := by
  rcases Bool.eq_false_or_eq_true (lt b a) with h | h
  · exact h
  · exact absurd (lt_total h1 h) (eqs_false.mp h2)
theorem ge_of {a b : ByteArray} (h : Op.bytesLess a.toList b.toList = true ∨ (a.toList == b.toList) = true) : lt b a = false := by
  rcases h with h | h
  · exact lt_asymm h
  · rw [eqs_iff.mp h]; exact lt_irrefl b
/-- how a string lies to another one -/
theorem tri2 (a b : ByteArray) : (Op.bytesLess a.toList b.toList = true ∧ (a.toList == b.toList) = false) ∨ (Op.bytesLess a.toList b.toList = false ∧ (a.toList == b.toList) = true) ∨ (Op.bytesLess a.toList b.toList = false ∧ (a.toList == b.toList) = false) := by
  rcases tri a b with h | ⟨h1, h2⟩ | h
  · exact .inl h
  · exact .inr (.inl ⟨h1, by rw [h2]; simp⟩)
  · exact .inr (.inr h)
theorem filt_len {r : List En} {f u : ByteArray} {t : Int} (ks : List ByteArray) (k : Nat) : ((ks.take k).filterMap (pickE r f u t)).length ≤ ks.length :=
  Nat.le_trans (List.length_filterMap_le _ _) (by rw [List.length_take]; omega)

set_option maxHeartbeats 8000000 in
set_option maxRecDepth 100000 in
theorem listS (w : World) (B n c : Nat) (A : Option Addr) (l : List En) (f u : ByteArray) (t : Int) (hr : Ents w B A n l) (hB : B ≤ w.heap.size) (hn : n ≤ 40) :
    Calls Try.prog 82 #[.slice A n c, .string f, .string u, .int .i64 t] w fun e w' => ∃ v, e = .returned v ∧ OwnE w' w.heap.size v (listL l f u t) ∧ Below w.heap.size w w' := by
  have hlen := hr.len
  subst hlen
  have HR := Lib.hid hr
  clear hr
  have HRA := Lib.hid (HR.out.below ((Below.refl w.heap.size w).alloc (Nat.le_refl _) (.cells #[] 33)) hB)
  go_enter Try.func82, Try.ntmps82
  go_wp2_with fail
  go_at_call 68
  refine Calls.mono (keysOfS _ B l.length c A l HRA.out (by simp; omega) (by omega)) ?_
  rintro e w1 ⟨kv, rfl, ok1, b1⟩
  have b0 : Below w.heap.size w (w.alloc (.cells #[] 33)) := (Below.refl w.heap.size w).alloc (Nat.le_refl _) _
  obtain ⟨A2, c2, hkv, -, -, -⟩ := ok1.parts
  subst hkv
  have hkl := keysL_len l
  have HK1 := Lib.hid (ok1.base b0.size)
  have HO1 := Lib.hid (rowBelow (emptyE w) b1)
  have HB1 := Lib.hid (b0.trans (b1.mono b0.size))
  clear ok1 b1 b0 HRA
  obtain ⟨ks, hks⟩ : ∃ ks, ks = keysL l := ⟨_, rfl⟩
  have HKS := Lib.hid hks
  rw [← hks] at HK1 hkl
  rw [← hks]
  clear hks
  go_wp2_with fail
  go_loopw [9, 11] (fun out i wr => ∃ (v : Value) (k : Nat), k ≤ ks.length ∧ i = .int .i64 (k : Nat) ∧ out = v ∧ OwnE wr w.heap.size v ((ks.take k).filterMap (pickE l f u t)) ∧ Own wr w.heap.size (.slice A2 ks.length c2) ks ∧ Below w.heap.size w wr) (fun _ i _ => ks.length - (intOf i).toNat)
  case atStart => exact ⟨_, 0, Nat.zero_le _, rfl, rfl, HO1.out, HK1.out, HB1.out⟩
  case round =>
    obtain ⟨v, k, hk, rfl, hv, ho, hkk, hb⟩ := hrel
    have hv1 := hv.symm
    clear hv
    subst hv1
    have HOL := Lib.hid ho
    have HKL := Lib.hid hkk
    have HBL := Lib.hid hb
    clear ho hkk hb HK1 HO1 HB1
    by_cases hlt : k < ks.length
    · obtain ⟨kb, ko, hA, hkb, d0⟩ := (strs_of HKL.out).cell k hlt
      subst hA
      obtain ⟨s, hs⟩ : ∃ s, s = ks[k] := ⟨_, rfl⟩
      rw [← hs] at d0
      have HS := Lib.hid hs
      have z0 : (0 : Int) ≤ (k : Int) := by omega
      have z1 : (k : Int) < (ks.length : Int) := by omega
      have hol := filt_len (r := l) (f := f) (u := u) (t := t) ks k
      obtain ⟨OUT, hOUT⟩ : ∃ OUT, OUT = (ks.take k).filterMap (pickE l f u t) := ⟨_, rfl⟩
      have HOUT := Lib.hid hOUT
      rw [← hOUT] at HOL hol
      obtain ⟨x0, x1, x2, x3, b, hx, hbs⟩ := at_letters (atL l s t)
      have HX := Lib.hid hx
      have HBS := Lib.hid hbs
      have HC := Lib.hid (show Calls Try.prog 69 #[.slice A l.length c, .string s, .int .i64 t] wr (AtA wr x0 x1 x2 x3 b) from by
        have h := atS wr B l.length c A l s t (HR.out.below HBL.out hB) (Nat.le_trans hB HBL.out.size) (by unfold maxLen; omega)
        unfold atV at h
        rw [hx, hbs] at h
        exact h)
      clear hs hOUT hx hbs
      go_wp2_with fail
      go_at_call 69
      refine Calls.mono HC.out ?_
      rintro e w2 ⟨rfl, b_⟩
      obtain ⟨W2, hW2⟩ : ∃ W, W = w2.alloc (.cells #[.string x0, .int .i64 x1, .bool x2, .int .i64 x3] 33) := ⟨_, rfl⟩
      have bb_ : Below wr.heap.size wr W2 := by rw [hW2]; exact b_.trans ((new_box w2 x0 x1 x2 x3).mono b_.size)
      obtain ⟨p0, p1, p2, p3⟩ := (show Box W2 w2.heap.size x0 x1 x2 x3 by rw [hW2]; exact Box.new _ _ _ _ _).cells
      have HO2 := Lib.hid (rowBelow HOL.out bb_)
      have HK2 := Lib.hid (rowBelow HKL.out bb_)
      have HB2 := Lib.hid (HBL.out.trans (bb_.mono HBL.out.size))
      have d1 : W2.cell? ⟨kb, ko + k, none⟩ = some (.string s) := (bb_.cell (p := ⟨kb, ko + k, none⟩) hkb).trans d0
      have HW2 := Lib.hid hW2
      clear b_ bb_ hW2 HC HOL HKL HBL
      go_upto_region 7 with fail
      rw [← HW2.out]
      cases b with
      | false =>
        have HN := Lib.hid (show (ks.take (k + 1)).filterMap (pickE l f u t) = OUT from by
          rw [HOUT.out]
          exact fm_none hlt (pickE_none fun e he => by rw [← HS.out] at he ⊢; rw [he] at HBS; exact absurd HBS.out (by simp)))
        go_wp2
        go_roundw
        case rel => exact ⟨_, k + 1, by omega, by go_num, rfl, by rw [HN.out]; exact HO2.out, HK2.out, HB2.out⟩
        case measure => simp [intOf]; omega
      | true =>
        cases x2 with
        | true =>
          have HN := Lib.hid (show (ks.take (k + 1)).filterMap (pickE l f u t) = OUT from by
            rw [HOUT.out]
            exact fm_none hlt (pickE_none fun e he => by rw [← HS.out] at he ⊢; have h := some_of HX.out HBS.out; rw [he] at h; injection h with h; rw [h]; exact .inl rfl))
          go_wp2
          go_roundw
          case rel => exact ⟨_, k + 1, by omega, by go_num, rfl, by rw [HN.out]; exact HO2.out, HK2.out, HB2.out⟩
          case measure => simp [intOf]; omega
        | false =>
          rcases Bool.eq_false_or_eq_true (Op.bytesLess s.toList f.toList) with f1 | f1
          · have F1 := Lib.hid f1
            have HN := Lib.hid (show (ks.take (k + 1)).filterMap (pickE l f u t) = OUT from by
              rw [HOUT.out]
              exact fm_none hlt (pickE_none fun e he => by rw [← HS.out] at he ⊢; exact .inr (.inl F1.out)))
            go_wp2
            go_roundw
            case rel => exact ⟨_, k + 1, by omega, by go_num, rfl, by rw [HN.out]; exact HO2.out, HK2.out, HB2.out⟩
            case measure => simp [intOf]; omega
          · have e1 : lt s f = false := f1
            rcases tri2 s u with ⟨u1, u2⟩ | ⟨u1, u2⟩ | ⟨u1, u2⟩
            · have e2 : lt u s = false := ge_of (.inl u1)
              have HN := Lib.hid (show (ks.take (k + 1)).filterMap (pickE l f u t) = OUT ++ [⟨x0, x1, false, x3⟩] from by
                rw [HOUT.out]
                exact fm_some hlt (by rw [← HS.out]; exact pick_some.mpr ⟨some_of HX.out HBS.out, rfl, e1, e2⟩))
              have HOA := Lib.hid (show OwnE (W2.alloc (.cells #[.string x0, .int .i64 x1, .bool false, .int .i64 x3] 33)) w.heap.size v OUT from World.ownsRow.alloc HO2.out _)
              have HBA := Lib.hid (HB2.out.alloc HB2.out.size (.cells #[.string x0, .int .i64 x1, .bool false, .int .i64 x3] 33))
              have HKA := Lib.hid (HK2.out.alloc (.cells #[.string x0, .int .i64 x1, .bool false, .int .i64 x3] 33))
              have hc0 : (W2.alloc (.cells #[.string x0, .int .i64 x1, .bool false, .int .i64 x3] 33)).cell? ⟨W2.heap.size, 0, none⟩ = some (.string x0) := by rw [cell_of_row _ _ _ _ _ _ (heap_alloc_new _ _)]; rfl
              have hc1 : (W2.alloc (.cells #[.string x0, .int .i64 x1, .bool false, .int .i64 x3] 33)).cell? ⟨W2.heap.size, 1, none⟩ = some (.int .i64 x1) := by rw [cell_of_row _ _ _ _ _ _ (heap_alloc_new _ _)]; rfl
              have hc2 : (W2.alloc (.cells #[.string x0, .int .i64 x1, .bool false, .int .i64 x3] 33)).cell? ⟨W2.heap.size, 2, none⟩ = some (.bool false) := by rw [cell_of_row _ _ _ _ _ _ (heap_alloc_new _ _)]; rfl
              have hc3 : (W2.alloc (.cells #[.string x0, .int .i64 x1, .bool false, .int .i64 x3] 33)).cell? ⟨W2.heap.size, 3, none⟩ = some (.int .i64 x3) := by rw [cell_of_row _ _ _ _ _ _ (heap_alloc_new _ _)]; rfl
              go_wp2_with (at_builtin; refine app_en rfl (.tmp 55) (.tmp 57) rfl (W2.alloc (.cells #[.string x0, .int .i64 x1, .bool false, .int .i64 x3] 33)) w.heap.size v OUT rfl HOA.out W2.heap.size 1 ⟨x0, x1, false, x3⟩ rfl hc0 hc1 hc2 hc3 (by omega) HBA.out.size ?_; intro vb wb ob gb; have OB := Lib.hid ob; have BB := Lib.hid (HBA.out.grown gb HBA.out.size fun k hk => (World.ownsRow.lt HOA.out k hk).1); have KB := Lib.hid (World.ownsRow.kept HKA.out gb (row_ne HKA.out HOA.out (by decide))); clear ob gb)
              go_roundw
              case rel => exact ⟨_, k + 1, by omega, by go_num, rfl, by rw [HN.out]; exact OB.out, KB.out, BB.out⟩
              case measure => simp [intOf]; omega
            · have e2 : lt u s = false := ge_of (.inr u2)
              have HN := Lib.hid (show (ks.take (k + 1)).filterMap (pickE l f u t) = OUT ++ [⟨x0, x1, false, x3⟩] from by
                rw [HOUT.out]
                exact fm_some hlt (by rw [← HS.out]; exact pick_some.mpr ⟨some_of HX.out HBS.out, rfl, e1, e2⟩))
              have HOA := Lib.hid (show OwnE (W2.alloc (.cells #[.string x0, .int .i64 x1, .bool false, .int .i64 x3] 33)) w.heap.size v OUT from World.ownsRow.alloc HO2.out _)
              have HBA := Lib.hid (HB2.out.alloc HB2.out.size (.cells #[.string x0, .int .i64 x1, .bool false, .int .i64 x3] 33))
              have HKA := Lib.hid (HK2.out.alloc (.cells #[.string x0, .int .i64 x1, .bool false, .int .i64 x3] 33))
              have hc0 : (W2.alloc (.cells #[.string x0, .int .i64 x1, .bool false, .int .i64 x3] 33)).cell? ⟨W2.heap.size, 0, none⟩ = some (.string x0) := by rw [cell_of_row _ _ _ _ _ _ (heap_alloc_new _ _)]; rfl
              have hc1 : (W2.alloc (.cells #[.string x0, .int .i64 x1, .bool false, .int .i64 x3] 33)).cell? ⟨W2.heap.size, 1, none⟩ = some (.int .i64 x1) := by rw [cell_of_row _ _ _ _ _ _ (heap_alloc_new _ _)]; rfl
              have hc2 : (W2.alloc (.cells #[.string x0, .int .i64 x1, .bool false, .int .i64 x3] 33)).cell? ⟨W2.heap.size, 2, none⟩ = some (.bool false) := by rw [cell_of_row _ _ _ _ _ _ (heap_alloc_new _ _)]; rfl
              have hc3 : (W2.alloc (.cells #[.string x0, .int .i64 x1, .bool false, .int .i64 x3] 33)).cell? ⟨W2.heap.size, 3, none⟩ = some (.int .i64 x3) := by rw [cell_of_row _ _ _ _ _ _ (heap_alloc_new _ _)]; rfl
              go_wp2_with (at_builtin; refine app_en rfl (.tmp 55) (.tmp 57) rfl (W2.alloc (.cells #[.string x0, .int .i64 x1, .bool false, .int .i64 x3] 33)) w.heap.size v OUT rfl HOA.out W2.heap.size 1 ⟨x0, x1, false, x3⟩ rfl hc0 hc1 hc2 hc3 (by omega) HBA.out.size ?_; intro vb wb ob gb; have OB := Lib.hid ob; have BB := Lib.hid (HBA.out.grown gb HBA.out.size fun k hk => (World.ownsRow.lt HOA.out k hk).1); have KB := Lib.hid (World.ownsRow.kept HKA.out gb (row_ne HKA.out HOA.out (by decide))); clear ob gb)
              go_roundw
              case rel => exact ⟨_, k + 1, by omega, by go_num, rfl, by rw [HN.out]; exact OB.out, KB.out, BB.out⟩
              case measure => simp [intOf]; omega
            · have G := Lib.hid (gt_of u1 u2)
              have HN := Lib.hid (show (ks.take (k + 1)).filterMap (pickE l f u t) = OUT from by
                rw [HOUT.out]
                exact fm_none hlt (pickE_none fun e he => by rw [← HS.out] at he ⊢; exact .inr (.inr G.out)))
              go_wp2
              go_roundw
              case rel => exact ⟨_, k + 1, by omega, by go_num, rfl, by rw [HN.out]; exact HO2.out, HK2.out, HB2.out⟩
              case measure => simp [intOf]; omega
    · have hke : k = ks.length := by omega
      subst hke
      have HE := Lib.hid (show (ks.take ks.length).filterMap (pickE l f u t) = listL l f u t by rw [List.take_length, HKS.out]; rfl)
      go_wp2
      go_ret
      exact ⟨_, rfl, by rw [← HE.out]; exact HOL.out, HBL.out⟩

end Go.Proofs.Ytfpgjkanmanajaa.W
