/-
  RunList, the model's and the program's: the whole functions.
-/
import Derived.Test.YtjjalagmlbaafaaES
namespace Go.Proofs.Ytjjalagmlbaafaa.W
open Go.RowKit K R

/-- all that is there, of what is a run -/
def listO (l : List En) (f u : ByteArray) (t : Int) : List En := if runB l = true then listL l f u t else []
/-- a new slice of entries, nil or not -/
def MadeE (w : World) (l : List En) (e : Ending) (w' : World) : Prop := ∃ v, e = .returned v ∧ OwnE w' w.heap.size v l ∧ Below w.heap.size w w'

set_option maxHeartbeats 1000000 in
theorem runListS (w : World) (B n c : Nat) (A : Option Addr) (l : List En) (f u : ByteArray) (t : Int) (hr : Ents w B A n l) (hB : B ≤ w.heap.size) (hn : n ≤ maxLen) (hf : ∀ e ∈ l, e.key.size ≤ maxLen) :
    Calls Try.prog 42 #[.slice A n c, .string f, .string u, .int .i64 t] w (MadeE w (listO l f u t)) := by
  have hlen := hr.len
  subst hlen
  rcases Bool.eq_false_or_eq_true (runB l) with ha | ha
  · have HJ := Lib.hid (show listO l f u t = listL l f u t by unfold listO; rw [if_pos ha])
    have hl := run_len ha
    have HA := Lib.hid (show Calls Try.prog 24 #[.slice A l.length c] w fun e w' => e = .returned (.bool true) ∧ Below w.heap.size w w' from by rw [← ha]; exact runS w B l.length c A l hr hB hn hf)
    have HR := Lib.hid hr
    clear ha hr hf
    go_enter Try.func42, Try.ntmps42
    go_wp2_with fail
    go_at_call 24
    refine HA.out.mono ?_
    rintro e w1 ⟨rfl, b1⟩
    have HB1 := Lib.hid b1
    clear b1
    go_wp2_with fail
    go_at_call 77
    refine Calls.mono (listS w1 B l.length c A l f u t (HR.out.below HB1.out hB) (Nat.le_trans hB HB1.out.size) (by omega)) ?_
    rintro e w2 ⟨v, rfl, o2, b2⟩
    have HO2 := Lib.hid (ownE_base o2 HB1.out.size)
    have HB2 := Lib.hid (HB1.out.trans (b2.mono HB1.out.size))
    clear o2 b2
    go_wp2
    go_ret
    exact ⟨_, rfl, by rw [HJ.out]; exact HO2.out, HB2.out⟩
  · have HJ := Lib.hid (show listO l f u t = [] by unfold listO; rw [ha]; rfl)
    have HA := Lib.hid (show Calls Try.prog 24 #[.slice A l.length c] w fun e w' => e = .returned (.bool false) ∧ Below w.heap.size w w' from by rw [← ha]; exact runS w B l.length c A l hr hB hn hf)
    clear ha hr hf
    go_enter Try.func42, Try.ntmps42
    go_wp2_with fail
    go_at_call 24
    refine HA.out.mono ?_
    rintro e w1 ⟨rfl, b1⟩
    have HB1 := Lib.hid b1
    clear b1
    go_wp2
    go_ret
    exact ⟨_, rfl, by rw [HJ.out]; exact ownE_base (emptyE w1) HB1.out.size, HB1.out.alloc HB1.out.size _⟩

theorem nilE (w : World) (base : Nat) : OwnE w base (.slice none 0 0) [] := ⟨rfl, .inl ⟨rfl, rfl⟩⟩
theorem run_of_key {l : List En} {k : Nat} (h : k < (keysO l).length) : runB l = true := by
  unfold keysO at h
  split at h
  · assumption
  · exact absurd h (Nat.not_lt_zero _)
theorem keysO_le (l : List En) : (keysO l).length ≤ l.length := by
  unfold keysO
  split
  · exact keysL_len _
  · exact Nat.zero_le _
theorem listO_is (l : List En) (f u : ByteArray) (t : Int) : ((keysO l).take (keysO l).length).filterMap (pickE l f u t) = listO l f u t := by
  rw [List.take_length]
  unfold keysO listO
  split
  · rfl
  · rfl

set_option maxHeartbeats 8000000 in
set_option maxRecDepth 100000 in
theorem runListI (w : World) (B n c : Nat) (A : Option Addr) (l : List En) (f u : ByteArray) (t : Int) (hr : Ents w B A n l) (hB : B ≤ w.heap.size) (hn : n ≤ 1048576) (hf : ∀ e ∈ l, e.key.size ≤ maxLen) :
    Calls Try.prog 41 #[.slice A n c, .string f, .string u, .int .i64 t] w (MadeE w (listO l f u t)) := by
  have hlen := hr.len
  subst hlen
  have HR := Lib.hid hr
  have HF := Lib.hid hf
  clear hr hf
  go_enter Try.func41, Try.ntmps41
  go_wp2_with fail
  go_at_call 35
  refine Calls.mono (runKeysI w B l.length c A l HR.out hB (by omega) HF.out) ?_
  rintro e w1 ⟨kv, rfl, ok1, b1⟩
  obtain ⟨A2, c2, hkv, -, -, hk1⟩ := ok1.parts
  subst hkv
  have hkl := keysO_le l
  have HRK := Lib.hid (fun k (h : k < (keysO l).length) => run_of_key h)
  have HEND := Lib.hid (listO_is l f u t)
  have HK1 := Lib.hid hk1
  have HB1 := Lib.hid b1
  clear ok1 b1 hk1
  obtain ⟨ks, hks⟩ : ∃ ks, ks = keysO l := ⟨_, rfl⟩
  rw [← hks] at HK1 hkl HRK HEND
  rw [← hks]
  clear hks
  go_wp2_with fail
  go_loopw [9, 17] (fun out i wr => ∃ (v : Value) (k : Nat), k ≤ ks.length ∧ i = .int .i64 (k : Nat) ∧ out = v ∧ OwnE wr w1.heap.size v ((ks.take k).filterMap (pickE l f u t)) ∧ Below w1.heap.size w1 wr) (fun _ i _ => ks.length - (intOf i).toNat)
  case atStart => exact ⟨_, 0, Nat.zero_le _, rfl, rfl, nilE _ _, Below.refl _ _⟩
  case round =>
    obtain ⟨v, k, hk, rfl, hv, ho, hb⟩ := hrel
    have hv1 := hv.symm
    clear hv
    subst hv1
    have HOL := Lib.hid ho
    have HBL := Lib.hid hb
    clear ho hb
    by_cases hlt : k < ks.length
    · obtain ⟨kb, ko, hA, hkb, d0⟩ := (HK1.out.below HBL.out (Nat.le_refl _)).cell k hlt
      subst hA
      obtain ⟨s, hs⟩ : ∃ s, s = ks[k] := ⟨_, rfl⟩
      rw [← hs] at d0
      have HS := Lib.hid hs
      have hrun := HRK.out k hlt
      have hl40 := run_len hrun
      have z0 : (0 : Int) ≤ (k : Int) := by omega
      have z1 : (k : Int) < (ks.length : Int) := by omega
      have hol := filt_len (r := l) (f := f) (u := u) (t := t) ks k
      obtain ⟨OUT, hOUT⟩ : ∃ OUT, OUT = (ks.take k).filterMap (pickE l f u t) := ⟨_, rfl⟩
      have HOUT := Lib.hid hOUT
      rw [← hOUT] at HOL hol
      obtain ⟨x0, x1, x2, x3, b, hx, hbs⟩ := at_letters (atL l s t)
      have HX := Lib.hid hx
      have HBS := Lib.hid hbs
      have HC := Lib.hid (show Calls Try.prog 29 #[.slice A l.length c, .string s, .int .i64 t] wr (AtA wr x0 x1 x2 x3 b) from by
        have h := runAtI wr B l.length c A l s t (HR.out.below (HB1.out.trans (HBL.out.mono HB1.out.size)) hB) (Nat.le_trans hB (Nat.le_trans HB1.out.size HBL.out.size)) (by unfold maxLen; omega) HF.out
        rw [atO_run hrun] at h
        unfold atV at h
        rw [hx, hbs] at h
        exact h)
      have HO2 := Lib.hid HOL.out
      have HB2 := Lib.hid HBL.out
      clear hs hOUT hx hbs hrun
      rcases Bool.eq_false_or_eq_true (Op.bytesLess s.toList f.toList) with f1 | f1
      · have F1 := Lib.hid f1
        have HN := Lib.hid (show (ks.take (k + 1)).filterMap (pickE l f u t) = OUT from by
          rw [HOUT.out]
          exact fm_none hlt (pickE_none fun e he => by rw [← HS.out] at he ⊢; exact .inr (.inl F1.out)))
        go_wp2
        go_roundw
        case rel => exact ⟨_, k + 1, by omega, by go_num, rfl, by rw [HN.out]; exact HO2.out, HB2.out⟩
        case measure => simp [intOf]; omega
      · have e1 : lt s f = false := f1
        rcases tri2 s u with ⟨u1, u2⟩ | ⟨u1, u2⟩ | ⟨u1, u2⟩
        · have e2 : lt u s = false := ge_of (.inl u1)
          go_wp2_with fail
          go_at_call 29
          refine Calls.mono HC.out ?_
          rintro e w2 ⟨rfl, b_⟩
          obtain ⟨W2, hW2⟩ : ∃ W, W = w2.alloc (.cells #[.string x0, .int .i64 x1, .bool x2, .int .i64 x3] 33) := ⟨_, rfl⟩
          have bb_ : Below wr.heap.size wr W2 := by rw [hW2]; exact b_.trans ((new_box w2 x0 x1 x2 x3).mono b_.size)
          obtain ⟨p0, p1, p2, p3⟩ := (show Box W2 w2.heap.size x0 x1 x2 x3 by rw [hW2]; exact Box.new _ _ _ _ _).cells
          replace HO2 := Lib.hid (rowBelow HO2.out bb_)
          replace HB2 := Lib.hid (HB2.out.trans (bb_.mono HB2.out.size))
          have HW2 := Lib.hid hW2
          clear b_ bb_ hW2 HC
          go_upto_region 7 with fail
          rw [← HW2.out]
          cases b with
          | false =>
            have HN := Lib.hid (show (ks.take (k + 1)).filterMap (pickE l f u t) = OUT from by
              rw [HOUT.out]
              exact fm_none hlt (pickE_none fun e he => by rw [← HS.out] at he ⊢; rw [he] at HBS; exact absurd HBS.out (by simp)))
            go_wp2
            go_roundw
            case rel => exact ⟨_, k + 1, by omega, by go_num, rfl, by rw [HN.out]; exact HO2.out, HB2.out⟩
            case measure => simp [intOf]; omega
          | true =>
            cases x2 with
            | true =>
              have HN := Lib.hid (show (ks.take (k + 1)).filterMap (pickE l f u t) = OUT from by
                rw [HOUT.out]
                exact fm_none hlt (pickE_none fun e he => by rw [← HS.out] at he ⊢; have h := some_of HX.out HBS.out; rw [he] at h; injection h with h; rw [h]; exact .inl rfl))
              go_wp2
              go_roundw
              case rel => exact ⟨_, k + 1, by omega, by go_num, rfl, by rw [HN.out]; exact HO2.out, HB2.out⟩
              case measure => simp [intOf]; omega
            | false =>
              have HN := Lib.hid (show (ks.take (k + 1)).filterMap (pickE l f u t) = OUT ++ [⟨x0, x1, false, x3⟩] from by
                rw [HOUT.out]
                exact fm_some hlt (by rw [← HS.out]; exact pick_some.mpr ⟨some_of HX.out HBS.out, rfl, e1, e2⟩))
              have HOA := Lib.hid (show OwnE (W2.alloc (.cells #[.string x0, .int .i64 x1, .bool false, .int .i64 x3] 33)) w1.heap.size v OUT from World.ownsRow.alloc HO2.out _)
              have HBA := Lib.hid (HB2.out.alloc HB2.out.size (.cells #[.string x0, .int .i64 x1, .bool false, .int .i64 x3] 33))
              have hc0 : (W2.alloc (.cells #[.string x0, .int .i64 x1, .bool false, .int .i64 x3] 33)).cell? ⟨W2.heap.size, 0, none⟩ = some (.string x0) := by rw [cell_of_row _ _ _ _ _ _ (heap_alloc_new _ _)]; rfl
              have hc1 : (W2.alloc (.cells #[.string x0, .int .i64 x1, .bool false, .int .i64 x3] 33)).cell? ⟨W2.heap.size, 1, none⟩ = some (.int .i64 x1) := by rw [cell_of_row _ _ _ _ _ _ (heap_alloc_new _ _)]; rfl
              have hc2 : (W2.alloc (.cells #[.string x0, .int .i64 x1, .bool false, .int .i64 x3] 33)).cell? ⟨W2.heap.size, 2, none⟩ = some (.bool false) := by rw [cell_of_row _ _ _ _ _ _ (heap_alloc_new _ _)]; rfl
              have hc3 : (W2.alloc (.cells #[.string x0, .int .i64 x1, .bool false, .int .i64 x3] 33)).cell? ⟨W2.heap.size, 3, none⟩ = some (.int .i64 x3) := by rw [cell_of_row _ _ _ _ _ _ (heap_alloc_new _ _)]; rfl
              go_wp2_with (at_builtin; refine app_en rfl (.tmp 42) (.tmp 44) rfl (W2.alloc (.cells #[.string x0, .int .i64 x1, .bool false, .int .i64 x3] 33)) w1.heap.size v OUT rfl HOA.out W2.heap.size 1 ⟨x0, x1, false, x3⟩ rfl hc0 hc1 hc2 hc3 (by omega) HBA.out.size ?_; intro vb wb ob gb; have OB := Lib.hid ob; have BB := Lib.hid (HBA.out.grown gb HBA.out.size fun k hk => (World.ownsRow.lt HOA.out k hk).1); clear ob gb)
              go_roundw
              case rel => exact ⟨_, k + 1, by omega, by go_num, rfl, by rw [HN.out]; exact OB.out, BB.out⟩
              case measure => simp [intOf]; omega
        · have e2 : lt u s = false := ge_of (.inr u2)
          go_wp2_with fail
          go_at_call 29
          refine Calls.mono HC.out ?_
          rintro e w2 ⟨rfl, b_⟩
          obtain ⟨W2, hW2⟩ : ∃ W, W = w2.alloc (.cells #[.string x0, .int .i64 x1, .bool x2, .int .i64 x3] 33) := ⟨_, rfl⟩
          have bb_ : Below wr.heap.size wr W2 := by rw [hW2]; exact b_.trans ((new_box w2 x0 x1 x2 x3).mono b_.size)
          obtain ⟨p0, p1, p2, p3⟩ := (show Box W2 w2.heap.size x0 x1 x2 x3 by rw [hW2]; exact Box.new _ _ _ _ _).cells
          replace HO2 := Lib.hid (rowBelow HO2.out bb_)
          replace HB2 := Lib.hid (HB2.out.trans (bb_.mono HB2.out.size))
          have HW2 := Lib.hid hW2
          clear b_ bb_ hW2 HC
          go_upto_region 7 with fail
          rw [← HW2.out]
          cases b with
          | false =>
            have HN := Lib.hid (show (ks.take (k + 1)).filterMap (pickE l f u t) = OUT from by
              rw [HOUT.out]
              exact fm_none hlt (pickE_none fun e he => by rw [← HS.out] at he ⊢; rw [he] at HBS; exact absurd HBS.out (by simp)))
            go_wp2
            go_roundw
            case rel => exact ⟨_, k + 1, by omega, by go_num, rfl, by rw [HN.out]; exact HO2.out, HB2.out⟩
            case measure => simp [intOf]; omega
          | true =>
            cases x2 with
            | true =>
              have HN := Lib.hid (show (ks.take (k + 1)).filterMap (pickE l f u t) = OUT from by
                rw [HOUT.out]
                exact fm_none hlt (pickE_none fun e he => by rw [← HS.out] at he ⊢; have h := some_of HX.out HBS.out; rw [he] at h; injection h with h; rw [h]; exact .inl rfl))
              go_wp2
              go_roundw
              case rel => exact ⟨_, k + 1, by omega, by go_num, rfl, by rw [HN.out]; exact HO2.out, HB2.out⟩
              case measure => simp [intOf]; omega
            | false =>
              have HN := Lib.hid (show (ks.take (k + 1)).filterMap (pickE l f u t) = OUT ++ [⟨x0, x1, false, x3⟩] from by
                rw [HOUT.out]
                exact fm_some hlt (by rw [← HS.out]; exact pick_some.mpr ⟨some_of HX.out HBS.out, rfl, e1, e2⟩))
              have HOA := Lib.hid (show OwnE (W2.alloc (.cells #[.string x0, .int .i64 x1, .bool false, .int .i64 x3] 33)) w1.heap.size v OUT from World.ownsRow.alloc HO2.out _)
              have HBA := Lib.hid (HB2.out.alloc HB2.out.size (.cells #[.string x0, .int .i64 x1, .bool false, .int .i64 x3] 33))
              have hc0 : (W2.alloc (.cells #[.string x0, .int .i64 x1, .bool false, .int .i64 x3] 33)).cell? ⟨W2.heap.size, 0, none⟩ = some (.string x0) := by rw [cell_of_row _ _ _ _ _ _ (heap_alloc_new _ _)]; rfl
              have hc1 : (W2.alloc (.cells #[.string x0, .int .i64 x1, .bool false, .int .i64 x3] 33)).cell? ⟨W2.heap.size, 1, none⟩ = some (.int .i64 x1) := by rw [cell_of_row _ _ _ _ _ _ (heap_alloc_new _ _)]; rfl
              have hc2 : (W2.alloc (.cells #[.string x0, .int .i64 x1, .bool false, .int .i64 x3] 33)).cell? ⟨W2.heap.size, 2, none⟩ = some (.bool false) := by rw [cell_of_row _ _ _ _ _ _ (heap_alloc_new _ _)]; rfl
              have hc3 : (W2.alloc (.cells #[.string x0, .int .i64 x1, .bool false, .int .i64 x3] 33)).cell? ⟨W2.heap.size, 3, none⟩ = some (.int .i64 x3) := by rw [cell_of_row _ _ _ _ _ _ (heap_alloc_new _ _)]; rfl
              go_wp2_with (at_builtin; refine app_en rfl (.tmp 42) (.tmp 44) rfl (W2.alloc (.cells #[.string x0, .int .i64 x1, .bool false, .int .i64 x3] 33)) w1.heap.size v OUT rfl HOA.out W2.heap.size 1 ⟨x0, x1, false, x3⟩ rfl hc0 hc1 hc2 hc3 (by omega) HBA.out.size ?_; intro vb wb ob gb; have OB := Lib.hid ob; have BB := Lib.hid (HBA.out.grown gb HBA.out.size fun k hk => (World.ownsRow.lt HOA.out k hk).1); clear ob gb)
              go_roundw
              case rel => exact ⟨_, k + 1, by omega, by go_num, rfl, by rw [HN.out]; exact OB.out, BB.out⟩
              case measure => simp [intOf]; omega
        · have G := Lib.hid (gt_of u1 u2)
          have HN := Lib.hid (show (ks.take (k + 1)).filterMap (pickE l f u t) = OUT from by
            rw [HOUT.out]
            exact fm_none hlt (pickE_none fun e he => by rw [← HS.out] at he ⊢; exact .inr (.inr G.out)))
          go_wp2
          go_roundw
          case rel => exact ⟨_, k + 1, by omega, by go_num, rfl, by rw [HN.out]; exact HO2.out, HB2.out⟩
          case measure => simp [intOf]; omega
    · have hke : k = ks.length := by omega
      subst hke
      have HBF := Lib.hid (HB1.out.trans (HBL.out.mono HB1.out.size))
      have HOF := Lib.hid (ownE_base HOL.out HB1.out.size)
      go_wp2
      go_ret
      exact ⟨_, rfl, by rw [← HEND.out]; exact HOF.out, HBF.out⟩

end Go.Proofs.Ytjjalagmlbaafaa.W
