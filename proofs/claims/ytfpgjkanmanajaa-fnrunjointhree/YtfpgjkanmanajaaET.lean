/-
  RunList, the model's and the program's: the whole functions.
-/
import Derived.Test.YtfpgjkanmanajaaPG
namespace Go.Proofs.Ytfpgjkanmanajaa.W
open Go.RowKit K R

/-- all that is there, of what is a run -/
def listO (l : List En) (f u : ByteArray) (t : Int) : List En := if runB l = true then listL l f u t else []

set_option maxHeartbeats 1000000 in
theorem runListS (w : World) (B n c : Nat) (A : Option Addr) (l : List En) (f u : ByteArray) (t : Int) (hr : Ents w B A n l) (hB : B ≤ w.heap.size) (hn : n ≤ maxLen) (hf : ∀ e ∈ l, e.key.size ≤ maxLen) :
    Calls Try.prog 43 #[.slice A n c, .string f, .string u, .int .i64 t] w (MadeE w (listO l f u t)) := by
  have hlen := hr.len
  subst hlen
  rcases Bool.eq_false_or_eq_true (runB l) with ha | ha
  · have HJ := Lib.hid (show listO l f u t = listL l f u t by unfold listO; rw [if_pos ha])
    have hl := run_len ha
    have HA := Lib.hid (show Calls Try.prog 25 #[.slice A l.length c] w fun e w' => e = .returned (.bool true) ∧ Below w.heap.size w w' from by rw [← ha]; exact runS w B l.length c A l hr hB hn hf)
    have HR := Lib.hid hr
    clear ha hr hf
    go_enter Try.func43, Try.ntmps43
    go_wp2_with fail
    go_at_call 25
    refine HA.out.mono ?_
    rintro e w1 ⟨rfl, b1⟩
    have HB1 := Lib.hid b1
    clear b1
    go_wp2_with fail
    go_at_call 82
    refine Calls.mono (listS w1 B l.length c A l f u t (HR.out.below HB1.out hB) (Nat.le_trans hB HB1.out.size) (by omega)) ?_
    rintro e w2 ⟨v, rfl, o2, b2⟩
    have HO2 := Lib.hid (ownE_base o2 HB1.out.size)
    have HB2 := Lib.hid (HB1.out.trans (b2.mono HB1.out.size))
    clear o2 b2
    go_wp2
    go_ret
    exact ⟨_, rfl, by rw [HJ.out]; exact HO2.out, HB2.out⟩
  · have HJ := Lib.hid (show listO l f u t = [] by unfold listO; rw [ha]; rfl)
    have HA := Lib.hid (show Calls Try.prog 25 #[.slice A l.length c] w fun e w' => e = .returned (.bool false) ∧ Below w.heap.size w w' from by rw [← ha]; exact runS w B l.length c A l hr hB hn hf)
    clear ha hr hf
    go_enter Try.func43, Try.ntmps43
    go_wp2_with fail
    go_at_call 25
    refine HA.out.mono ?_
    rintro e w1 ⟨rfl, b1⟩
    have HB1 := Lib.hid b1
    clear b1
    go_wp2
    go_ret
    exact ⟨_, rfl, by rw [HJ.out]; exact ownE_base (emptyE w1) HB1.out.size, HB1.out.alloc HB1.out.size _⟩

theorem run_of_key {l : List En} {k : Nat} (h : k < (keysO l).length) : runB l = true := by
  unfold keysO at h
  split at h
  · assumption
  · exact absurd h (Nat.not_lt_zero _)
theorem keysO_le (l : List En) : (keysO l).length ≤ l.length := by
  unfold keysO
  split
  · exact keysL_len _
  · exact Nat.zero_le _
theorem listO_is (l : List En) (f u : ByteArray) (t : Int) : ((keysO l).take (keysO l).length).filterMap (pickE l f u t) = listO l f u t := by
  rw [List.take_length]
  unfold keysO listO
  split
  · rfl
  · rfl

set_option maxHeartbeats 4000000 in
theorem runList1C (w : World) (B n c : Nat) (A : Option Addr) (l : List En) (s : ByteArray) (t : Int) (b1 b2 : Nat) (h1 : w.cell? ⟨b1, 0, none⟩ = some (.slice A n c)) (h2 : w.cell? ⟨b2, 0, none⟩ = some (.int .i64 t)) (l1 : b1 < w.heap.size) (l2 : b2 < w.heap.size)
    (hr : Ents w B A n l) (hB : B ≤ w.heap.size) (hn : n ≤ maxLen) (hf : ∀ e ∈ l, e.key.size ≤ maxLen) :
    Calls Try.prog 81 #[.string s, .pointer (some ⟨b1, 0, none⟩), .pointer (some ⟨b2, 0, none⟩)] w (AtA w (atE (atO l s t)).key (atE (atO l s t)).val (atE (atO l s t)).gone (atE (atO l s t)).time (atO l s t).isSome) := by
  obtain ⟨W0, hW0⟩ : ∃ W0, W0 = w.alloc (.cells #[.string ⟨#[]⟩, .int .i64 0, .bool false, .int .i64 0] 33) := ⟨_, rfl⟩
  have hb0 : Below w.heap.size w W0 := by rw [hW0]; exact (Below.refl _ _).alloc (Nat.le_refl _) _
  have hs0 : W0.heap.size = w.heap.size + 1 := by rw [hW0]; simp
  have hx0 : W0.heap[w.heap.size]? = some (.cells #[.string ⟨#[]⟩, .int .i64 0, .bool false, .int .i64 0] 33 (0, 0)) := by rw [hW0]; exact heap_alloc_new _ _
  have g1 := (hb0.cell (p := ⟨b1, 0, none⟩) l1).trans h1
  have g2 := (hb0.cell (p := ⟨b2, 0, none⟩) l2).trans h2
  obtain ⟨x0, x1, x2, x3, b, hx, hbs⟩ := at_letters (atO l s t)
  have HC := runAtI W0 B n c A l s t (hr.below hb0 hB) (by omega) hn hf
  unfold atV at HC
  rw [hx, hbs] at HC ⊢
  have HC := Lib.hid HC
  have HX0 := Lib.hid hx0
  have HB0 := Lib.hid hb0
  have HW0 := Lib.hid hW0
  rw [hW0] at HC g1 g2
  clear hr hf hx hbs h1 h2 hb0 hx0 hW0
  go_enter Try.func81, Try.ntmps81
  go_wp2_with fail
  go_at_call 30
  refine Calls.mono HC.out ?_
  rw [← HW0.out]
  rintro e w2 ⟨rfl, b2⟩
  have HX2 := Lib.hid (show w2.heap[w.heap.size]? = some (.cells #[.string ⟨#[]⟩, .int .i64 0, .bool false, .int .i64 0] 33 (0, 0)) by rw [b2.block _ (by omega)]; exact HX0.out)
  have HB2 := Lib.hid (HB0.out.trans (b2.mono HB0.out.size))
  clear b2 HC g1 g2
  have q0 : w2.cell? ⟨w.heap.size, 0, none⟩ = some (.string ⟨#[]⟩) := by rw [cell_of_row _ _ _ _ _ _ HX2.out]; rfl
  have qz0 : w2.frozen? ⟨w.heap.size, 0, none⟩ = false := by rw [frozen_of_row _ _ _ _ _ HX2.out]
  have q1 : w2.cell? ⟨w.heap.size, 1, none⟩ = some (.int .i64 0) := by rw [cell_of_row _ _ _ _ _ _ HX2.out]; rfl
  have qz1 : w2.frozen? ⟨w.heap.size, 1, none⟩ = false := by rw [frozen_of_row _ _ _ _ _ HX2.out]
  have q2 : w2.cell? ⟨w.heap.size, 2, none⟩ = some (.bool false) := by rw [cell_of_row _ _ _ _ _ _ HX2.out]; rfl
  have qz2 : w2.frozen? ⟨w.heap.size, 2, none⟩ = false := by rw [frozen_of_row _ _ _ _ _ HX2.out]
  have q3 : w2.cell? ⟨w.heap.size, 3, none⟩ = some (.int .i64 0) := by rw [cell_of_row _ _ _ _ _ _ HX2.out]; rfl
  have qz3 : w2.frozen? ⟨w.heap.size, 3, none⟩ = false := by rw [frozen_of_row _ _ _ _ _ HX2.out]
  go_wp2
  refine bodyPost_ret (v := .tuple #[.agg #[.string x0, .int .i64 x1, .bool x2, .int .i64 x3], .bool b]) ?_ rfl ⟨rfl, ?_⟩
  · exact ret_two rfl _ _ w.heap.size _ _ rfl rfl (load_entry (box_four HX2.out _ _ _ _))
  · exact ((((HB2.out.setCell (p := ⟨w.heap.size, 0, none⟩) (Nat.le_refl _) _).setCell (p := ⟨w.heap.size, 1, none⟩) (Nat.le_refl _) _).setCell (p := ⟨w.heap.size, 2, none⟩) (Nat.le_refl _) _).setCell (p := ⟨w.heap.size, 3, none⟩) (Nat.le_refl _) _)

set_option maxHeartbeats 8000000 in
set_option maxRecDepth 100000 in
theorem presentR (w : World) (B2 n2 c2 : Nat) (A2 : Option Addr) (ks : List ByteArray) (f u : ByteArray) (g : ByteArray → Option En) (b1 b2 : Nat) (hk : Strs w B2 A2 n2 ks) (hB2 : B2 ≤ w.heap.size) (hkl : n2 ≤ 1000000)
    (hg : ∀ W, Below w.heap.size w W → ∀ k ∈ ks, Calls Try.prog 81 #[.string k, .pointer (some ⟨b1, 0, none⟩), .pointer (some ⟨b2, 0, none⟩)] W (AtA W (atE (g k)).key (atE (g k)).val (atE (g k)).gone (atE (g k)).time (g k).isSome)) :
    Calls Try.prog 80 #[.slice A2 n2 c2, .string f, .string u, .func (.func 81) #[] #[.pointer (some ⟨b1, 0, none⟩), .pointer (some ⟨b2, 0, none⟩)]] w (MadeE w (ks.filterMap (pickG g f u))) := by
  have hlen := hk.len
  subst hlen
  have HK1 := Lib.hid hk
  have HG := Lib.hid hg
  have HEND := Lib.hid (show (ks.take ks.length).filterMap (pickG g f u) = ks.filterMap (pickG g f u) by rw [List.take_length])
  clear hk hg
  go_enter Try.func80, Try.ntmps80
  go_wp2_with fail
  go_loopw [9, 16] (fun out i wr => ∃ (v : Value) (k : Nat), k ≤ ks.length ∧ i = .int .i64 (k : Nat) ∧ out = v ∧ OwnE wr w.heap.size v ((ks.take k).filterMap (pickG g f u)) ∧ Below w.heap.size w wr) (fun _ i _ => ks.length - (intOf i).toNat)
  case atStart => exact ⟨_, 0, Nat.zero_le _, rfl, rfl, nilE _ _, Below.refl _ _⟩
  case round =>
    obtain ⟨v, k, hk, rfl, hv, ho, hb⟩ := hrel
    have hv1 := hv.symm
    clear hv
    subst hv1
    have HOL := Lib.hid ho
    have HBL := Lib.hid hb
    clear ho hb
    by_cases hlt : k < ks.length
    · obtain ⟨kb, ko, hA, hkb, d0⟩ := (HK1.out.below HBL.out hB2).cell k hlt
      subst hA
      obtain ⟨s, hs⟩ : ∃ s, s = ks[k] := ⟨_, rfl⟩
      have HC := HG.out wr HBL.out _ (List.getElem_mem hlt)
      rw [← hs] at d0 HC
      have HS := Lib.hid hs
      have z0 : (0 : Int) ≤ (k : Int) := by omega
      have z1 : (k : Int) < (ks.length : Int) := by omega
      have hol := filtG_len (g := g) (f := f) (u := u) ks k
      obtain ⟨OUT, hOUT⟩ : ∃ OUT, OUT = (ks.take k).filterMap (pickG g f u) := ⟨_, rfl⟩
      have HOUT := Lib.hid hOUT
      rw [← hOUT] at HOL hol
      obtain ⟨x0, x1, x2, x3, b, hx, hbs⟩ := at_letters (g s)
      rw [hx, hbs] at HC
      have HX := Lib.hid hx
      have HBS := Lib.hid hbs
      replace HC := Lib.hid HC
      have HO2 := Lib.hid HOL.out
      have HB2 := Lib.hid HBL.out
      clear hs hOUT hx hbs
      rcases Bool.eq_false_or_eq_true (Op.bytesLess s.toList f.toList) with f1 | f1
      · have F1 := Lib.hid f1
        have HN := Lib.hid (show (ks.take (k + 1)).filterMap (pickG g f u) = OUT from by
          rw [HOUT.out]
          exact fm_none hlt (pickG_none fun e he => by rw [← HS.out] at he ⊢; exact .inr (.inl F1.out)))
        go_wp2
        go_roundw
        case rel => exact ⟨_, k + 1, by omega, by go_num, rfl, by rw [HN.out]; exact HO2.out, HB2.out⟩
        case measure => simp [intOf]; omega
      · have e1 : lt s f = false := f1
        rcases tri2 s u with ⟨u1, u2⟩ | ⟨u1, u2⟩ | ⟨u1, u2⟩
        · have e2 : lt u s = false := ge_of (.inl u1)
          go_wp2_with fail
          go_at_call 81
          refine Calls.mono HC.out ?_
          rintro e w2 ⟨rfl, b_⟩
          obtain ⟨W2, hW2⟩ : ∃ W, W = w2.alloc (.cells #[.string x0, .int .i64 x1, .bool x2, .int .i64 x3] 33) := ⟨_, rfl⟩
          have bb_ : Below wr.heap.size wr W2 := by rw [hW2]; exact b_.trans ((new_box w2 x0 x1 x2 x3).mono b_.size)
          obtain ⟨p0, p1, p2, p3⟩ := (show Box W2 w2.heap.size x0 x1 x2 x3 by rw [hW2]; exact Box.new _ _ _ _ _).cells
          replace HO2 := Lib.hid (rowBelow HO2.out bb_)
          replace HB2 := Lib.hid (HB2.out.trans (bb_.mono HB2.out.size))
          have HW2 := Lib.hid hW2
          clear b_ bb_ hW2 HC
          go_upto_region 7 with fail
          rw [← HW2.out]
          cases b with
          | false =>
            have HN := Lib.hid (show (ks.take (k + 1)).filterMap (pickG g f u) = OUT from by
              rw [HOUT.out]
              exact fm_none hlt (pickG_none fun e he => by rw [← HS.out] at he ⊢; rw [he] at HBS; exact absurd HBS.out (by simp)))
            go_wp2
            go_roundw
            case rel => exact ⟨_, k + 1, by omega, by go_num, rfl, by rw [HN.out]; exact HO2.out, HB2.out⟩
            case measure => simp [intOf]; omega
          | true =>
            cases x2 with
            | true =>
              have HN := Lib.hid (show (ks.take (k + 1)).filterMap (pickG g f u) = OUT from by
                rw [HOUT.out]
                exact fm_none hlt (pickG_none fun e he => by rw [← HS.out] at he ⊢; have h := some_of HX.out HBS.out; rw [he] at h; injection h with h; rw [h]; exact .inl rfl))
              go_wp2
              go_roundw
              case rel => exact ⟨_, k + 1, by omega, by go_num, rfl, by rw [HN.out]; exact HO2.out, HB2.out⟩
              case measure => simp [intOf]; omega
            | false =>
              have HN := Lib.hid (show (ks.take (k + 1)).filterMap (pickG g f u) = OUT ++ [⟨x0, x1, false, x3⟩] from by
                rw [HOUT.out]
                exact fm_some hlt (by rw [← HS.out]; exact pickG_some.mpr ⟨some_of HX.out HBS.out, rfl, e1, e2⟩))
              have HOA := Lib.hid (show OwnE (W2.alloc (.cells #[.string x0, .int .i64 x1, .bool false, .int .i64 x3] 33)) (w).heap.size v OUT from World.ownsRow.alloc HO2.out _)
              have HBA := Lib.hid (HB2.out.alloc HB2.out.size (.cells #[.string x0, .int .i64 x1, .bool false, .int .i64 x3] 33))
              have hc0 : (W2.alloc (.cells #[.string x0, .int .i64 x1, .bool false, .int .i64 x3] 33)).cell? ⟨W2.heap.size, 0, none⟩ = some (.string x0) := by rw [cell_of_row _ _ _ _ _ _ (heap_alloc_new _ _)]; rfl
              have hc1 : (W2.alloc (.cells #[.string x0, .int .i64 x1, .bool false, .int .i64 x3] 33)).cell? ⟨W2.heap.size, 1, none⟩ = some (.int .i64 x1) := by rw [cell_of_row _ _ _ _ _ _ (heap_alloc_new _ _)]; rfl
              have hc2 : (W2.alloc (.cells #[.string x0, .int .i64 x1, .bool false, .int .i64 x3] 33)).cell? ⟨W2.heap.size, 2, none⟩ = some (.bool false) := by rw [cell_of_row _ _ _ _ _ _ (heap_alloc_new _ _)]; rfl
              have hc3 : (W2.alloc (.cells #[.string x0, .int .i64 x1, .bool false, .int .i64 x3] 33)).cell? ⟨W2.heap.size, 3, none⟩ = some (.int .i64 x3) := by rw [cell_of_row _ _ _ _ _ _ (heap_alloc_new _ _)]; rfl
              go_wp2_with (at_builtin; refine app_en rfl (.tmp 40) (.tmp 42) rfl (W2.alloc (.cells #[.string x0, .int .i64 x1, .bool false, .int .i64 x3] 33)) (w).heap.size v OUT rfl HOA.out W2.heap.size 1 ⟨x0, x1, false, x3⟩ rfl hc0 hc1 hc2 hc3 (by omega) HBA.out.size ?_; intro vb wb ob gb; have OB := Lib.hid ob; have BB := Lib.hid (HBA.out.grown gb HBA.out.size fun k hk => (World.ownsRow.lt HOA.out k hk).1); clear ob gb)
              go_roundw
              case rel => exact ⟨_, k + 1, by omega, by go_num, rfl, by rw [HN.out]; exact OB.out, BB.out⟩
              case measure => simp [intOf]; omega
        · have e2 : lt u s = false := ge_of (.inr u2)
          go_wp2_with fail
          go_at_call 81
          refine Calls.mono HC.out ?_
          rintro e w2 ⟨rfl, b_⟩
          obtain ⟨W2, hW2⟩ : ∃ W, W = w2.alloc (.cells #[.string x0, .int .i64 x1, .bool x2, .int .i64 x3] 33) := ⟨_, rfl⟩
          have bb_ : Below wr.heap.size wr W2 := by rw [hW2]; exact b_.trans ((new_box w2 x0 x1 x2 x3).mono b_.size)
          obtain ⟨p0, p1, p2, p3⟩ := (show Box W2 w2.heap.size x0 x1 x2 x3 by rw [hW2]; exact Box.new _ _ _ _ _).cells
          replace HO2 := Lib.hid (rowBelow HO2.out bb_)
          replace HB2 := Lib.hid (HB2.out.trans (bb_.mono HB2.out.size))
          have HW2 := Lib.hid hW2
          clear b_ bb_ hW2 HC
          go_upto_region 7 with fail
          rw [← HW2.out]
          cases b with
          | false =>
            have HN := Lib.hid (show (ks.take (k + 1)).filterMap (pickG g f u) = OUT from by
              rw [HOUT.out]
              exact fm_none hlt (pickG_none fun e he => by rw [← HS.out] at he ⊢; rw [he] at HBS; exact absurd HBS.out (by simp)))
            go_wp2
            go_roundw
            case rel => exact ⟨_, k + 1, by omega, by go_num, rfl, by rw [HN.out]; exact HO2.out, HB2.out⟩
            case measure => simp [intOf]; omega
          | true =>
            cases x2 with
            | true =>
              have HN := Lib.hid (show (ks.take (k + 1)).filterMap (pickG g f u) = OUT from by
                rw [HOUT.out]
                exact fm_none hlt (pickG_none fun e he => by rw [← HS.out] at he ⊢; have h := some_of HX.out HBS.out; rw [he] at h; injection h with h; rw [h]; exact .inl rfl))
              go_wp2
              go_roundw
              case rel => exact ⟨_, k + 1, by omega, by go_num, rfl, by rw [HN.out]; exact HO2.out, HB2.out⟩
              case measure => simp [intOf]; omega
            | false =>
              have HN := Lib.hid (show (ks.take (k + 1)).filterMap (pickG g f u) = OUT ++ [⟨x0, x1, false, x3⟩] from by
                rw [HOUT.out]
                exact fm_some hlt (by rw [← HS.out]; exact pickG_some.mpr ⟨some_of HX.out HBS.out, rfl, e1, e2⟩))
              have HOA := Lib.hid (show OwnE (W2.alloc (.cells #[.string x0, .int .i64 x1, .bool false, .int .i64 x3] 33)) (w).heap.size v OUT from World.ownsRow.alloc HO2.out _)
              have HBA := Lib.hid (HB2.out.alloc HB2.out.size (.cells #[.string x0, .int .i64 x1, .bool false, .int .i64 x3] 33))
              have hc0 : (W2.alloc (.cells #[.string x0, .int .i64 x1, .bool false, .int .i64 x3] 33)).cell? ⟨W2.heap.size, 0, none⟩ = some (.string x0) := by rw [cell_of_row _ _ _ _ _ _ (heap_alloc_new _ _)]; rfl
              have hc1 : (W2.alloc (.cells #[.string x0, .int .i64 x1, .bool false, .int .i64 x3] 33)).cell? ⟨W2.heap.size, 1, none⟩ = some (.int .i64 x1) := by rw [cell_of_row _ _ _ _ _ _ (heap_alloc_new _ _)]; rfl
              have hc2 : (W2.alloc (.cells #[.string x0, .int .i64 x1, .bool false, .int .i64 x3] 33)).cell? ⟨W2.heap.size, 2, none⟩ = some (.bool false) := by rw [cell_of_row _ _ _ _ _ _ (heap_alloc_new _ _)]; rfl
              have hc3 : (W2.alloc (.cells #[.string x0, .int .i64 x1, .bool false, .int .i64 x3] 33)).cell? ⟨W2.heap.size, 3, none⟩ = some (.int .i64 x3) := by rw [cell_of_row _ _ _ _ _ _ (heap_alloc_new _ _)]; rfl
              go_wp2_with (at_builtin; refine app_en rfl (.tmp 40) (.tmp 42) rfl (W2.alloc (.cells #[.string x0, .int .i64 x1, .bool false, .int .i64 x3] 33)) (w).heap.size v OUT rfl HOA.out W2.heap.size 1 ⟨x0, x1, false, x3⟩ rfl hc0 hc1 hc2 hc3 (by omega) HBA.out.size ?_; intro vb wb ob gb; have OB := Lib.hid ob; have BB := Lib.hid (HBA.out.grown gb HBA.out.size fun k hk => (World.ownsRow.lt HOA.out k hk).1); clear ob gb)
              go_roundw
              case rel => exact ⟨_, k + 1, by omega, by go_num, rfl, by rw [HN.out]; exact OB.out, BB.out⟩
              case measure => simp [intOf]; omega
        · have G := Lib.hid (gt_of u1 u2)
          have HN := Lib.hid (show (ks.take (k + 1)).filterMap (pickG g f u) = OUT from by
            rw [HOUT.out]
            exact fm_none hlt (pickG_none fun e he => by rw [← HS.out] at he ⊢; exact .inr (.inr G.out)))
          go_wp2
          go_roundw
          case rel => exact ⟨_, k + 1, by omega, by go_num, rfl, by rw [HN.out]; exact HO2.out, HB2.out⟩
          case measure => simp [intOf]; omega
    · have hke : k = ks.length := by omega
      subst hke
      have HBF := Lib.hid HBL.out
      have HOF := Lib.hid HOL.out
      go_wp2
      go_ret
      exact ⟨_, rfl, by rw [← HEND.out]; exact HOF.out, HBF.out⟩

theorem keysO_40 (l : List En) : (keysO l).length ≤ 40 := by
  unfold keysO
  split
  · next h => exact Nat.le_trans (keysL_len _) (run_iff.mp h).1
  · exact Nat.zero_le _
theorem listO_pick (l : List En) (f u : ByteArray) (t : Int) : (keysO l).filterMap (pickG (fun k => atO l k t) f u) = listO l f u t := by
  rw [← listO_is l f u t, List.take_length]
  refine fm_congr fun k hk => ?_
  have hr : runB l = true := by
    obtain ⟨i, hi, -⟩ := List.getElem_of_mem hk
    exact run_of_key hi
  rw [← pickG_at]
  unfold pickG
  simp only [atO_run hr]

set_option maxHeartbeats 8000000 in
set_option maxRecDepth 100000 in
theorem runListI (w : World) (B n c : Nat) (A : Option Addr) (l : List En) (f u : ByteArray) (t : Int) (hr : Ents w B A n l) (hB : B ≤ w.heap.size) (hn : n ≤ 1048576) (hf : ∀ e ∈ l, e.key.size ≤ maxLen) :
    Calls Try.prog 42 #[.slice A n c, .string f, .string u, .int .i64 t] w (MadeE w (listO l f u t)) := by
  have hlen := hr.len
  subst hlen
  have hmf : ∀ (fn : Fn) (first cap : Array Value) (w : World), (Instr.makeFunc fn first cap).run Try.prog w = .ok (.func fn first cap) w := fun _ _ _ _ => rfl
  obtain ⟨W0, hW0⟩ : ∃ W0, W0 = (w.alloc (.cells #[.slice A l.length c] 23)).alloc (.cells #[.int .i64 t] 3) := ⟨_, rfl⟩
  have hb0 : Below w.heap.size w W0 := by rw [hW0]; exact ((Below.refl _ _).alloc (Nat.le_refl _) _).alloc (by simp) _
  have hs0 : W0.heap.size = w.heap.size + 2 := by rw [hW0]; simp
  have h1 : W0.cell? ⟨w.heap.size, 0, none⟩ = some (.slice A l.length c) := by
    rw [hW0, cell_of_row _ _ _ _ _ _ ((Below.heap_alloc _ _ _ (by simp)).trans (heap_alloc_new w _))]
    rfl
  have h2 : W0.cell? ⟨w.heap.size + 1, 0, none⟩ = some (.int .i64 t) := by
    have h := heap_alloc_new (w.alloc (.cells #[.slice A l.length c] 23)) (.cells #[.int .i64 t] 3)
    rw [World.size_alloc] at h
    rw [hW0, cell_of_row _ _ _ _ _ _ h]
    rfl
  have HR0 := Lib.hid (hr.below hb0 hB)
  have HF := Lib.hid hf
  have HRK := Lib.hid (runKeysI W0 B l.length c A l HR0.out (by omega) (by omega) HF.out)
  have HB0 := Lib.hid hb0
  have HC1 := Lib.hid h1
  have HC2 := Lib.hid h2
  have HW0 := Lib.hid hW0
  have hkl := keysO_40 l
  have HEND := Lib.hid (listO_pick l f u t)
  rw [hW0] at HRK h1 h2
  clear hr hf hb0 hW0
  go_enter Try.func42, Try.ntmps42
  go_wp2_with fail
  go_at_call 36
  refine Calls.mono HRK.out ?_
  rw [← HW0.out]
  rintro e w1 ⟨kv, rfl, ok1, b1⟩
  obtain ⟨A2, c2, hkv, -, -, hk1⟩ := ok1.parts
  subst hkv
  have HP := Lib.hid (presentR w1 w1.heap.size _ c2 A2 (keysO l) f u (fun k => atO l k t) w.heap.size (w.heap.size + 1) hk1 (Nat.le_refl _) (by omega) (fun W hW k _ =>
    runList1C W B l.length c A l k t w.heap.size (w.heap.size + 1)
      ((hW.cell (p := ⟨w.heap.size, 0, none⟩) (by have := b1.size; show w.heap.size < _; omega)).trans ((b1.cell (p := ⟨w.heap.size, 0, none⟩) (by show w.heap.size < _; omega)).trans HC1.out))
      ((hW.cell (p := ⟨w.heap.size + 1, 0, none⟩) (by have := b1.size; show w.heap.size + 1 < _; omega)).trans ((b1.cell (p := ⟨w.heap.size + 1, 0, none⟩) (by show w.heap.size + 1 < _; omega)).trans HC2.out))
      (by have := b1.size; have := hW.size; omega) (by have := b1.size; have := hW.size; omega)
      ((HR0.out.below b1 (by omega)).below hW (by have := b1.size; omega)) (by have := b1.size; have := hW.size; omega) (by unfold maxLen; omega) HF.out))
  have HB1 := Lib.hid (HB0.out.trans (b1.mono HB0.out.size))
  clear ok1 b1 hk1 HRK h1 h2
  go_wp2_with fail
  go_at_call 80
  refine Calls.mono HP.out ?_
  rintro e w2 ⟨v, rfl, o2, b2⟩
  have HB2 := Lib.hid (HB1.out.trans (b2.mono HB1.out.size))
  have HO2 := Lib.hid (ownE_base o2 HB1.out.size)
  clear o2 b2
  go_wp2
  go_ret
  exact ⟨_, rfl, by rw [← HEND.out]; exact HO2.out, HB2.out⟩

end Go.Proofs.Ytfpgjkanmanajaa.W
