/-
  The model's l11Trim.
-/
import Derived.Test.YtjjalagmlbaafaaEM
import Derived.Test.YtjjalagmlbaafaaEK
namespace Go.Proofs.Ytjjalagmlbaafaa.W
open Go.RowKit K R

theorem rowHeap {E : TypeId} {sz : Nat} {w w' : World} {base n : Nat} {v : Value} {cs : List Value} (h : w.ownsRow base E sz v n cs) (hh : w'.heap = w.heap) : w'.ownsRow base E sz v n cs := by
  unfold World.ownsRow at h ⊢
  rw [hh]
  exact h
theorem selUp_len (r : List En) (p : Nat → Bool) (k : Nat) : (selUp r p k).length ≤ k := by
  unfold selUp
  exact Nat.le_trans (List.length_filterMap_le _ _) (by simp)
/-- the test of the bottom, by places -/
def keepI (r : List En) (i : Nat) : Bool := !(en r i).gone || !lastI r i
theorem vis_ord {l : List En} (h : ord l) (times : List Int) : ord (visL l times) := List.Pairwise.filter _ h
theorem last_end {r : List En} {i : Nat} (h : i + 1 = r.length) : lastI r i = true := by
  unfold lastI
  rw [Bool.or_eq_true, decide_eq_true_iff]
  exact .inl (by omega)
theorem last_mid {r : List En} {i j : Nat} (hj : i + 1 = j) (h : j < r.length) : lastI r i = !((r[j]).key.toList == (en r i).key.toList) := by
  subst hj
  unfold lastI
  rw [en_at h, decide_eq_false (by omega), Bool.false_or]
  rfl

set_option maxHeartbeats 8000000 in
set_option maxRecDepth 100000 in
theorem trimS (w : World) (B n c nt ct : Nat) (A A2 : Option Addr) (l : List En) (times : List Int) (bot : Bool) (hr : Ents w B A n l) (hr2 : Nums w B A2 nt times) (hB : B ≤ w.heap.size) (hn : n ≤ 1000000) (hnt : nt ≤ maxLen) (ho : ord l) :
    Calls Try.prog 72 #[.slice A n c, .slice A2 nt ct, .bool bot] w fun e w' => ∃ v, e = .returned v ∧ OwnE w' w.heap.size v (trimL l times bot) ∧ Below w.heap.size w w' := by
  have hlen := hr.len
  subst hlen
  have HR := Lib.hid hr
  have HR2 := Lib.hid hr2
  have HORD := Lib.hid ho
  clear hr hr2 ho
  go_enter Try.func72, Try.ntmps72
  go_wp2_with fail
  go_loopw [7, 8] (fun s i wr => ∃ (v : Value) (k : Nat), k ≤ l.length ∧ i = .int .i64 (k : Nat) ∧ s = v ∧ OwnE wr w.heap.size v (selUp l (seenI l times) k) ∧ Below w.heap.size w wr) (fun _ i _ => l.length - (intOf i).toNat)
  case atStart => exact ⟨_, 0, Nat.zero_le _, rfl, rfl, emptyE w, (Below.refl _ _).alloc (Nat.le_refl _) _⟩
  case round =>
    obtain ⟨v, k, hk, rfl, hv, ho, hb⟩ := hrel
    have hv1 := hv.symm
    clear hv
    subst hv1
    have HOL := Lib.hid ho
    have HBL := Lib.hid hb
    clear ho hb
    by_cases hlt : k < l.length
    · have HC := Lib.hid (seenS wr B l.length c nt ct k A A2 l times (HR.out.below HBL.out hB) (HR2.out.below HBL.out hB) (Nat.le_trans hB HBL.out.size) (by unfold maxLen; omega) hnt hlt)
      have hsl := selUp_len l (seenI l times) k
      obtain ⟨OUT, hOUT⟩ : ∃ OUT, OUT = selUp l (seenI l times) k := ⟨_, rfl⟩
      have HOUT := Lib.hid hOUT
      rw [← hOUT] at HOL hsl
      clear hOUT
      obtain ⟨q, hq⟩ : ∃ q, q = seenI l times k := ⟨_, rfl⟩
      have HQ := Lib.hid hq
      rw [← hq] at HC
      clear hq
      go_wp2_with fail
      go_at_call 90
      refine Calls.mono HC.out ?_
      rintro e w2 ⟨rfl, b2⟩
      have HO2 := Lib.hid (rowBelow HOL.out b2)
      have HB2 := Lib.hid (HBL.out.trans (b2.mono HBL.out.size))
      clear b2 HC HOL HBL
      cases q with
      | false =>
        have HN := Lib.hid (show selUp l (seenI l times) (k + 1) = OUT by rw [selUp_no HQ.out.symm, HOUT.out])
        go_wp2
        go_roundw
        case rel => exact ⟨_, k + 1, by omega, by go_num, rfl, by rw [HN.out]; exact HO2.out, HB2.out⟩
        case measure => simp [intOf]; omega
      | true =>
        obtain ⟨kb, ko, hA, hkb, d0, d1, d2, d3⟩ := (HR.out.below HB2.out hB).cell k hlt
        subst hA
        obtain ⟨x0, h0⟩ : ∃ y, y = l[k].key := ⟨_, rfl⟩
        rw [← h0] at d0
        obtain ⟨x1, h1⟩ : ∃ y, y = l[k].val := ⟨_, rfl⟩
        rw [← h1] at d1
        obtain ⟨x2, h2⟩ : ∃ y, y = l[k].gone := ⟨_, rfl⟩
        rw [← h2] at d2
        obtain ⟨x3, h3⟩ : ∃ y, y = l[k].time := ⟨_, rfl⟩
        rw [← h3] at d3
        have HE := Lib.hid (show en l (k) = ⟨x0, x1, x2, x3⟩ by rw [en_at (by omega), h0, h1, h2, h3])
        clear h0 h1 h2 h3
        have z0 : (0 : Int) ≤ (k : Int) := by omega
        have z1 : (k : Int) < (l.length : Int) := by omega
        have HN := Lib.hid (show selUp l (seenI l times) (k + 1) = OUT ++ [⟨x0, x1, x2, x3⟩] by rw [selUp_yes HQ.out.symm, HOUT.out, HE.out])
        have HOA := Lib.hid (show OwnE (w2.alloc (.cells #[.string x0, .int .i64 x1, .bool x2, .int .i64 x3] 33)) w.heap.size v OUT from World.ownsRow.alloc HO2.out _)
        have HBA := Lib.hid (HB2.out.alloc HB2.out.size (.cells #[.string x0, .int .i64 x1, .bool x2, .int .i64 x3] 33))
        have hc0 : (w2.alloc (.cells #[.string x0, .int .i64 x1, .bool x2, .int .i64 x3] 33)).cell? ⟨w2.heap.size, 0, none⟩ = some (.string x0) := by rw [cell_of_row _ _ _ _ _ _ (heap_alloc_new _ _)]; rfl
        have hc1 : (w2.alloc (.cells #[.string x0, .int .i64 x1, .bool x2, .int .i64 x3] 33)).cell? ⟨w2.heap.size, 1, none⟩ = some (.int .i64 x1) := by rw [cell_of_row _ _ _ _ _ _ (heap_alloc_new _ _)]; rfl
        have hc2 : (w2.alloc (.cells #[.string x0, .int .i64 x1, .bool x2, .int .i64 x3] 33)).cell? ⟨w2.heap.size, 2, none⟩ = some (.bool x2) := by rw [cell_of_row _ _ _ _ _ _ (heap_alloc_new _ _)]; rfl
        have hc3 : (w2.alloc (.cells #[.string x0, .int .i64 x1, .bool x2, .int .i64 x3] 33)).cell? ⟨w2.heap.size, 3, none⟩ = some (.int .i64 x3) := by rw [cell_of_row _ _ _ _ _ _ (heap_alloc_new _ _)]; rfl
        go_wp2_with (at_builtin; refine app_en rfl (.tmp 23) (.tmp 28) rfl (w2.alloc (.cells #[.string x0, .int .i64 x1, .bool x2, .int .i64 x3] 33)) w.heap.size v OUT rfl HOA.out w2.heap.size 1 ⟨x0, x1, x2, x3⟩ rfl hc0 hc1 hc2 hc3 (by omega) HBA.out.size ?_; intro vb wb ob gb; have OB := Lib.hid ob; have BB := Lib.hid (HBA.out.grown gb HBA.out.size fun k hk => (World.ownsRow.lt HOA.out k hk).1); clear ob gb)
        go_roundw
        case rel => exact ⟨_, k + 1, by omega, by go_num, rfl, by rw [HN.out]; exact OB.out, BB.out⟩
        case measure => simp [intOf]; omega
    · have hke : k = l.length := by omega
      subst hke
      have hvl := selUp_len l (seenI l times) l.length
      have hvis := vis_is HORD.out times
      rw [hvis] at HOL hvl
      have HVO := Lib.hid (vis_ord HORD.out times)
      have HT0 := Lib.hid (show trimL l times false = visL l times from rfl)
      have HT1 := Lib.hid (show trimL l times true = bottomL (visL l times) from rfl)
      clear hvis
      obtain ⟨vs, hvs⟩ : ∃ vs, vs = visL l times := ⟨_, rfl⟩
      rw [← hvs] at HOL hvl HVO HT0 HT1
      clear hvs
      cases bot with
      | false =>
        go_wp2
        go_ret
        exact ⟨_, rfl, by rw [HT0.out]; exact HOL.out, HBL.out⟩
      | true =>
        obtain ⟨V, cv, hv, hcv, hmv, hes⟩ := ownE_parts HOL.out
        subst hv
        have HES := Lib.hid hes
        have HSZ := Lib.hid HBL.out.size
        clear hes
        obtain ⟨w0, hw0⟩ : ∃ w0, w0 = wr := ⟨_, rfl⟩
        subst hw0
        go_wp2_with fail
        go_loopw [9, 10] (fun s i wq => ∃ (v : Value) (k : Nat), k ≤ vs.length ∧ i = .int .i64 (k : Nat) ∧ s = v ∧ OwnE wq w0.heap.size v (selUp vs (keepI vs) k) ∧ Below w0.heap.size w0 wq) (fun _ i _ => vs.length - (intOf i).toNat)
        case atStart => exact ⟨_, 0, Nat.zero_le _, rfl, rfl, emptyE w0, (Below.refl _ _).alloc (Nat.le_refl _) _⟩
        case round =>
          obtain ⟨v, k, hk, rfl, hv, ho, hb⟩ := hrel
          have hv1 := hv.symm
          clear hv
          subst hv1
          have HO2 := Lib.hid ho
          have HB2 := Lib.hid hb
          clear ho hb
          by_cases hlt : k < vs.length
          · have hsl := selUp_len vs (keepI vs) k
            obtain ⟨OUT, hOUT⟩ : ∃ OUT, OUT = selUp vs (keepI vs) k := ⟨_, rfl⟩
            have HOUT := Lib.hid hOUT
            rw [← hOUT] at HO2 hsl
            clear hOUT
            obtain ⟨kb, ko, hA, hkb, d0, d1, d2, d3⟩ := (HES.out.below HB2.out (Nat.le_refl _)).cell k hlt
            subst hA
            obtain ⟨x0, h0⟩ : ∃ y, y = vs[k].key := ⟨_, rfl⟩
            rw [← h0] at d0
            obtain ⟨x1, h1⟩ : ∃ y, y = vs[k].val := ⟨_, rfl⟩
            rw [← h1] at d1
            obtain ⟨x2, h2⟩ : ∃ y, y = vs[k].gone := ⟨_, rfl⟩
            rw [← h2] at d2
            obtain ⟨x3, h3⟩ : ∃ y, y = vs[k].time := ⟨_, rfl⟩
            rw [← h3] at d3
            have HE := Lib.hid (show en vs (k) = ⟨x0, x1, x2, x3⟩ by rw [en_at (by omega), h0, h1, h2, h3])
            clear h0 h1 h2 h3
            have z0 : (0 : Int) ≤ (k : Int) := by omega
            have z1 : (k : Int) < (vs.length : Int) := by omega
            obtain ⟨j, hj⟩ : ∃ j, k + 1 = j := ⟨_, rfl⟩
            have ej : IntKind.i64.wrap ((k : Int) + 1) = (j : Int) := by rw [show (k : Int) + 1 = (j : Int) by omega]; exact i64_z _ (by omega) (by omega)
            have HJ := Lib.hid hj
            by_cases hend : j < vs.length
            · have hend1 : ¬ (vs.length : Int) ≤ (j : Int) := by omega
              have hend2 : decide ((vs.length : Int) ≤ (j : Int)) = false := by simpa using hend1
              have hend4 : ¬ vs.length ≤ j := by omega
              have hend5 : decide (vs.length ≤ j) = false := by simpa using hend4
              have j0 : (0 : Int) ≤ (j : Int) := by omega
              have j1 : (j : Int) < (vs.length : Int) := by omega
              have hla := last_mid hj hend
              rw [HE.out] at hla
              obtain ⟨jb, jo, hA2, hjb, g0, -, -, -⟩ := (HES.out.below HB2.out (Nat.le_refl _)).cell j hend
              injection hA2 with hA2
              injection hA2 with e1 e2
              subst e1 e2
              obtain ⟨y0, hy0⟩ : ∃ y, y = vs[j].key := ⟨_, rfl⟩
              rw [← hy0] at g0 hla
              clear hy0
              rcases Bool.eq_false_or_eq_true (y0.toList == x0.toList) with hyx | hyx
              · have HLA := Lib.hid (show lastI vs k = false by rw [hla, hyx]; rfl)
                clear hla hj
                cases x2 with
                | false =>
                  have HN := Lib.hid (show selUp vs (keepI vs) (k + 1) = OUT ++ [⟨x0, x1, false, x3⟩] by rw [selUp_yes (by unfold keepI; rw [HE.out, HLA.out]; rfl), HOUT.out, HE.out])
                  go_wp2_with fail
                  go_quiet (fail)
                  obtain ⟨W3, hW3⟩ : ∃ W, W = wr.drewN nq := ⟨_, rfl⟩
                  have HO3 := Lib.hid (show OwnE W3 w0.heap.size v OUT by rw [hW3]; exact rowHeap HO2.out (by rfl))
                  have HB3 := Lib.hid (show Below w0.heap.size w0 W3 by rw [hW3]; exact bel2 HB2.out (by rfl) (by rfl) (by rfl) (by rfl))
                  have c0 : W3.cell? ⟨kb, ko + k * 4, none⟩ = some (.string x0) := by rw [hW3]; exact d0
                  have c1 : W3.cell? ⟨kb, ko + k * 4 + 1, none⟩ = some (.int .i64 x1) := by rw [hW3]; exact d1
                  have c2 : W3.cell? ⟨kb, ko + k * 4 + 2, none⟩ = some (.bool false) := by rw [hW3]; exact d2
                  have c3 : W3.cell? ⟨kb, ko + k * 4 + 3, none⟩ = some (.int .i64 x3) := by rw [hW3]; exact d3
                  rw [← hW3]
                  clear hW3 d0 d1 d2 d3
                  have HOA := Lib.hid (show OwnE (W3.alloc (.cells #[.string x0, .int .i64 x1, .bool false, .int .i64 x3] 33)) w0.heap.size v OUT from World.ownsRow.alloc HO3.out _)
                  have HBA := Lib.hid (HB3.out.alloc HB3.out.size (.cells #[.string x0, .int .i64 x1, .bool false, .int .i64 x3] 33))
                  have hc0 : (W3.alloc (.cells #[.string x0, .int .i64 x1, .bool false, .int .i64 x3] 33)).cell? ⟨W3.heap.size, 0, none⟩ = some (.string x0) := by rw [cell_of_row _ _ _ _ _ _ (heap_alloc_new _ _)]; rfl
                  have hc1 : (W3.alloc (.cells #[.string x0, .int .i64 x1, .bool false, .int .i64 x3] 33)).cell? ⟨W3.heap.size, 1, none⟩ = some (.int .i64 x1) := by rw [cell_of_row _ _ _ _ _ _ (heap_alloc_new _ _)]; rfl
                  have hc2 : (W3.alloc (.cells #[.string x0, .int .i64 x1, .bool false, .int .i64 x3] 33)).cell? ⟨W3.heap.size, 2, none⟩ = some (.bool false) := by rw [cell_of_row _ _ _ _ _ _ (heap_alloc_new _ _)]; rfl
                  have hc3 : (W3.alloc (.cells #[.string x0, .int .i64 x1, .bool false, .int .i64 x3] 33)).cell? ⟨W3.heap.size, 3, none⟩ = some (.int .i64 x3) := by rw [cell_of_row _ _ _ _ _ _ (heap_alloc_new _ _)]; rfl
                  go_wp2_with (at_builtin; refine app_en rfl (.tmp 69) (.tmp 74) rfl (W3.alloc (.cells #[.string x0, .int .i64 x1, .bool false, .int .i64 x3] 33)) w0.heap.size v OUT rfl HOA.out W3.heap.size 1 ⟨x0, x1, false, x3⟩ rfl hc0 hc1 hc2 hc3 (by omega) HBA.out.size ?_; intro vb wb ob gb; have OB := Lib.hid ob; have BB := Lib.hid (HBA.out.grown gb HBA.out.size fun k hk => (World.ownsRow.lt HOA.out k hk).1); clear ob gb)
                  go_roundw
                  case rel => exact ⟨_, j, by have := HJ.out; omega, rfl, rfl, by rw [← HJ.out, HN.out]; exact OB.out, BB.out⟩
                  case measure => have := HJ.out; simp [intOf]; omega
                | true =>
                  have HN := Lib.hid (show selUp vs (keepI vs) (k + 1) = OUT ++ [⟨x0, x1, true, x3⟩] by rw [selUp_yes (by unfold keepI; rw [HE.out, HLA.out]; rfl), HOUT.out, HE.out])
                  go_wp2_with fail
                  go_quiet (fail)
                  obtain ⟨W3, hW3⟩ : ∃ W, W = wr.drewN nq := ⟨_, rfl⟩
                  have HO3 := Lib.hid (show OwnE W3 w0.heap.size v OUT by rw [hW3]; exact rowHeap HO2.out (by rfl))
                  have HB3 := Lib.hid (show Below w0.heap.size w0 W3 by rw [hW3]; exact bel2 HB2.out (by rfl) (by rfl) (by rfl) (by rfl))
                  have c0 : W3.cell? ⟨kb, ko + k * 4, none⟩ = some (.string x0) := by rw [hW3]; exact d0
                  have c1 : W3.cell? ⟨kb, ko + k * 4 + 1, none⟩ = some (.int .i64 x1) := by rw [hW3]; exact d1
                  have c2 : W3.cell? ⟨kb, ko + k * 4 + 2, none⟩ = some (.bool true) := by rw [hW3]; exact d2
                  have c3 : W3.cell? ⟨kb, ko + k * 4 + 3, none⟩ = some (.int .i64 x3) := by rw [hW3]; exact d3
                  rw [← hW3]
                  clear hW3 d0 d1 d2 d3
                  have HOA := Lib.hid (show OwnE (W3.alloc (.cells #[.string x0, .int .i64 x1, .bool true, .int .i64 x3] 33)) w0.heap.size v OUT from World.ownsRow.alloc HO3.out _)
                  have HBA := Lib.hid (HB3.out.alloc HB3.out.size (.cells #[.string x0, .int .i64 x1, .bool true, .int .i64 x3] 33))
                  have hc0 : (W3.alloc (.cells #[.string x0, .int .i64 x1, .bool true, .int .i64 x3] 33)).cell? ⟨W3.heap.size, 0, none⟩ = some (.string x0) := by rw [cell_of_row _ _ _ _ _ _ (heap_alloc_new _ _)]; rfl
                  have hc1 : (W3.alloc (.cells #[.string x0, .int .i64 x1, .bool true, .int .i64 x3] 33)).cell? ⟨W3.heap.size, 1, none⟩ = some (.int .i64 x1) := by rw [cell_of_row _ _ _ _ _ _ (heap_alloc_new _ _)]; rfl
                  have hc2 : (W3.alloc (.cells #[.string x0, .int .i64 x1, .bool true, .int .i64 x3] 33)).cell? ⟨W3.heap.size, 2, none⟩ = some (.bool true) := by rw [cell_of_row _ _ _ _ _ _ (heap_alloc_new _ _)]; rfl
                  have hc3 : (W3.alloc (.cells #[.string x0, .int .i64 x1, .bool true, .int .i64 x3] 33)).cell? ⟨W3.heap.size, 3, none⟩ = some (.int .i64 x3) := by rw [cell_of_row _ _ _ _ _ _ (heap_alloc_new _ _)]; rfl
                  go_wp2_with (at_builtin; refine app_en rfl (.tmp 69) (.tmp 74) rfl (W3.alloc (.cells #[.string x0, .int .i64 x1, .bool true, .int .i64 x3] 33)) w0.heap.size v OUT rfl HOA.out W3.heap.size 1 ⟨x0, x1, true, x3⟩ rfl hc0 hc1 hc2 hc3 (by omega) HBA.out.size ?_; intro vb wb ob gb; have OB := Lib.hid ob; have BB := Lib.hid (HBA.out.grown gb HBA.out.size fun k hk => (World.ownsRow.lt HOA.out k hk).1); clear ob gb)
                  go_roundw
                  case rel => exact ⟨_, j, by have := HJ.out; omega, rfl, rfl, by rw [← HJ.out, HN.out]; exact OB.out, BB.out⟩
                  case measure => have := HJ.out; simp [intOf]; omega
              · have HLA := Lib.hid (show lastI vs k = true by rw [hla, hyx]; rfl)
                clear hla hj
                cases x2 with
                | false =>
                  have HN := Lib.hid (show selUp vs (keepI vs) (k + 1) = OUT ++ [⟨x0, x1, false, x3⟩] by rw [selUp_yes (by unfold keepI; rw [HE.out, HLA.out]; rfl), HOUT.out, HE.out])
                  go_wp2_with fail
                  go_quiet (fail)
                  obtain ⟨W3, hW3⟩ : ∃ W, W = wr.drewN nq := ⟨_, rfl⟩
                  have HO3 := Lib.hid (show OwnE W3 w0.heap.size v OUT by rw [hW3]; exact rowHeap HO2.out (by rfl))
                  have HB3 := Lib.hid (show Below w0.heap.size w0 W3 by rw [hW3]; exact bel2 HB2.out (by rfl) (by rfl) (by rfl) (by rfl))
                  have c0 : W3.cell? ⟨kb, ko + k * 4, none⟩ = some (.string x0) := by rw [hW3]; exact d0
                  have c1 : W3.cell? ⟨kb, ko + k * 4 + 1, none⟩ = some (.int .i64 x1) := by rw [hW3]; exact d1
                  have c2 : W3.cell? ⟨kb, ko + k * 4 + 2, none⟩ = some (.bool false) := by rw [hW3]; exact d2
                  have c3 : W3.cell? ⟨kb, ko + k * 4 + 3, none⟩ = some (.int .i64 x3) := by rw [hW3]; exact d3
                  rw [← hW3]
                  clear hW3 d0 d1 d2 d3
                  have HOA := Lib.hid (show OwnE (W3.alloc (.cells #[.string x0, .int .i64 x1, .bool false, .int .i64 x3] 33)) w0.heap.size v OUT from World.ownsRow.alloc HO3.out _)
                  have HBA := Lib.hid (HB3.out.alloc HB3.out.size (.cells #[.string x0, .int .i64 x1, .bool false, .int .i64 x3] 33))
                  have hc0 : (W3.alloc (.cells #[.string x0, .int .i64 x1, .bool false, .int .i64 x3] 33)).cell? ⟨W3.heap.size, 0, none⟩ = some (.string x0) := by rw [cell_of_row _ _ _ _ _ _ (heap_alloc_new _ _)]; rfl
                  have hc1 : (W3.alloc (.cells #[.string x0, .int .i64 x1, .bool false, .int .i64 x3] 33)).cell? ⟨W3.heap.size, 1, none⟩ = some (.int .i64 x1) := by rw [cell_of_row _ _ _ _ _ _ (heap_alloc_new _ _)]; rfl
                  have hc2 : (W3.alloc (.cells #[.string x0, .int .i64 x1, .bool false, .int .i64 x3] 33)).cell? ⟨W3.heap.size, 2, none⟩ = some (.bool false) := by rw [cell_of_row _ _ _ _ _ _ (heap_alloc_new _ _)]; rfl
                  have hc3 : (W3.alloc (.cells #[.string x0, .int .i64 x1, .bool false, .int .i64 x3] 33)).cell? ⟨W3.heap.size, 3, none⟩ = some (.int .i64 x3) := by rw [cell_of_row _ _ _ _ _ _ (heap_alloc_new _ _)]; rfl
                  go_wp2_with (at_builtin; refine app_en rfl (.tmp 69) (.tmp 74) rfl (W3.alloc (.cells #[.string x0, .int .i64 x1, .bool false, .int .i64 x3] 33)) w0.heap.size v OUT rfl HOA.out W3.heap.size 1 ⟨x0, x1, false, x3⟩ rfl hc0 hc1 hc2 hc3 (by omega) HBA.out.size ?_; intro vb wb ob gb; have OB := Lib.hid ob; have BB := Lib.hid (HBA.out.grown gb HBA.out.size fun k hk => (World.ownsRow.lt HOA.out k hk).1); clear ob gb)
                  go_roundw
                  case rel => exact ⟨_, j, by have := HJ.out; omega, rfl, rfl, by rw [← HJ.out, HN.out]; exact OB.out, BB.out⟩
                  case measure => have := HJ.out; simp [intOf]; omega
                | true =>
                  have HN := Lib.hid (show selUp vs (keepI vs) (k + 1) = OUT by rw [selUp_no (by unfold keepI; rw [HE.out, HLA.out]; rfl), HOUT.out])
                  go_wp2_with fail
                  go_quiet (fail)
                  go_wp2
                  go_roundw
                  case rel => exact ⟨_, j, by have := HJ.out; omega, rfl, rfl, by rw [← HJ.out, HN.out]; exact rowHeap HO2.out (by rfl), bel2 HB2.out (by rfl) (by rfl) (by rfl) (by rfl)⟩
                  case measure => have := HJ.out; simp [intOf]; omega
            · have hend3 : j = vs.length := by omega
              have hend1 : (vs.length : Int) ≤ (j : Int) := by omega
              have hend2 : decide ((vs.length : Int) ≤ (j : Int)) = true := by simpa using hend1
              have hend4 : vs.length ≤ j := by omega
              have hend5 : decide (vs.length ≤ j) = true := by simpa using hend4
              have HLA := Lib.hid (last_end (r := vs) (i := k) (by omega))
              clear hend3 hj
              cases x2 with
              | false =>
                have HN := Lib.hid (show selUp vs (keepI vs) (k + 1) = OUT ++ [⟨x0, x1, false, x3⟩] by rw [selUp_yes (by unfold keepI; rw [HE.out, HLA.out]; rfl), HOUT.out, HE.out])
                go_wp2_with fail
                go_quiet (fail)
                obtain ⟨W3, hW3⟩ : ∃ W, W = wr.drewN nq := ⟨_, rfl⟩
                have HO3 := Lib.hid (show OwnE W3 w0.heap.size v OUT by rw [hW3]; exact rowHeap HO2.out (by rfl))
                have HB3 := Lib.hid (show Below w0.heap.size w0 W3 by rw [hW3]; exact bel2 HB2.out (by rfl) (by rfl) (by rfl) (by rfl))
                have c0 : W3.cell? ⟨kb, ko + k * 4, none⟩ = some (.string x0) := by rw [hW3]; exact d0
                have c1 : W3.cell? ⟨kb, ko + k * 4 + 1, none⟩ = some (.int .i64 x1) := by rw [hW3]; exact d1
                have c2 : W3.cell? ⟨kb, ko + k * 4 + 2, none⟩ = some (.bool false) := by rw [hW3]; exact d2
                have c3 : W3.cell? ⟨kb, ko + k * 4 + 3, none⟩ = some (.int .i64 x3) := by rw [hW3]; exact d3
                rw [← hW3]
                clear hW3 d0 d1 d2 d3
                have HOA := Lib.hid (show OwnE (W3.alloc (.cells #[.string x0, .int .i64 x1, .bool false, .int .i64 x3] 33)) w0.heap.size v OUT from World.ownsRow.alloc HO3.out _)
                have HBA := Lib.hid (HB3.out.alloc HB3.out.size (.cells #[.string x0, .int .i64 x1, .bool false, .int .i64 x3] 33))
                have hc0 : (W3.alloc (.cells #[.string x0, .int .i64 x1, .bool false, .int .i64 x3] 33)).cell? ⟨W3.heap.size, 0, none⟩ = some (.string x0) := by rw [cell_of_row _ _ _ _ _ _ (heap_alloc_new _ _)]; rfl
                have hc1 : (W3.alloc (.cells #[.string x0, .int .i64 x1, .bool false, .int .i64 x3] 33)).cell? ⟨W3.heap.size, 1, none⟩ = some (.int .i64 x1) := by rw [cell_of_row _ _ _ _ _ _ (heap_alloc_new _ _)]; rfl
                have hc2 : (W3.alloc (.cells #[.string x0, .int .i64 x1, .bool false, .int .i64 x3] 33)).cell? ⟨W3.heap.size, 2, none⟩ = some (.bool false) := by rw [cell_of_row _ _ _ _ _ _ (heap_alloc_new _ _)]; rfl
                have hc3 : (W3.alloc (.cells #[.string x0, .int .i64 x1, .bool false, .int .i64 x3] 33)).cell? ⟨W3.heap.size, 3, none⟩ = some (.int .i64 x3) := by rw [cell_of_row _ _ _ _ _ _ (heap_alloc_new _ _)]; rfl
                go_wp2_with (at_builtin; refine app_en rfl (.tmp 69) (.tmp 74) rfl (W3.alloc (.cells #[.string x0, .int .i64 x1, .bool false, .int .i64 x3] 33)) w0.heap.size v OUT rfl HOA.out W3.heap.size 1 ⟨x0, x1, false, x3⟩ rfl hc0 hc1 hc2 hc3 (by omega) HBA.out.size ?_; intro vb wb ob gb; have OB := Lib.hid ob; have BB := Lib.hid (HBA.out.grown gb HBA.out.size fun k hk => (World.ownsRow.lt HOA.out k hk).1); clear ob gb)
                go_roundw
                case rel => exact ⟨_, j, by have := HJ.out; omega, rfl, rfl, by rw [← HJ.out, HN.out]; exact OB.out, BB.out⟩
                case measure => have := HJ.out; simp [intOf]; omega
              | true =>
                have HN := Lib.hid (show selUp vs (keepI vs) (k + 1) = OUT by rw [selUp_no (by unfold keepI; rw [HE.out, HLA.out]; rfl), HOUT.out])
                go_wp2_with fail
                go_quiet (fail)
                go_wp2
                go_roundw
                case rel => exact ⟨_, j, by have := HJ.out; omega, rfl, rfl, by rw [← HJ.out, HN.out]; exact rowHeap HO2.out (by rfl), bel2 HB2.out (by rfl) (by rfl) (by rfl) (by rfl)⟩
                case measure => have := HJ.out; simp [intOf]; omega
          · have hke : k = vs.length := by omega
            subst hke
            have HBF := Lib.hid (HBL.out.trans (HB2.out.mono HSZ.out))
            have HOF := Lib.hid (ownE_base HO2.out HSZ.out)
            have HE := Lib.hid (bot_is HVO.out)
            go_wp2
            go_ret
            exact ⟨_, rfl, by rw [HT1.out, ← HE.out]; exact HOF.out, HBF.out⟩

end Go.Proofs.Ytjjalagmlbaafaa.W
