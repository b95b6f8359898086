/-
  The law FnRunList (P37), as a walk over the contracts.
-/
import Derived.Test.YtfpgjkanmanajaaEV
namespace Go.Proofs.Ytfpgjkanmanajaa.W
open Go.RowKit K R

theorem fm_get {α β : Type} {ks : List α} {p : α → Option β} {k : Nat} {y : β} (h : k < ks.length) (hp : p ks[k] = some y) :
    ∃ hn : ((ks.take k).filterMap p).length < (ks.filterMap p).length, (ks.filterMap p)[((ks.take k).filterMap p).length] = y := by
  have e : ks.filterMap p = (ks.take k).filterMap p ++ y :: (ks.drop (k + 1)).filterMap p := by
    conv => lhs; rw [← List.take_append_drop (k + 1) ks, List.filterMap_append, fm_some h hp, List.append_assoc]
    rfl
  refine ⟨by rw [e, List.length_append, List.length_cons]; omega, ?_⟩
  simp [e]
theorem keysI_few {W : World} {A : Option Addr} {c : Nat} {l : List En} (h : Few W A c l) : Calls Try.prog 36 #[.slice A l.length c] W (New W (keysO l)) :=
  runKeysI W W.heap.size l.length c A l h.ents (Nat.le_refl _) (by have := h.len; omega) h.fit
theorem runS_few {W : World} {A : Option Addr} {c : Nat} {l : List En} (h : Few W A c l) : Calls Try.prog 25 #[.slice A l.length c] W fun e w' => e = .returned (.bool (runB l)) ∧ Below W.heap.size W w' :=
  runS W W.heap.size l.length c A l h.ents (Nat.le_refl _) (by have := h.len; unfold maxLen; omega) h.fit

set_option maxHeartbeats 8000000 in
set_option maxRecDepth 100000 in
theorem lawRunList (w : World) (A : Option Addr) (n c : Nat) (hb0 : Bytes w w.heap.size A n) (hnc : n ≤ c) (hc : c ≤ maxLen) :
    Calls Try.prog 12 #[.slice A n c] w fun e w' => e = .returned (.bool true) ∧ Below w.heap.size w w' := by
  by_cases hbig : (1048576 : Int) < (n : Int)
  · clear hb0
    go_enter Try.func12, Try.ntmps12
    go_wp2
    go_ret
    exact ⟨rfl, Below.refl _ _⟩
  go_enter Try.func12, Try.ntmps12
  go_wp2_with fail
  go_at_call 41
  refine Calls.mono (drawRunList w A n c hb0 hnc hc) ?_
  rintro e w1 ⟨A1, c1, l, f, u, t, hf6, hu6, ht, rfl, hf, hb⟩
  have HF := Lib.hid hf
  have HB := Lib.hid hb
  clear hb0 hf hb
  go_wp2_with fail
  go_at_call 42
  refine Calls.mono (listI_few HF.out f u (t : Nat)) ?_
  rintro e w2 ⟨A2, c2, rfl, hf_, b_⟩
  replace HF := Lib.hid (HF.out.below b_)
  replace HB := Lib.hid (HB.out.trans (b_.mono HB.out.size))
  have HL := Lib.hid hf_
  clear hf_ b_
  go_wp2_with fail
  go_at_call 43
  refine Calls.mono (listS_few HF.out f u (t : Nat)) ?_
  rintro e w3 ⟨A3, c3, rfl, hf_, b_⟩
  replace HF := Lib.hid (HF.out.below b_)
  replace HL := Lib.hid (HL.out.below b_)
  replace HB := Lib.hid (HB.out.trans (b_.mono HB.out.size))
  have HM := Lib.hid hf_
  clear hf_ b_
  go_wp2_with fail
  go_at_call 27
  refine Calls.mono (same_few HL.out HM.out) ?_
  rintro e w4 ⟨rfl, b_⟩
  replace HF := Lib.hid (HF.out.below b_)
  replace HL := Lib.hid (HL.out.below b_)
  replace HM := Lib.hid (HM.out.below b_)
  replace HB := Lib.hid (HB.out.trans (b_.mono HB.out.size))
  clear b_
  clear HM
  rcases Bool.eq_false_or_eq_true (runB l) with hrun | hrun
  · have HC := Lib.hid (runS_few HF.out)
    rw [hrun] at HC
    go_wp2_with fail
    go_at_call 25
    refine Calls.mono (HC.out) ?_
    rintro e w5 ⟨rfl, b_⟩
    replace HF := Lib.hid (HF.out.below b_)
    replace HL := Lib.hid (HL.out.below b_)
    replace HB := Lib.hid (HB.out.trans (b_.mono HB.out.size))
    clear b_
    clear HC
    have hk0 : keysO l = keysL l := by unfold keysO; rw [if_pos hrun]
    have hl0 : listO l f u (t : Nat) = (keysL l).filterMap (pickE l f u (t : Nat)) := by unfold listO; rw [if_pos hrun]; rfl
    have HATR := Lib.hid (fun s => atO_run hrun s (t : Nat))
    have HC := Lib.hid (keysI_few HF.out)
    rw [hk0] at HC
    have hkl := keysL_len l
    have hl45 := HF.out.len
    obtain ⟨ks, hks⟩ : ∃ ks, ks = keysL l := ⟨_, rfl⟩
    rw [← hks] at HC hl0 hkl
    rw [hl0] at HL
    rw [hl0]
    clear hks hk0 hl0 hrun
    go_wp2_with fail
    go_at_call 36
    refine Calls.mono (HC.out) ?_
    rintro e w6 ⟨kv, rfl, ok_, b_⟩
    obtain ⟨AK, cK, hkv, -, -, sk_⟩ := ok_.parts
    subst hkv
    replace HF := Lib.hid (HF.out.below b_)
    replace HL := Lib.hid (HL.out.below b_)
    replace HB := Lib.hid (HB.out.trans (b_.mono HB.out.size))
    have HK := Lib.hid sk_
    clear ok_ b_ sk_ HC
    obtain ⟨r, hr⟩ : ∃ r, r = ks.filterMap (pickE l f u (t : Nat)) := ⟨_, rfl⟩
    have HRR := Lib.hid hr
    rw [← hr] at HL
    rw [← hr]
    clear hr
    have hr45 := HL.out.len
    go_wp2_with fail
    go_loopw [9, 10] (fun nv i wr => ∃ k m : Nat, k ≤ ks.length ∧ i = .int .i64 (k : Nat) ∧ nv = .int .i64 (m : Nat) ∧ m = ((ks.take k).filterMap (pickE l f u (t : Nat))).length ∧ Below w6.heap.size w6 wr) (fun _ i _ => ks.length - (intOf i).toNat)
    case atStart => exact ⟨0, 0, Nat.zero_le _, rfl, rfl, rfl, Below.refl _ _⟩
    case round =>
      obtain ⟨k, m, hk, rfl, rfl, hm, hb⟩ := hrel
      have HBL := Lib.hid hb
      have HMM := Lib.hid hm
      have hm45 : m ≤ ks.length := by rw [hm]; exact filt_len ks k
      clear hb hm
      by_cases hlt : k < ks.length
      · obtain ⟨kb, ko, hA, hkb, d0⟩ := (HK.out.below HBL.out (Nat.le_refl _)).cell k hlt
        subst hA
        obtain ⟨s, hs⟩ : ∃ s, s = ks[k] := ⟨_, rfl⟩
        rw [← hs] at d0
        have HS := Lib.hid hs
        have z0 : (0 : Int) ≤ (k : Int) := by omega
        have z1 : (k : Int) < (ks.length : Int) := by omega
        obtain ⟨x0, x1, x2, x3, b, hx, hbs⟩ := at_letters (atL l s (t : Nat))
        have HX := Lib.hid hx
        have HBS := Lib.hid hbs
        have HFW := Lib.hid (HF.out.below HBL.out)
        have HC := Lib.hid (atI_is HFW.out (HATR.out s) hx hbs)
        clear hs hx hbs
        go_wp2_with fail
        go_at_call 30
        refine Calls.mono HC.out ?_
        rintro e w7 ⟨rfl, b_⟩
        obtain ⟨W7, hW7⟩ : ∃ W, W = w7.alloc (.cells #[.string x0, .int .i64 x1, .bool x2, .int .i64 x3] 33) := ⟨_, rfl⟩
        have bb_ : Below wr.heap.size wr W7 := by rw [hW7]; exact b_.trans ((new_box w7 x0 x1 x2 x3).mono b_.size)
        obtain ⟨p0, p1, p2, p3⟩ := (show Box W7 w7.heap.size x0 x1 x2 x3 by rw [hW7]; exact Box.new _ _ _ _ _).cells
        have HB7 := Lib.hid (HBL.out.trans (bb_.mono HBL.out.size))
        have d1 : W7.cell? ⟨kb, ko + k, none⟩ = some (.string s) := (bb_.cell (p := ⟨kb, ko + k, none⟩) (Nat.lt_of_lt_of_le hkb HBL.out.size)).trans d0
        have HW7 := Lib.hid hW7
        clear b_ bb_ hW7 HC HFW d0
        go_upto_region 13 with fail
        rw [← HW7.out]
        cases b with
        | false =>
          have HN := Lib.hid (show m = ((ks.take (k + 1)).filterMap (pickE l f u (t : Nat))).length from by
            rw [HMM.out]
            exact congrArg List.length (fm_none hlt (pickE_none fun e he => by rw [← HS.out] at he ⊢; rw [he] at HBS; exact absurd HBS.out (by simp))).symm)
          go_wp2
          go_roundw
          case rel => exact ⟨k + 1, m, by omega, by go_num, rfl, HN.out, HB7.out⟩
          case measure => simp [intOf]; omega
        | true =>
          cases x2 with
          | true =>
            have HN := Lib.hid (show m = ((ks.take (k + 1)).filterMap (pickE l f u (t : Nat))).length from by
              rw [HMM.out]
              exact congrArg List.length (fm_none hlt (pickE_none fun e he => by rw [← HS.out] at he ⊢; have h := some_of HX.out HBS.out; rw [he] at h; injection h with h; rw [h]; exact .inl rfl)).symm)
            go_wp2
            go_roundw
            case rel => exact ⟨k + 1, m, by omega, by go_num, rfl, HN.out, HB7.out⟩
            case measure => simp [intOf]; omega
          | false =>
            rcases Bool.eq_false_or_eq_true (Op.bytesLess s.toList f.toList) with f1 | f1
            · have F1 := Lib.hid f1
              have HN := Lib.hid (show m = ((ks.take (k + 1)).filterMap (pickE l f u (t : Nat))).length from by
                rw [HMM.out]
                exact congrArg List.length (fm_none hlt (pickE_none fun e he => by rw [← HS.out] at he ⊢; exact .inr (.inl F1.out))).symm)
              go_wp2
              go_roundw
              case rel => exact ⟨k + 1, m, by omega, by go_num, rfl, HN.out, HB7.out⟩
              case measure => simp [intOf]; omega
            · have e1 : lt s f = false := f1
              rcases tri2 s u with ⟨u1, u2⟩ | ⟨u1, u2⟩ | ⟨u1, u2⟩
              · have e2 : lt u s = false := ge_of (.inl u1)
                have hpk : pickE l f u (t : Nat) ks[k] = some ⟨x0, x1, false, x3⟩ := by rw [← HS.out]; exact pick_some.mpr ⟨some_of HX.out HBS.out, rfl, e1, e2⟩
                obtain ⟨hn1, hn2⟩ := fm_get hlt hpk
                rw [← HRR.out] at hn1
                have hn3 : m < r.length := by rw [HMM.out]; exact hn1
                have hn4 : r[m] = ⟨x0, x1, false, x3⟩ := by
                  rw [← hn2]
                  congr 1
                  all_goals first | exact HRR.out | exact HMM.out
                obtain ⟨jb, jo, hA2, hjb, g0, g1, g2, g3⟩ := (HL.out.below HB7.out).ents.cell m hn3
                subst hA2
                rw [hn4] at g0 g1 g2 g3
                have HN := Lib.hid (show m + 1 = ((ks.take (k + 1)).filterMap (pickE l f u (t : Nat))).length from by rw [HMM.out, fm_some hlt hpk, List.length_append, List.length_singleton])
                have e0 : (x0.toList == x0.toList) = true := by simp
                have v0 : (0 : Int) ≤ (m : Int) := by omega
                have v1 : (m : Int) < (r.length : Int) := by omega
                have v2 : ¬ (r.length : Int) ≤ (m : Int) := by omega
                have v3 : decide ((r.length : Int) ≤ (m : Int)) = false := by simpa using v2
                clear hn1 hn2 hn4 hpk
                go_wp2_with fail
                go_quiet (fail)
                go_wp2
                go_roundw
                case rel => exact ⟨k + 1, m + 1, by omega, by go_num, by go_num, HN.out, bel2 HB7.out (by rfl) (by rfl) (by rfl) (by rfl)⟩
                case measure => simp [intOf]; omega
              · have e2 : lt u s = false := ge_of (.inr u2)
                have hpk : pickE l f u (t : Nat) ks[k] = some ⟨x0, x1, false, x3⟩ := by rw [← HS.out]; exact pick_some.mpr ⟨some_of HX.out HBS.out, rfl, e1, e2⟩
                obtain ⟨hn1, hn2⟩ := fm_get hlt hpk
                rw [← HRR.out] at hn1
                have hn3 : m < r.length := by rw [HMM.out]; exact hn1
                have hn4 : r[m] = ⟨x0, x1, false, x3⟩ := by
                  rw [← hn2]
                  congr 1
                  all_goals first | exact HRR.out | exact HMM.out
                obtain ⟨jb, jo, hA2, hjb, g0, g1, g2, g3⟩ := (HL.out.below HB7.out).ents.cell m hn3
                subst hA2
                rw [hn4] at g0 g1 g2 g3
                have HN := Lib.hid (show m + 1 = ((ks.take (k + 1)).filterMap (pickE l f u (t : Nat))).length from by rw [HMM.out, fm_some hlt hpk, List.length_append, List.length_singleton])
                have e0 : (x0.toList == x0.toList) = true := by simp
                have v0 : (0 : Int) ≤ (m : Int) := by omega
                have v1 : (m : Int) < (r.length : Int) := by omega
                have v2 : ¬ (r.length : Int) ≤ (m : Int) := by omega
                have v3 : decide ((r.length : Int) ≤ (m : Int)) = false := by simpa using v2
                clear hn1 hn2 hn4 hpk
                go_wp2_with fail
                go_quiet (fail)
                go_wp2
                go_roundw
                case rel => exact ⟨k + 1, m + 1, by omega, by go_num, by go_num, HN.out, bel2 HB7.out (by rfl) (by rfl) (by rfl) (by rfl)⟩
                case measure => simp [intOf]; omega
              · have GG := Lib.hid (gt_of u1 u2)
                have HN := Lib.hid (show m = ((ks.take (k + 1)).filterMap (pickE l f u (t : Nat))).length from by
                  rw [HMM.out]
                  exact congrArg List.length (fm_none hlt (pickE_none fun e he => by rw [← HS.out] at he ⊢; exact .inr (.inr GG.out))).symm)
                go_wp2
                go_roundw
                case rel => exact ⟨k + 1, m, by omega, by go_num, rfl, HN.out, HB7.out⟩
                case measure => simp [intOf]; omega
      · have hke : k = ks.length := by omega
        subst hke
        have hme : m = r.length := by rw [HMM.out, List.take_length, HRR.out]
        subst hme
        have HBF := Lib.hid (HB.out.trans (HBL.out.mono HB.out.size))
        go_wp2
        go_ret
        exact ⟨rfl, HBF.out⟩
  · have HC := Lib.hid (runS_few HF.out)
    rw [hrun] at HC
    go_wp2_with fail
    go_at_call 25
    refine Calls.mono (HC.out) ?_
    rintro e w5 ⟨rfl, b_⟩
    replace HF := Lib.hid (HF.out.below b_)
    replace HL := Lib.hid (HL.out.below b_)
    replace HB := Lib.hid (HB.out.trans (b_.mono HB.out.size))
    clear b_
    clear HC
    go_wp2_with fail
    go_at_call 43
    refine Calls.mono (listS_few HF.out f u (t : Nat)) ?_
    rintro e w6 ⟨A4, c4, rfl, hf_, b_⟩
    replace HF := Lib.hid (HF.out.below b_)
    replace HL := Lib.hid (HL.out.below b_)
    replace HB := Lib.hid (HB.out.trans (b_.mono HB.out.size))
    have HM := Lib.hid hf_
    clear hf_ b_
    go_wp2_with fail
    go_at_call 27
    refine Calls.mono (same_few HL.out HM.out) ?_
    rintro e w7 ⟨rfl, b_⟩
    replace HF := Lib.hid (HF.out.below b_)
    replace HL := Lib.hid (HL.out.below b_)
    replace HM := Lib.hid (HM.out.below b_)
    replace HB := Lib.hid (HB.out.trans (b_.mono HB.out.size))
    clear b_
    go_wp2
    go_ret
    exact ⟨rfl, HB.out⟩

end Go.Proofs.Ytfpgjkanmanajaa.W
