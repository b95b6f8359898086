/-
  The law FnRunTrim (P33), as a walk over the contracts.
-/
import Derived.Test.YtjjalagmlbaafaaGE
namespace Go.Proofs.Ytjjalagmlbaafaa.W
open Go.RowKit K R

theorem trim_keeps {l : List En} (h : runB l = true) (times : List Int) (bot : Bool) {t : Int} (ht : t ∈ times ∨ t = 999) (s : ByteArray) :
    (∀ e, atO l s t = some e → e.gone = false → atO (trimO l times bot) s t = some e) ∧ (∀ f, atO (trimO l times bot) s t = some f → f.gone = false → atO l s t = some f) := by
  have ho := (run_iff.mp h).2.2
  have hv := run_part h (vis_sub l times)
  have hvo := (run_iff.mp hv).2.2
  have e1 : atL (visL l times) s t = atL l s t := by
    rcases ht with ht | ht
    · exact vis_at ho ht s
    · rw [ht]; exact vis_now h times s
  rw [trimO_run h, atO_run (trim_run h times bot), atO_run h]
  cases bot with
  | false =>
    rw [show trimL l times false = visL l times from rfl, e1]
    exact ⟨fun e he _ => he, fun f hf _ => hf⟩
  | true =>
    rw [show trimL l times true = bottomL (visL l times) from rfl]
    obtain ⟨b1, b2⟩ := bot_at hvo s t
    rw [e1] at b1 b2
    exact ⟨b1, b2⟩
theorem runX_few {W : World} {A : Option Addr} {c : Nat} {l : List En} (h : Few W A c l) (hr : runB l = true) : Calls Try.prog 23 #[.slice A l.length c] W fun e w' => e = .returned (.bool true) ∧ Below W.heap.size W w' := by
  have h2 := runTI_few h
  rw [hr] at h2
  exact h2
theorem gone_of {o o2 : Option En} (h : ∀ f, o2 = some f → f.gone = false → o = some f) {y0 : ByteArray} {y1 : Int} {y2 : Bool} {y3 : Int} (he : atE o2 = ⟨y0, y1, y2, y3⟩) (hd : o2.isSome = true) (ho : o = none ∨ ∃ e, o = some e ∧ e.gone = true) : y2 = true := by
  have h2 := some_of he hd
  cases y2 with
  | true => rfl
  | false =>
    have h3 := h _ h2 rfl
    rcases ho with h4 | ⟨e, h4, h5⟩
    · rw [h4] at h3; cases h3
    · rw [h4] at h3; injection h3 with h3; rw [h3] at h5; cases h5
theorem none_of {o : Option En} (h : o.isSome = false) : o = none := by
  cases o with
  | none => rfl
  | some e => cases h

set_option maxHeartbeats 8000000 in
set_option maxRecDepth 100000 in
theorem lawRunTrim (w : World) (A : Option Addr) (n c : Nat) (hb0 : Bytes w w.heap.size A n) (hnc : n ≤ c) (hc : c ≤ maxLen) :
    Calls Try.prog 8 #[.slice A n c] w fun e w' => e = .returned (.bool true) ∧ Below w.heap.size w w' := by
  by_cases hbig : (1048576 : Int) < (n : Int)
  · clear hb0
    go_enter Try.func8, Try.ntmps8
    go_wp2
    go_ret
    exact ⟨rfl, Below.refl _ _⟩
  go_enter Try.func8, Try.ntmps8
  go_wp2_with fail
  go_at_call 32
  refine Calls.mono (drawRunTrim w A n c hb0 hnc hc) ?_
  rintro e w1 ⟨A1, c1, l, A9, c9, times, bot, ht4, rfl, hf, hn9, hb⟩
  have HF := Lib.hid hf
  have HN := Lib.hid (show FewN w1 A9 times from ⟨ht4, hn9⟩)
  have HB := Lib.hid hb
  have hl45 := hf.len
  clear hb0 hf hn9 hb
  go_wp2_with fail
  go_at_call 33
  refine Calls.mono (trimI_few HF.out HN.out bot) ?_
  rintro e w2 ⟨A2, c2, rfl, hf_, b_⟩
  replace HF := Lib.hid (HF.out.below b_)
  replace HN := Lib.hid (HN.out.below b_)
  replace HB := Lib.hid (HB.out.trans (b_.mono HB.out.size))
  have HX := Lib.hid hf_
  clear hf_ b_
  go_wp2_with fail
  go_at_call 34
  refine Calls.mono (trimS_few HF.out HN.out bot) ?_
  rintro e w3 ⟨A3, c3, rfl, hf_, b_⟩
  replace HF := Lib.hid (HF.out.below b_)
  replace HN := Lib.hid (HN.out.below b_)
  replace HX := Lib.hid (HX.out.below b_)
  replace HB := Lib.hid (HB.out.trans (b_.mono HB.out.size))
  have HM := Lib.hid hf_
  clear hf_ b_
  go_wp2_with fail
  go_at_call 26
  refine Calls.mono (same_few HX.out HM.out) ?_
  rintro e w4 ⟨rfl, b_⟩
  replace HF := Lib.hid (HF.out.below b_)
  replace HN := Lib.hid (HN.out.below b_)
  replace HX := Lib.hid (HX.out.below b_)
  replace HM := Lib.hid (HM.out.below b_)
  replace HB := Lib.hid (HB.out.trans (b_.mono HB.out.size))
  clear b_
  clear HM
  have HC := Lib.hid (runT_few HF.out)
  rcases Bool.eq_false_or_eq_true (runB l) with hrun | hrun
  · rw [hrun] at HC
    go_wp2_with fail
    go_at_call 24
    refine Calls.mono (HC.out) ?_
    rintro e w5 ⟨rfl, b_⟩
    replace HF := Lib.hid (HF.out.below b_)
    replace HN := Lib.hid (HN.out.below b_)
    replace HX := Lib.hid (HX.out.below b_)
    replace HB := Lib.hid (HB.out.trans (b_.mono HB.out.size))
    clear b_
    clear HC
    have HTK := Lib.hid (fun t ht s => trim_keeps hrun times bot (t := t) ht s)
    have HRX := Lib.hid (show runB (trimO l times bot) = true by rw [trimO_run hrun]; exact trim_run hrun times bot)
    have hkq := keysO_le l
    have hx45 := HX.out.len
    clear hrun
    have HC := Lib.hid (keysT_few HF.out)
    obtain ⟨ks, hks⟩ : ∃ y, y = keysO l := ⟨_, rfl⟩
    obtain ⟨xs, hxs⟩ : ∃ y, y = trimO l times bot := ⟨_, rfl⟩
    rw [← hks] at HC hkq
    rw [← hxs] at HX HTK HRX hx45
    rw [← hxs]
    clear hks hxs
    go_wp2_with fail
    go_at_call 35
    refine Calls.mono (HC.out) ?_
    rintro e w6 ⟨kv_, rfl, ok_, b_⟩
    obtain ⟨AK, cK, hkv_, -, -, sk_⟩ := ok_.parts
    subst hkv_
    replace HF := Lib.hid (HF.out.below b_)
    replace HN := Lib.hid (HN.out.below b_)
    replace HX := Lib.hid (HX.out.below b_)
    replace HB := Lib.hid (HB.out.trans (b_.mono HB.out.size))
    have HK := Lib.hid sk_
    clear ok_ b_ sk_ HC
    go_wp2_with fail
    go_loopw [8] (fun i wr => ∃ k : Nat, k ≤ ks.length ∧ i = .int .i64 (k : Nat) ∧ Below w6.heap.size w6 wr) (fun i _ => ks.length - (intOf i).toNat)
    case atStart => exact ⟨0, Nat.zero_le _, rfl, Below.refl _ _⟩
    case round =>
      obtain ⟨k, hk, rfl, hb⟩ := hrel
      have HBO := Lib.hid hb
      clear hb
      by_cases hlt : k < ks.length
      · obtain ⟨wo, hwo⟩ : ∃ wo, wo = wr := ⟨_, rfl⟩
        subst hwo
        obtain ⟨s, hs⟩ : ∃ s, s = ks[k] := ⟨_, rfl⟩
        have HS := Lib.hid hs
        have z0 : (0 : Int) ≤ (k : Int) := by omega
        have z1 : (k : Int) < (ks.length : Int) := by omega
        clear hs
        go_wp2_with fail
        go_loopw [9] (fun i wr => ∃ m : Nat, m ≤ times.length + 1 ∧ i = .int .i64 (m : Nat) ∧ Below w6.heap.size w6 wr) (fun i _ => times.length + 1 - (intOf i).toNat)
        case atStart => exact ⟨0, Nat.zero_le _, rfl, HBO.out⟩
        case round =>
          obtain ⟨m, hm, rfl, hb⟩ := hrel
          have HBL := Lib.hid hb
          clear hb
          have ht4' := ht4
          by_cases hmt : m < times.length
          · obtain ⟨nb, no, hA2, hnb, g0⟩ := (HN.out.below HBL.out).nums.cell m hmt
            subst hA2
            obtain ⟨t, ht⟩ : ∃ t, t = times[m] := ⟨_, rfl⟩
            rw [← ht] at g0
            have HMEM := Lib.hid (show t ∈ times by rw [ht]; exact List.getElem_mem hmt)
            have HM2 := Lib.hid (show m ≤ times.length by omega)
            have y0 : (0 : Int) ≤ (m : Int) := by omega
            have y1 : (m : Int) < (times.length : Int) := by omega
            have y2 : (m : Int) ≤ (times.length : Int) := by omega
            clear ht
            go_upto_region 17 with fail
            clear g0 y0 y1 y2
            have tk := HTK.out t (.inl HMEM.out) s
            obtain ⟨kb, ko, hA, hkb, d0⟩ := (HK.out.below HBL.out (Nat.le_refl _)).cell k hlt
            subst hA
            rw [← HS.out] at d0
            obtain ⟨x0, x1, x2, x3, b, hx, hbs⟩ := at_letters (atO l s t)
            have HFW := Lib.hid (HF.out.below HBL.out)
            have HXW := Lib.hid (HX.out.below HBL.out)
            have HX0 := Lib.hid hx
            have HBS := Lib.hid hbs
            have HTK1 := Lib.hid tk
            have hkbw : kb < wr.heap.size := Nat.lt_of_lt_of_le hkb HBL.out.size
            have HD0 := Lib.hid d0
            clear hx hbs tk
            go_wp2_with fail
            go_at_call 29
            refine Calls.mono (atI_is HFW.out rfl HX0.out HBS.out) ?_
            rintro e w2 ⟨rfl, b_⟩
            obtain ⟨W2, hW2⟩ : ∃ W, W = w2.alloc (.cells #[.string x0, .int .i64 x1, .bool x2, .int .i64 x3] 33) := ⟨_, rfl⟩
            have bb_ : Below wr.heap.size wr W2 := by rw [hW2]; exact b_.trans ((new_box w2 x0 x1 x2 x3).mono b_.size)
            have XW2 := Lib.hid (show Box W2 w2.heap.size x0 x1 x2 x3 by rw [hW2]; exact Box.new _ _ _ _ _)
            replace HXW := Lib.hid (HXW.out.below bb_)
            replace HBL := Lib.hid (HBL.out.trans (bb_.mono HBL.out.size))
            have d1 : W2.cell? ⟨kb, ko + k, none⟩ = some (.string s) := (bb_.cell (p := ⟨kb, ko + k, none⟩) hkbw).trans HD0.out
            have HW2 := Lib.hid hW2
            clear b_ bb_ hW2
            go_upto_region 18 with fail
            rw [← HW2.out]
            clear d0
            cases b with
            | false =>
              obtain ⟨y0, y1, y2, y3, d, hy, hds⟩ := at_letters (atO xs s t)
              cases d with
              | false =>
                have HY0 := Lib.hid hy
                have HDS := Lib.hid hds
                clear hy hds
                go_wp2_with fail
                go_at_call 29
                refine Calls.mono (atI_is HXW.out rfl HY0.out HDS.out) ?_
                rintro e w3 ⟨rfl, b_⟩
                obtain ⟨W3, hW3⟩ : ∃ W, W = w3.alloc (.cells #[.string y0, .int .i64 y1, .bool y2, .int .i64 y3] 33) := ⟨_, rfl⟩
                have bb_ : Below W2.heap.size W2 W3 := by rw [hW3]; exact b_.trans ((new_box w3 y0 y1 y2 y3).mono b_.size)
                have XW3 := Lib.hid (show Box W3 w3.heap.size y0 y1 y2 y3 by rw [hW3]; exact Box.new _ _ _ _ _)
                replace XW2 := Lib.hid (XW2.out.keep bb_)
                replace HBL := Lib.hid (HBL.out.trans (bb_.mono HBL.out.size))
                have HW3 := Lib.hid hW3
                clear b_ bb_ hW3
                go_upto_region 19 with fail
                rw [← HW3.out]
                obtain ⟨p0, p1, p2, p3⟩ := XW2.out.cells
                obtain ⟨q0, q1, q2, q3⟩ := XW3.out.cells
                have e0 : (x0.toList == x0.toList) = true := by simp
                go_wp2
                go_roundw
                case rel => exact ⟨m + 1, by have h9 := HM2.out; omega, by go_num, HBL.out⟩
                case measure => have h9 := HM2.out; simp [intOf]; omega
              | true =>
                have hy2 : y2 = true := gone_of HTK1.out.2 hy hds (.inl (none_of HBS.out))
                subst hy2
                have HY0 := Lib.hid hy
                have HDS := Lib.hid hds
                clear hy hds
                go_wp2_with fail
                go_at_call 29
                refine Calls.mono (atI_is HXW.out rfl HY0.out HDS.out) ?_
                rintro e w3 ⟨rfl, b_⟩
                obtain ⟨W3, hW3⟩ : ∃ W, W = w3.alloc (.cells #[.string y0, .int .i64 y1, .bool true, .int .i64 y3] 33) := ⟨_, rfl⟩
                have bb_ : Below W2.heap.size W2 W3 := by rw [hW3]; exact b_.trans ((new_box w3 y0 y1 true y3).mono b_.size)
                have XW3 := Lib.hid (show Box W3 w3.heap.size y0 y1 true y3 by rw [hW3]; exact Box.new _ _ _ _ _)
                replace XW2 := Lib.hid (XW2.out.keep bb_)
                replace HBL := Lib.hid (HBL.out.trans (bb_.mono HBL.out.size))
                have HW3 := Lib.hid hW3
                clear b_ bb_ hW3
                go_upto_region 19 with fail
                rw [← HW3.out]
                obtain ⟨p0, p1, p2, p3⟩ := XW2.out.cells
                obtain ⟨q0, q1, q2, q3⟩ := XW3.out.cells
                have e0 : (x0.toList == x0.toList) = true := by simp
                go_wp2
                go_roundw
                case rel => exact ⟨m + 1, by have h9 := HM2.out; omega, by go_num, HBL.out⟩
                case measure => have h9 := HM2.out; simp [intOf]; omega
            | true =>
              cases x2 with
              | true =>
                obtain ⟨y0, y1, y2, y3, d, hy, hds⟩ := at_letters (atO xs s t)
                cases d with
                | false =>
                  have HY0 := Lib.hid hy
                  have HDS := Lib.hid hds
                  clear hy hds
                  go_wp2_with fail
                  go_at_call 29
                  refine Calls.mono (atI_is HXW.out rfl HY0.out HDS.out) ?_
                  rintro e w3 ⟨rfl, b_⟩
                  obtain ⟨W3, hW3⟩ : ∃ W, W = w3.alloc (.cells #[.string y0, .int .i64 y1, .bool y2, .int .i64 y3] 33) := ⟨_, rfl⟩
                  have bb_ : Below W2.heap.size W2 W3 := by rw [hW3]; exact b_.trans ((new_box w3 y0 y1 y2 y3).mono b_.size)
                  have XW3 := Lib.hid (show Box W3 w3.heap.size y0 y1 y2 y3 by rw [hW3]; exact Box.new _ _ _ _ _)
                  replace XW2 := Lib.hid (XW2.out.keep bb_)
                  replace HBL := Lib.hid (HBL.out.trans (bb_.mono HBL.out.size))
                  have HW3 := Lib.hid hW3
                  clear b_ bb_ hW3
                  go_upto_region 19 with fail
                  rw [← HW3.out]
                  obtain ⟨p0, p1, p2, p3⟩ := XW2.out.cells
                  obtain ⟨q0, q1, q2, q3⟩ := XW3.out.cells
                  have e0 : (x0.toList == x0.toList) = true := by simp
                  go_wp2
                  go_roundw
                  case rel => exact ⟨m + 1, by have h9 := HM2.out; omega, by go_num, HBL.out⟩
                  case measure => have h9 := HM2.out; simp [intOf]; omega
                | true =>
                  have hy2 : y2 = true := gone_of HTK1.out.2 hy hds (.inr ⟨_, some_of HX0.out HBS.out, rfl⟩)
                  subst hy2
                  have HY0 := Lib.hid hy
                  have HDS := Lib.hid hds
                  clear hy hds
                  go_wp2_with fail
                  go_at_call 29
                  refine Calls.mono (atI_is HXW.out rfl HY0.out HDS.out) ?_
                  rintro e w3 ⟨rfl, b_⟩
                  obtain ⟨W3, hW3⟩ : ∃ W, W = w3.alloc (.cells #[.string y0, .int .i64 y1, .bool true, .int .i64 y3] 33) := ⟨_, rfl⟩
                  have bb_ : Below W2.heap.size W2 W3 := by rw [hW3]; exact b_.trans ((new_box w3 y0 y1 true y3).mono b_.size)
                  have XW3 := Lib.hid (show Box W3 w3.heap.size y0 y1 true y3 by rw [hW3]; exact Box.new _ _ _ _ _)
                  replace XW2 := Lib.hid (XW2.out.keep bb_)
                  replace HBL := Lib.hid (HBL.out.trans (bb_.mono HBL.out.size))
                  have HW3 := Lib.hid hW3
                  clear b_ bb_ hW3
                  go_upto_region 19 with fail
                  rw [← HW3.out]
                  obtain ⟨p0, p1, p2, p3⟩ := XW2.out.cells
                  obtain ⟨q0, q1, q2, q3⟩ := XW3.out.cells
                  have e0 : (x0.toList == x0.toList) = true := by simp
                  go_wp2
                  go_roundw
                  case rel => exact ⟨m + 1, by have h9 := HM2.out; omega, by go_num, HBL.out⟩
                  case measure => have h9 := HM2.out; simp [intOf]; omega
              | false =>
                have HE2 := Lib.hid (HTK1.out.1 _ (some_of HX0.out HBS.out) rfl)
                go_wp2_with fail
                go_at_call 29
                refine Calls.mono (atI_is HXW.out HE2.out rfl rfl) ?_
                rintro e w3 ⟨rfl, b_⟩
                obtain ⟨W3, hW3⟩ : ∃ W, W = w3.alloc (.cells #[.string x0, .int .i64 x1, .bool false, .int .i64 x3] 33) := ⟨_, rfl⟩
                have bb_ : Below W2.heap.size W2 W3 := by rw [hW3]; exact b_.trans ((new_box w3 x0 x1 false x3).mono b_.size)
                have XW3 := Lib.hid (show Box W3 w3.heap.size x0 x1 false x3 by rw [hW3]; exact Box.new _ _ _ _ _)
                replace XW2 := Lib.hid (XW2.out.keep bb_)
                replace HBL := Lib.hid (HBL.out.trans (bb_.mono HBL.out.size))
                have HW3 := Lib.hid hW3
                clear b_ bb_ hW3
                go_upto_region 19 with fail
                rw [← HW3.out]
                obtain ⟨p0, p1, p2, p3⟩ := XW2.out.cells
                obtain ⟨q0, q1, q2, q3⟩ := XW3.out.cells
                have e0 : (x0.toList == x0.toList) = true := by simp
                go_wp2
                go_roundw
                case rel => exact ⟨m + 1, by have h9 := HM2.out; omega, by go_num, HBL.out⟩
                case measure => have h9 := HM2.out; simp [intOf]; omega
          · by_cases hme : m = times.length
            · have y1 : ¬ (m : Int) < (times.length : Int) := by omega
              have y2 : (m : Int) ≤ (times.length : Int) := by omega
              have HM2 := Lib.hid (show m ≤ times.length by omega)
              clear hme
              go_upto_region 17 with fail
              clear y1 y2
              have tk := HTK.out 999 (.inr rfl) s
              obtain ⟨kb, ko, hA, hkb, d0⟩ := (HK.out.below HBL.out (Nat.le_refl _)).cell k hlt
              subst hA
              rw [← HS.out] at d0
              obtain ⟨x0, x1, x2, x3, b, hx, hbs⟩ := at_letters (atO l s 999)
              have HFW := Lib.hid (HF.out.below HBL.out)
              have HXW := Lib.hid (HX.out.below HBL.out)
              have HX0 := Lib.hid hx
              have HBS := Lib.hid hbs
              have HTK1 := Lib.hid tk
              have hkbw : kb < wr.heap.size := Nat.lt_of_lt_of_le hkb HBL.out.size
              have HD0 := Lib.hid d0
              clear hx hbs tk
              go_wp2_with fail
              go_at_call 29
              refine Calls.mono (atI_is HFW.out rfl HX0.out HBS.out) ?_
              rintro e w2 ⟨rfl, b_⟩
              obtain ⟨W2, hW2⟩ : ∃ W, W = w2.alloc (.cells #[.string x0, .int .i64 x1, .bool x2, .int .i64 x3] 33) := ⟨_, rfl⟩
              have bb_ : Below wr.heap.size wr W2 := by rw [hW2]; exact b_.trans ((new_box w2 x0 x1 x2 x3).mono b_.size)
              have XW2 := Lib.hid (show Box W2 w2.heap.size x0 x1 x2 x3 by rw [hW2]; exact Box.new _ _ _ _ _)
              replace HXW := Lib.hid (HXW.out.below bb_)
              replace HBL := Lib.hid (HBL.out.trans (bb_.mono HBL.out.size))
              have d1 : W2.cell? ⟨kb, ko + k, none⟩ = some (.string s) := (bb_.cell (p := ⟨kb, ko + k, none⟩) hkbw).trans HD0.out
              have HW2 := Lib.hid hW2
              clear b_ bb_ hW2
              go_upto_region 18 with fail
              rw [← HW2.out]
              clear d0
              cases b with
              | false =>
                obtain ⟨y0, y1, y2, y3, d, hy, hds⟩ := at_letters (atO xs s 999)
                cases d with
                | false =>
                  have HY0 := Lib.hid hy
                  have HDS := Lib.hid hds
                  clear hy hds
                  go_wp2_with fail
                  go_at_call 29
                  refine Calls.mono (atI_is HXW.out rfl HY0.out HDS.out) ?_
                  rintro e w3 ⟨rfl, b_⟩
                  obtain ⟨W3, hW3⟩ : ∃ W, W = w3.alloc (.cells #[.string y0, .int .i64 y1, .bool y2, .int .i64 y3] 33) := ⟨_, rfl⟩
                  have bb_ : Below W2.heap.size W2 W3 := by rw [hW3]; exact b_.trans ((new_box w3 y0 y1 y2 y3).mono b_.size)
                  have XW3 := Lib.hid (show Box W3 w3.heap.size y0 y1 y2 y3 by rw [hW3]; exact Box.new _ _ _ _ _)
                  replace XW2 := Lib.hid (XW2.out.keep bb_)
                  replace HBL := Lib.hid (HBL.out.trans (bb_.mono HBL.out.size))
                  have HW3 := Lib.hid hW3
                  clear b_ bb_ hW3
                  go_upto_region 19 with fail
                  rw [← HW3.out]
                  obtain ⟨p0, p1, p2, p3⟩ := XW2.out.cells
                  obtain ⟨q0, q1, q2, q3⟩ := XW3.out.cells
                  have e0 : (x0.toList == x0.toList) = true := by simp
                  go_wp2
                  go_roundw
                  case rel => exact ⟨m + 1, by have h9 := HM2.out; omega, by go_num, HBL.out⟩
                  case measure => have h9 := HM2.out; simp [intOf]; omega
                | true =>
                  have hy2 : y2 = true := gone_of HTK1.out.2 hy hds (.inl (none_of HBS.out))
                  subst hy2
                  have HY0 := Lib.hid hy
                  have HDS := Lib.hid hds
                  clear hy hds
                  go_wp2_with fail
                  go_at_call 29
                  refine Calls.mono (atI_is HXW.out rfl HY0.out HDS.out) ?_
                  rintro e w3 ⟨rfl, b_⟩
                  obtain ⟨W3, hW3⟩ : ∃ W, W = w3.alloc (.cells #[.string y0, .int .i64 y1, .bool true, .int .i64 y3] 33) := ⟨_, rfl⟩
                  have bb_ : Below W2.heap.size W2 W3 := by rw [hW3]; exact b_.trans ((new_box w3 y0 y1 true y3).mono b_.size)
                  have XW3 := Lib.hid (show Box W3 w3.heap.size y0 y1 true y3 by rw [hW3]; exact Box.new _ _ _ _ _)
                  replace XW2 := Lib.hid (XW2.out.keep bb_)
                  replace HBL := Lib.hid (HBL.out.trans (bb_.mono HBL.out.size))
                  have HW3 := Lib.hid hW3
                  clear b_ bb_ hW3
                  go_upto_region 19 with fail
                  rw [← HW3.out]
                  obtain ⟨p0, p1, p2, p3⟩ := XW2.out.cells
                  obtain ⟨q0, q1, q2, q3⟩ := XW3.out.cells
                  have e0 : (x0.toList == x0.toList) = true := by simp
                  go_wp2
                  go_roundw
                  case rel => exact ⟨m + 1, by have h9 := HM2.out; omega, by go_num, HBL.out⟩
                  case measure => have h9 := HM2.out; simp [intOf]; omega
              | true =>
                cases x2 with
                | true =>
                  obtain ⟨y0, y1, y2, y3, d, hy, hds⟩ := at_letters (atO xs s 999)
                  cases d with
                  | false =>
                    have HY0 := Lib.hid hy
                    have HDS := Lib.hid hds
                    clear hy hds
                    go_wp2_with fail
                    go_at_call 29
                    refine Calls.mono (atI_is HXW.out rfl HY0.out HDS.out) ?_
                    rintro e w3 ⟨rfl, b_⟩
                    obtain ⟨W3, hW3⟩ : ∃ W, W = w3.alloc (.cells #[.string y0, .int .i64 y1, .bool y2, .int .i64 y3] 33) := ⟨_, rfl⟩
                    have bb_ : Below W2.heap.size W2 W3 := by rw [hW3]; exact b_.trans ((new_box w3 y0 y1 y2 y3).mono b_.size)
                    have XW3 := Lib.hid (show Box W3 w3.heap.size y0 y1 y2 y3 by rw [hW3]; exact Box.new _ _ _ _ _)
                    replace XW2 := Lib.hid (XW2.out.keep bb_)
                    replace HBL := Lib.hid (HBL.out.trans (bb_.mono HBL.out.size))
                    have HW3 := Lib.hid hW3
                    clear b_ bb_ hW3
                    go_upto_region 19 with fail
                    rw [← HW3.out]
                    obtain ⟨p0, p1, p2, p3⟩ := XW2.out.cells
                    obtain ⟨q0, q1, q2, q3⟩ := XW3.out.cells
                    have e0 : (x0.toList == x0.toList) = true := by simp
                    go_wp2
                    go_roundw
                    case rel => exact ⟨m + 1, by have h9 := HM2.out; omega, by go_num, HBL.out⟩
                    case measure => have h9 := HM2.out; simp [intOf]; omega
                  | true =>
                    have hy2 : y2 = true := gone_of HTK1.out.2 hy hds (.inr ⟨_, some_of HX0.out HBS.out, rfl⟩)
                    subst hy2
                    have HY0 := Lib.hid hy
                    have HDS := Lib.hid hds
                    clear hy hds
                    go_wp2_with fail
                    go_at_call 29
                    refine Calls.mono (atI_is HXW.out rfl HY0.out HDS.out) ?_
                    rintro e w3 ⟨rfl, b_⟩
                    obtain ⟨W3, hW3⟩ : ∃ W, W = w3.alloc (.cells #[.string y0, .int .i64 y1, .bool true, .int .i64 y3] 33) := ⟨_, rfl⟩
                    have bb_ : Below W2.heap.size W2 W3 := by rw [hW3]; exact b_.trans ((new_box w3 y0 y1 true y3).mono b_.size)
                    have XW3 := Lib.hid (show Box W3 w3.heap.size y0 y1 true y3 by rw [hW3]; exact Box.new _ _ _ _ _)
                    replace XW2 := Lib.hid (XW2.out.keep bb_)
                    replace HBL := Lib.hid (HBL.out.trans (bb_.mono HBL.out.size))
                    have HW3 := Lib.hid hW3
                    clear b_ bb_ hW3
                    go_upto_region 19 with fail
                    rw [← HW3.out]
                    obtain ⟨p0, p1, p2, p3⟩ := XW2.out.cells
                    obtain ⟨q0, q1, q2, q3⟩ := XW3.out.cells
                    have e0 : (x0.toList == x0.toList) = true := by simp
                    go_wp2
                    go_roundw
                    case rel => exact ⟨m + 1, by have h9 := HM2.out; omega, by go_num, HBL.out⟩
                    case measure => have h9 := HM2.out; simp [intOf]; omega
                | false =>
                  have HE2 := Lib.hid (HTK1.out.1 _ (some_of HX0.out HBS.out) rfl)
                  go_wp2_with fail
                  go_at_call 29
                  refine Calls.mono (atI_is HXW.out HE2.out rfl rfl) ?_
                  rintro e w3 ⟨rfl, b_⟩
                  obtain ⟨W3, hW3⟩ : ∃ W, W = w3.alloc (.cells #[.string x0, .int .i64 x1, .bool false, .int .i64 x3] 33) := ⟨_, rfl⟩
                  have bb_ : Below W2.heap.size W2 W3 := by rw [hW3]; exact b_.trans ((new_box w3 x0 x1 false x3).mono b_.size)
                  have XW3 := Lib.hid (show Box W3 w3.heap.size x0 x1 false x3 by rw [hW3]; exact Box.new _ _ _ _ _)
                  replace XW2 := Lib.hid (XW2.out.keep bb_)
                  replace HBL := Lib.hid (HBL.out.trans (bb_.mono HBL.out.size))
                  have HW3 := Lib.hid hW3
                  clear b_ bb_ hW3
                  go_upto_region 19 with fail
                  rw [← HW3.out]
                  obtain ⟨p0, p1, p2, p3⟩ := XW2.out.cells
                  obtain ⟨q0, q1, q2, q3⟩ := XW3.out.cells
                  have e0 : (x0.toList == x0.toList) = true := by simp
                  go_wp2
                  go_roundw
                  case rel => exact ⟨m + 1, by have h9 := HM2.out; omega, by go_num, HBL.out⟩
                  case measure => have h9 := HM2.out; simp [intOf]; omega
            · have hme2 : m = times.length + 1 := by omega
              have y2 : ¬ (m : Int) ≤ (times.length : Int) := by omega
              clear hme2
              go_wp2
              go_roundw
              case rel => exact ⟨k + 1, by omega, by go_num, HBL.out⟩
              case measure => simp [intOf]; omega
      · have hke : k = ks.length := by omega
        subst hke
        have b_ := HBO.out
        have HXO := Lib.hid (HX.out.below b_)
        replace HB := Lib.hid (HB.out.trans (b_.mono HB.out.size))
        clear b_ HBO
        go_wp2_with fail
        go_at_call 23
        refine Calls.mono (runX_few HXO.out HRX.out) ?_
        rintro e w9 ⟨rfl, b_⟩
        replace HB := Lib.hid (HB.out.trans (b_.mono HB.out.size))
        clear b_
        go_wp2
        go_ret
        exact ⟨rfl, HB.out⟩
  · rw [hrun] at HC
    go_wp2_with fail
    go_at_call 24
    refine Calls.mono (HC.out) ?_
    rintro e w5 ⟨rfl, b_⟩
    replace HF := Lib.hid (HF.out.below b_)
    replace HN := Lib.hid (HN.out.below b_)
    replace HX := Lib.hid (HX.out.below b_)
    replace HB := Lib.hid (HB.out.trans (b_.mono HB.out.size))
    clear b_
    clear HC hrun
    go_wp2_with fail
    go_at_call 34
    refine Calls.mono (trimS_few HF.out HN.out bot) ?_
    rintro e w6 ⟨A4, c4, rfl, hf_, b_⟩
    replace HF := Lib.hid (HF.out.below b_)
    replace HN := Lib.hid (HN.out.below b_)
    replace HX := Lib.hid (HX.out.below b_)
    replace HB := Lib.hid (HB.out.trans (b_.mono HB.out.size))
    have HM := Lib.hid hf_
    clear hf_ b_
    go_wp2_with fail
    go_at_call 26
    refine Calls.mono (same_few HX.out HM.out) ?_
    rintro e w7 ⟨rfl, b_⟩
    replace HF := Lib.hid (HF.out.below b_)
    replace HN := Lib.hid (HN.out.below b_)
    replace HX := Lib.hid (HX.out.below b_)
    replace HM := Lib.hid (HM.out.below b_)
    replace HB := Lib.hid (HB.out.trans (b_.mono HB.out.size))
    clear b_
    go_wp2
    go_ret
    exact ⟨rfl, HB.out⟩

end Go.Proofs.Ytjjalagmlbaafaa.W
