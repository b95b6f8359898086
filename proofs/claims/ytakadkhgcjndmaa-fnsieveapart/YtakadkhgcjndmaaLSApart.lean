/-
  A law of filters made of keys, as a walk over the contracts: no other key begins with what is kept of one.
-/
import Derived.Test.YtakadkhgcjndmaaY3
import Derived.Test.YtakadkhgcjndmaaDS6
import Derived.Test.YtakadkhgcjndmaaLE1
import Derived.Test.YtakadkhgcjndmaaLSMeetsHas
import Derived.Test.YtakadkhgcjndmaaLSB
import Derived.BigQuiet
import Derived.Deep.RegionHeld
namespace Go.Proofs.Ytakadkhgcjndmaa.W
open Go.RowKit K

set_option maxHeartbeats 8000000 in
set_option maxRecDepth 100000 in
theorem lawSieveApart (w : World) (A : Option Addr) (n c : Nat) (hb0 : Bytes w w.heap.size A n) (hnc : n ≤ c) (hc : c ≤ maxLen) :
    Calls Try.prog 5 #[.slice A n c] w fun e w' => e = .returned (.bool true) ∧ Below w.heap.size w w' := by
  by_cases hbig : (1048576 : Int) < (n : Int)
  · clear hb0
    go_enter Try.func5, Try.ntmps5
    go_wp2
    go_ret
    exact ⟨rfl, Below.refl _ _⟩
  · go_enter Try.func5, Try.ntmps5
    go_wp2_with fail
    go_at_call 28
    refine (drawOf w A n c hb0 hnc hc).mono ?_
    rintro e w1 ⟨A1, c1, l, keep, hl, hsh, hk1, hk2, rfl, ho1, hb1⟩
    have HF := Lib.hid hsh.fit
    have HB1 := Lib.hid hb1
    obtain ⟨hs1, hc1, hm1⟩ := ho1.strs
    have HS1 := Lib.hid hs1
    clear hb0 ho1 hb1 hs1 hsh
    obtain ⟨L, hL⟩ : ∃ x, x = svL l keep := ⟨_, rfl⟩
    obtain ⟨M_, hM⟩ : ∃ x, x = svM l keep := ⟨_, rfl⟩
    obtain ⟨F, hF⟩ : ∃ x, x = svF l keep := ⟨_, rfl⟩
    obtain ⟨R, hR⟩ : ∃ x, x = svR l keep := ⟨_, rfl⟩
    obtain ⟨K0, hK⟩ : ∃ x, x = svK l keep := ⟨_, rfl⟩
    obtain ⟨b, hb⟩ : ∃ x, x = svYes l keep := ⟨_, rfl⟩
    have HOS := Lib.hid (show ∀ (W : World) (A : Option Addr) (n c : Nat), Strs W W.heap.size A n l → n ≤ c → c ≤ maxLen → Calls Try.prog 29 #[.slice A n c, .int .i64 keep] W (OfF W L M_ F R K0 b) from fun W A n c h1 h2 h3 => (ofS W n c A l keep h1 h2 h3 HF.out).mono fun _ _ h => by rw [hL, hM, hF, hR, hK, hb]; exact of_fields h)
    have HOI := Lib.hid (show ∀ (W : World) (A : Option Addr) (n c : Nat), Strs W W.heap.size A n l → n ≤ c → c ≤ maxLen → Calls Try.prog 30 #[.slice A n c, .int .i64 keep] W (OfF W L M_ F R K0 b) from fun W A n c h1 h2 h3 => (ofI W n c A l keep h1 h2 h3 HF.out).mono fun _ _ h => by rw [hL, hM, hF, hR, hK, hb]; exact of_fields h)
    have HMD := Lib.hid (show b = true → ∃ kp : Nat, keep = kp ∧ Made L M_ F R K0 l kp from fun h => by
      rw [hb] at h
      rw [hL, hM, hF, hR, hK]
      obtain ⟨kp, e1, e2, e3⟩ := made_of h
      exact ⟨kp, e1, e3.keys, e3.le, e2, e3.eL, e3.eM, e3.eF, e3.eR⟩)
    have HSZ := Lib.hid (show (L.size ≤ 144 ∧ M_.size ≤ 144 ∧ F.size ≤ 144 ∧ (∀ s ∈ R, s.size ≤ 5) ∧ -1 ≤ K0 ∧ K0 ≤ 6) ∧ R.length ≤ 144 by rw [hL, hM, hF, hR, hK]; exact ⟨sv_small l keep, svR_len l keep⟩)
    clear hL hM hF hR hK hb
    go_wp2_with fail
    go_at_call 29
    refine Calls.mono (HOS.out _ A1 l.length c1 HS1.out hc1 hm1) ?_
    rintro e w2 ⟨A2, c2, rfl, ho2, hb2⟩
    have hsz2 := hb2.size
    have HB2 := Lib.hid (HB1.out.trans (hb2.mono HB1.out.size))
    have HS2 := Lib.hid ((HS1.out.below hb2 (Nat.le_refl _)).more hb2.size)
    have HR2 := Lib.hid ho2.strs.1
    clear ho2 hb2 HS1 HB1
    obtain ⟨W2, hW2⟩ : ∃ W2, W2 = w2.alloc (.cells #[.string L, .string M_, .string F, .slice A2 R.length c2, .int .i64 K0] 27) := ⟨_, rfl⟩
    have hbw2 : Below w2.heap.size w2 W2 := by rw [hW2]; exact (Below.refl _ _).alloc (Nat.le_refl _) _
    have HX2 := Lib.hid (show W2.heap[w2.heap.size]? = some (.cells #[.string L, .string M_, .string F, .slice A2 R.length c2, .int .i64 K0] 27 (0, 0)) by rw [hW2]; exact heap_alloc_new _ _)
    have hsW2 : W2.heap.size = w2.heap.size + 1 := by rw [hW2]; simp
    have HI := Lib.hid (HOI.out W2 A1 l.length c1 ((HS2.out.below hbw2 (Nat.le_refl _)).more hbw2.size) hc1 hm1)
    have HBW := Lib.hid (HB2.out.trans (hbw2.mono HB2.out.size))
    have HSW := Lib.hid ((HS2.out.below hbw2 (Nat.le_refl _)).more hbw2.size)
    have HRW := Lib.hid ((HR2.out.below hbw2 (Nat.le_refl _)).more hbw2.size)
    have HW2 := Lib.hid hW2
    rw [hW2] at HI
    clear hbw2 hW2 HS2 HR2 HB2
    go_wp2_with fail
    go_at_call 30
    refine HI.out.mono ?_
    rw [← HW2.out]
    rintro e w3 ⟨A3, c3, rfl, ho3, hb3⟩
    have hsz3 := hb3.size
    obtain ⟨W3, hW3⟩ : ∃ W3, W3 = w3.alloc (.cells #[.string L, .string M_, .string F, .slice A3 R.length c3, .int .i64 K0] 27) := ⟨_, rfl⟩
    have hbw3 : Below w3.heap.size w3 W3 := by rw [hW3]; exact (Below.refl _ _).alloc (Nat.le_refl _) _
    have hsW3 : W3.heap.size = w3.heap.size + 1 := by rw [hW3]; simp
    have hb23 : Below W2.heap.size W2 W3 := hb3.trans (hbw3.mono hsz3)
    have hx3 : W3.heap[w2.heap.size]? = some (.cells #[.string L, .string M_, .string F, .slice A2 R.length c2, .int .i64 K0] 27 (0, 0)) := by rw [hb23.block _ (by omega)]; exact HX2.out
    have hy3 : W3.heap[w3.heap.size]? = some (.cells #[.string L, .string M_, .string F, .slice A3 R.length c3, .int .i64 K0] 27 (0, 0)) := by rw [hW3]; exact heap_alloc_new _ _
    have HB3 := Lib.hid (HBW.out.trans (hb23.mono HBW.out.size))
    have HS3 := Lib.hid ((HSW.out.below hb23 (Nat.le_refl _)).more hb23.size)
    have HR3 := Lib.hid ((HRW.out.below hb23 (Nat.le_refl _)).more hb23.size)
    have hG := ho3.strs
    have HG3 := Lib.hid ((hG.1.below hbw3 (Nat.le_refl _)).more hbw3.size)
    have hc3 := hG.2.1
    have hm3 := hG.2.2
    have hRl : R.length ≤ 144 := HSZ.out.2
    have HFL := Lib.hid (show Flt W3 L M_ F A3 R.length c3 R from ⟨by have := HSZ.out.1.1; unfold maxLen; omega, by have := HSZ.out.1.2.1; unfold maxLen; omega, by have := HSZ.out.1.2.2.1; unfold maxLen; omega, HG3.out, hc3, hm3, fun i h => by have := HSZ.out.1.2.2.2.1 _ (List.getElem_mem h); omega⟩)
    have HLT := Lib.hid (show ∀ W, Below W3.heap.size W3 W → Calls Try.prog 31 #[.agg #[.string L, .string M_, .string F, .slice A3 R.length c3, .int .i64 K0], .agg #[.string L, .string M_, .string F, .slice A2 R.length c2, .int .i64 K0]] W fun e w' => e = .returned (.bool true) ∧ Below W3.heap.size W3 w' from fun W hW => by
      have h := ltSieveS L M_ F L M_ F A3 A2 R.length c3 R.length c2 R R K0 K0 W ((HG3.out.below hW (Nat.le_refl _)).more hW.size) ((HR3.out.below hW (Nat.le_refl _)).more hW.size) (by unfold maxLen; omega) (by unfold maxLen; omega)
      rw [sameSv_same] at h
      exact h.mono fun _ _ ⟨he, hb⟩ => ⟨he, hW.trans (hb.mono hW.size)⟩)
    have HX3 := Lib.hid hx3
    have HY3 := Lib.hid hy3
    have HW3 := Lib.hid hW3
    clear hx3 hy3 hb23 hbw3 ho3 hb3 hG hW3 HBW HSW HRW HX2
    have HBX := Lib.hid (show ∀ W, Below W3.heap.size W3 W → W.heap[w2.heap.size]? = some (.cells #[.string L, .string M_, .string F, .slice A2 R.length c2, .int .i64 K0] 27 (0, 0)) ∧ W.heap[w3.heap.size]? = some (.cells #[.string L, .string M_, .string F, .slice A3 R.length c3, .int .i64 K0] 27 (0, 0)) from fun W hW => ⟨by rw [hW.block _ (by omega)]; exact HX3.out, by rw [hW.block _ (by omega)]; exact HY3.out⟩)
    go_upto_region 6 with fail
    rw [← HW3.out]
    have p0 : W3.cell? ⟨w2.heap.size, 0, none⟩ = some (.string L) := by rw [cell_of_row _ _ _ _ _ _ HX3.out]; rfl
    have p1 : W3.cell? ⟨w2.heap.size, 1, none⟩ = some (.string M_) := by rw [cell_of_row _ _ _ _ _ _ HX3.out]; rfl
    have p2 : W3.cell? ⟨w2.heap.size, 2, none⟩ = some (.string F) := by rw [cell_of_row _ _ _ _ _ _ HX3.out]; rfl
    have p3 : W3.cell? ⟨w2.heap.size, 3, none⟩ = some (.slice A2 R.length c2) := by rw [cell_of_row _ _ _ _ _ _ HX3.out]; rfl
    have p4 : W3.cell? ⟨w2.heap.size, 4, none⟩ = some (.int .i64 K0) := by rw [cell_of_row _ _ _ _ _ _ HX3.out]; rfl
    have s0 : W3.cell? ⟨w3.heap.size, 0, none⟩ = some (.string L) := by rw [cell_of_row _ _ _ _ _ _ HY3.out]; rfl
    have s1 : W3.cell? ⟨w3.heap.size, 1, none⟩ = some (.string M_) := by rw [cell_of_row _ _ _ _ _ _ HY3.out]; rfl
    have s2 : W3.cell? ⟨w3.heap.size, 2, none⟩ = some (.string F) := by rw [cell_of_row _ _ _ _ _ _ HY3.out]; rfl
    have s3 : W3.cell? ⟨w3.heap.size, 3, none⟩ = some (.slice A3 R.length c3) := by rw [cell_of_row _ _ _ _ _ _ HY3.out]; rfl
    have s4 : W3.cell? ⟨w3.heap.size, 4, none⟩ = some (.int .i64 K0) := by rw [cell_of_row _ _ _ _ _ _ HY3.out]; rfl
    cases b with
    | false =>
      go_wp2_with (go_at_call 31; refine Calls.mono (HLT.out _ (by first | exact Below.refl _ _ | exact HB5.out)) ?_; rintro e w5 ⟨rfl, hb5⟩; have HB5 := Lib.hid hb5; have p50 : w5.cell? ⟨w2.heap.size, 0, none⟩ = some (.string L) := (by rw [cell_of_row _ _ _ _ _ _ (HBX.out w5 hb5).1]; rfl); have p51 : w5.cell? ⟨w2.heap.size, 1, none⟩ = some (.string M_) := (by rw [cell_of_row _ _ _ _ _ _ (HBX.out w5 hb5).1]; rfl); have p52 : w5.cell? ⟨w2.heap.size, 2, none⟩ = some (.string F) := (by rw [cell_of_row _ _ _ _ _ _ (HBX.out w5 hb5).1]; rfl); have p53 : w5.cell? ⟨w2.heap.size, 3, none⟩ = some (.slice A2 R.length c2) := (by rw [cell_of_row _ _ _ _ _ _ (HBX.out w5 hb5).1]; rfl); have p54 : w5.cell? ⟨w2.heap.size, 4, none⟩ = some (.int .i64 K0) := (by rw [cell_of_row _ _ _ _ _ _ (HBX.out w5 hb5).1]; rfl); have s50 : w5.cell? ⟨w3.heap.size, 0, none⟩ = some (.string L) := (by rw [cell_of_row _ _ _ _ _ _ (HBX.out w5 hb5).2]; rfl); have s51 : w5.cell? ⟨w3.heap.size, 1, none⟩ = some (.string M_) := (by rw [cell_of_row _ _ _ _ _ _ (HBX.out w5 hb5).2]; rfl); have s52 : w5.cell? ⟨w3.heap.size, 2, none⟩ = some (.string F) := (by rw [cell_of_row _ _ _ _ _ _ (HBX.out w5 hb5).2]; rfl); have s53 : w5.cell? ⟨w3.heap.size, 3, none⟩ = some (.slice A3 R.length c3) := (by rw [cell_of_row _ _ _ _ _ _ (HBX.out w5 hb5).2]; rfl); have s54 : w5.cell? ⟨w3.heap.size, 4, none⟩ = some (.int .i64 K0) := (by rw [cell_of_row _ _ _ _ _ _ (HBX.out w5 hb5).2]; rfl); clear hb5)
      go_ret
      exact ⟨rfl, HB3.out.trans (HB5.out.mono HB3.out.size)⟩
    | true =>
      obtain ⟨kp, hke, hmd⟩ := HMD.out rfl
      have hlen := hmd.hlen
      have HAP := Lib.hid (show ∀ (i k : Nat) (h1 : i < l.length) (h2 : k < l.length) (h3 : i < (hsOf L M_ F R kp).length), i ≠ k → eqs l[i] (hsOf L M_ F R kp)[i] = false → begB l[k] (hsOf L M_ F R kp)[i] = false from fun i k h1 h2 h3 h4 h5 => hmd.apart h1 h2 h3 h4 h5)
      have HSV := Lib.hid (show headsO L M_ F R K0 = hsOf L M_ F R kp by have h := hmd.sv; rw [hmd.k] at h ⊢; exact headsO_yes h)
      obtain ⟨hs, hhs⟩ : ∃ y, y = hsOf L M_ F R kp := ⟨_, rfl⟩
      rw [← hhs] at HAP HSV hlen
      have HHD := Lib.hid (show ∀ W, Below W3.heap.size W3 W → Calls Try.prog 34 #[.agg #[.string L, .string M_, .string F, .slice A3 R.length c3, .int .i64 K0]] W fun e w' => ∃ A c, e = .returned (.slice A l.length c) ∧ Strs w' w'.heap.size A l.length hs ∧ l.length ≤ c ∧ c ≤ maxLen ∧ Below W3.heap.size W3 w' from fun W hW => by
        have h := HFL.out.heads K0 W hW
        rw [HSV.out] at h
        refine h.mono fun e w' ⟨A, c, h1, h2, h3, h4, h5⟩ => ⟨A, c, ?_, ?_, ?_, h4, h5⟩
        · rw [← hlen]; exact h1
        · rw [← hlen]; exact h2
        · rw [← hlen]; exact h3)
      clear hke hmd hhs
      go_wp2_with (first | (go_at_call 31; refine Calls.mono (HLT.out _ (by first | exact Below.refl _ _ | exact HB5.out)) ?_; rintro e w5 ⟨rfl, hb5⟩; have HB5 := Lib.hid hb5; have p50 : w5.cell? ⟨w2.heap.size, 0, none⟩ = some (.string L) := (by rw [cell_of_row _ _ _ _ _ _ (HBX.out w5 hb5).1]; rfl); have p51 : w5.cell? ⟨w2.heap.size, 1, none⟩ = some (.string M_) := (by rw [cell_of_row _ _ _ _ _ _ (HBX.out w5 hb5).1]; rfl); have p52 : w5.cell? ⟨w2.heap.size, 2, none⟩ = some (.string F) := (by rw [cell_of_row _ _ _ _ _ _ (HBX.out w5 hb5).1]; rfl); have p53 : w5.cell? ⟨w2.heap.size, 3, none⟩ = some (.slice A2 R.length c2) := (by rw [cell_of_row _ _ _ _ _ _ (HBX.out w5 hb5).1]; rfl); have p54 : w5.cell? ⟨w2.heap.size, 4, none⟩ = some (.int .i64 K0) := (by rw [cell_of_row _ _ _ _ _ _ (HBX.out w5 hb5).1]; rfl); have s50 : w5.cell? ⟨w3.heap.size, 0, none⟩ = some (.string L) := (by rw [cell_of_row _ _ _ _ _ _ (HBX.out w5 hb5).2]; rfl); have s51 : w5.cell? ⟨w3.heap.size, 1, none⟩ = some (.string M_) := (by rw [cell_of_row _ _ _ _ _ _ (HBX.out w5 hb5).2]; rfl); have s52 : w5.cell? ⟨w3.heap.size, 2, none⟩ = some (.string F) := (by rw [cell_of_row _ _ _ _ _ _ (HBX.out w5 hb5).2]; rfl); have s53 : w5.cell? ⟨w3.heap.size, 3, none⟩ = some (.slice A3 R.length c3) := (by rw [cell_of_row _ _ _ _ _ _ (HBX.out w5 hb5).2]; rfl); have s54 : w5.cell? ⟨w3.heap.size, 4, none⟩ = some (.int .i64 K0) := (by rw [cell_of_row _ _ _ _ _ _ (HBX.out w5 hb5).2]; rfl); clear hb5) | (go_at_call 34; refine Calls.mono (HHD.out _ HB5.out) ?_; rintro e w5 ⟨A7, c7, rfl, hs7, hn7, hm7, hb5⟩; have HS7 := Lib.hid hs7; have HB5 := Lib.hid hb5; clear hb5 hs7))
      have HK5 := Lib.hid ((HS3.out.below HB5.out (Nat.le_refl _)).more HB5.out.size)
      go_loopw [10] (fun i wr => ∃ k : Nat, k ≤ l.length ∧ i = .int .i64 (k : Nat) ∧ Below w5.heap.size w5 wr) (fun i _ => l.length - (intOf i).toNat)
      case atStart => exact ⟨0, Nat.zero_le _, rfl, Below.refl _ _⟩
      case round =>
        obtain ⟨i, hi, rfl, hbl⟩ := hrel
        have HBI := Lib.hid hbl
        clear hbl
        by_cases hlti : i < l.length
        · obtain ⟨ib, io, hA, hib, hic⟩ := HK5.out.cell i hlti
          obtain ⟨gb, go_, hA2, hgb, hgc⟩ := HS7.out.cell i (by omega)
          have HIC := Lib.hid (show ∀ W, Below w5.heap.size w5 W → W.cell? ⟨ib, io + i, none⟩ = some (.string l[i]) ∧ W.cell? ⟨gb, go_ + i, none⟩ = some (.string hs[i]) from fun W hW => ⟨(hW.cell (p := ⟨ib, io + i, none⟩) hib).trans hic, (hW.cell (p := ⟨gb, go_ + i, none⟩) hgb).trans hgc⟩)
          have hih : i < hs.length := by omega
          have HAI := Lib.hid (fun k h2 => HAP.out i k hlti h2 hih)
          obtain ⟨ii, hii⟩ : ∃ x, x = l[i] := ⟨_, rfl⟩
          obtain ⟨gg, hgg⟩ : ∃ x, x = hs[i] := ⟨_, rfl⟩
          rw [← hii] at HIC HAI
          rw [← hgg] at HIC HAI
          clear hii hgg hic hgc
          have x0 : (0 : Int) ≤ (i : Int) := by omega
          have x1 : (i : Int) < (l.length : Int) := by omega
          subst hA hA2
          go_wp2_with fail
          go_loopw [11] (fun i wr => ∃ k : Nat, k ≤ l.length ∧ i = .int .i64 (k : Nat) ∧ Below w5.heap.size w5 wr) (fun i _ => l.length - (intOf i).toNat)
          case atStart => exact ⟨0, Nat.zero_le _, rfl, HBI.out⟩
          case round =>
            obtain ⟨k, hk, rfl, hbl⟩ := hrel
            have HBL := Lib.hid hbl
            clear hbl
            by_cases hlt : k < l.length
            · obtain ⟨kb, ko, hA3, hkb, hkc⟩ := HK5.out.cell k hlt
              injection hA3 with hA3
              injection hA3 with e1 e2
              subst e1 e2
              have kc : wr.cell? ⟨ib, io + k, none⟩ = some (.string l[k]) := (HBL.out.cell (p := ⟨ib, io + k, none⟩) hkb).trans hkc
              obtain ⟨ic, gc⟩ := HIC.out wr HBL.out
              have y0 : (0 : Int) ≤ (k : Int) := by omega
              have y1 : (k : Int) < (l.length : Int) := by omega
              by_cases hik : i = k
              · subst hik
                go_wp2_with fail
                go_quiet (fail)
                go_wp2
                go_roundw
                case rel => exact ⟨i + 1, by omega, by go_num, bel_to HBL.out (by rfl) (by rfl) (by rfl) (by rfl)⟩
                case measure => simp [intOf]; omega
              · have hne : ¬ ((i : Nat) : Int) = ((k : Nat) : Int) := by omega
                rcases Bool.eq_false_or_eq_true (ii.toList == gg.toList) with he | he
                · have heq : ii = gg := eqs_iff.mp he
                  clear he
                  subst heq
                  have e0 : (ii.toList == ii.toList) = true := by simp
                  have n1 : (((i : Nat) : Int) == ((k : Nat) : Int)) = false := by simpa using hne
                  have n2 : (((i : Nat) : Int) != ((k : Nat) : Int)) = true := by simpa using hne
                  have n3 : decide (((i : Nat) : Int) = ((k : Nat) : Int)) = false := by simpa using hne
                  have n4 : (i == k) = false := by simpa using hik
                  have n5 : (i != k) = true := by simpa using hik
                  have n6 : decide (i = k) = false := by simpa using hik
                  have HSS := Lib.hid HIC.out
                  clear ic gc kc hkc HIC HAI HAP
                  go_wp2_with fail
                  refine wp_region_held_drew (S := (fun W : World => W.cell? ⟨ib, io + i, none⟩ = some (.string ii) ∧ W.cell? ⟨gb, go_ + i, none⟩ = some (.string ii))) (by kernel_rfl) (HSS.out _ (by exact bel_to HBL.out (by rfl) (by rfl) (by rfl) (by rfl))) (fun hHeld => ?_)
                  refine wpAnyH_take (i := 0) (oi := { dst := Option.some 67, op := Go.Op.move (Go.Operand.tmp 10), type := 3, pos := "laws.go:271", after := #[], guard := Option.none }) (v := ?v1) rfl (by kernel_rfl) (by kernel_rfl) (by kernel_rfl) (fun _ _ _ h => h) (Or.inl ⟨by rfl, ?hy1⟩) (by assumption) ?rest1
                  case hy1 =>
                    intro w9 hSw
                    clear hSw
                    go_simp
                    first | done | with_reducible rfl
                  (try simp only [Act.put]); (try simp only [List.setIfInBounds_toArray]); (try simp only [List.set_cons_succ]); (try simp only [List.set_cons_zero])
                  refine wpAnyH_take (i := 1) (oi := { dst := Option.some 68, op := Go.Op.move (Go.Operand.tmp 11), type := 3, pos := "laws.go:271", after := #[], guard := Option.none }) (v := ?v2) rfl (by kernel_rfl) (by kernel_rfl) (by kernel_rfl) (fun _ _ _ h => h) (Or.inl ⟨by rfl, ?hy2⟩) (by assumption) ?rest2
                  case hy2 =>
                    intro w9 hSw
                    clear hSw
                    go_simp
                    first | done | with_reducible rfl
                  (try simp only [Act.put]); (try simp only [List.setIfInBounds_toArray]); (try simp only [List.set_cons_succ]); (try simp only [List.set_cons_zero])
                  refine wpAnyH_take (i := 2) (oi := { dst := Option.some 69, op := Go.Op.binOp Go.BinOp.neq 3 (Go.Operand.tmp 67) (Go.Operand.tmp 68) 3, type := 4, pos := "laws.go:271", after := #[{ on := 0, ground := Go.Ground.data }, { on := 1, ground := Go.Ground.data }], guard := Option.none }) (v := ?v3) rfl (by kernel_rfl) (by kernel_rfl) (by kernel_rfl) (fun _ _ _ h => h) (Or.inl ⟨by rfl, ?hy3⟩) (by assumption) ?rest3
                  case hy3 =>
                    intro w9 hSw
                    clear hSw
                    go_simp
                    first | done | with_reducible rfl
                  (try simp only [Act.put]); (try simp only [List.setIfInBounds_toArray]); (try simp only [List.set_cons_succ]); (try simp only [List.set_cons_zero])
                  refine wpAnyH_take (i := 3) (oi := { dst := Option.some 70, op := Go.Op.move (Go.Operand.tmp 69), type := 4, pos := "laws.go:271", after := #[{ on := 2, ground := Go.Ground.data }], guard := Option.none }) (v := ?v4) rfl (by kernel_rfl) (by kernel_rfl) (by kernel_rfl) (fun _ _ _ h => h) (Or.inl ⟨by rfl, ?hy4⟩) (by assumption) ?rest4
                  case hy4 =>
                    intro w9 hSw
                    clear hSw
                    go_simp
                    first | done | with_reducible rfl
                  (try simp only [Act.put]); (try simp only [List.setIfInBounds_toArray]); (try simp only [List.set_cons_succ]); (try simp only [List.set_cons_zero])
                  refine wpAnyH_take (i := 4) (oi := { dst := Option.some 71, op := Go.Op.move (Go.Operand.tmp 3), type := 23, pos := "laws.go:271", after := #[{ on := 3, ground := Go.Ground.guard }], guard := Option.some (3, Bool.true) }) (v := ?v5) rfl (by kernel_rfl) (by kernel_rfl) (by kernel_rfl) (fun _ _ _ h => h) (Or.inl ⟨by rfl, ?hy5⟩) (by assumption) ?rest5
                  case hy5 =>
                    intro w9 hSw
                    clear hSw
                    go_simp
                    first | done | with_reducible rfl
                  (try simp only [Act.put]); (try simp only [List.setIfInBounds_toArray]); (try simp only [List.set_cons_succ]); (try simp only [List.set_cons_zero])
                  refine wpAnyH_take (i := 5) (oi := { dst := Option.some 72, op := Go.Op.move (Go.Operand.tmp 10), type := 3, pos := "laws.go:271", after := #[{ on := 3, ground := Go.Ground.guard }], guard := Option.some (3, Bool.true) }) (v := ?v6) rfl (by kernel_rfl) (by kernel_rfl) (by kernel_rfl) (fun _ _ _ h => h) (Or.inl ⟨by rfl, ?hy6⟩) (by assumption) ?rest6
                  case hy6 =>
                    intro w9 hSw
                    clear hSw
                    go_simp
                    first | done | with_reducible rfl
                  (try simp only [Act.put]); (try simp only [List.setIfInBounds_toArray]); (try simp only [List.set_cons_succ]); (try simp only [List.set_cons_zero])
                  refine wpAnyH_take (i := 6) (oi := { dst := Option.some 73, op := Go.Op.indexAddr 23 (Go.Operand.tmp 71) (Go.Operand.tmp 72), type := 0, pos := "laws.go:271", after := #[{ on := 4, ground := Go.Ground.data }, { on := 5, ground := Go.Ground.data }, { on := 3, ground := Go.Ground.guard }], guard := Option.some (3, Bool.true) }) (v := ?v7) rfl (by kernel_rfl) (by kernel_rfl) (by kernel_rfl) (fun _ _ _ h => h) (Or.inl ⟨by rfl, ?hy7⟩) (by assumption) ?rest7
                  case hy7 =>
                    intro w9 hSw
                    clear hSw
                    go_simp
                    first | done | with_reducible rfl
                  (try simp only [Act.put]); (try simp only [List.setIfInBounds_toArray]); (try simp only [List.set_cons_succ]); (try simp only [List.set_cons_zero])
                  refine wpAnyH_take (i := 7) (oi := { dst := Option.some 74, op := Go.Op.load 9 (Go.Operand.tmp 73), type := 9, pos := "laws.go:271", after := #[{ on := 6, ground := Go.Ground.data }, { on := 3, ground := Go.Ground.guard }], guard := Option.some (3, Bool.true) }) (v := ?v8) rfl (by kernel_rfl) (by kernel_rfl) (by kernel_rfl) (fun _ _ _ h => h) (Or.inl ⟨by rfl, ?hy8⟩) (by assumption) ?rest8
                  case hy8 =>
                    intro w9 hSw
                    obtain ⟨f0, f1⟩ := hSw
                    go_simp
                    first | done | with_reducible rfl
                  (try simp only [Act.put]); (try simp only [List.setIfInBounds_toArray]); (try simp only [List.set_cons_succ]); (try simp only [List.set_cons_zero])
                  refine wpAnyH_take (i := 8) (oi := { dst := Option.some 75, op := Go.Op.move (Go.Operand.tmp 9), type := 23, pos := "laws.go:271", after := #[{ on := 3, ground := Go.Ground.guard }], guard := Option.some (3, Bool.true) }) (v := ?v9) rfl (by kernel_rfl) (by kernel_rfl) (by kernel_rfl) (fun _ _ _ h => h) (Or.inl ⟨by rfl, ?hy9⟩) (by assumption) ?rest9
                  case hy9 =>
                    intro w9 hSw
                    clear hSw
                    go_simp
                    first | done | with_reducible rfl
                  (try simp only [Act.put]); (try simp only [List.setIfInBounds_toArray]); (try simp only [List.set_cons_succ]); (try simp only [List.set_cons_zero])
                  refine wpAnyH_take (i := 9) (oi := { dst := Option.some 76, op := Go.Op.move (Go.Operand.tmp 10), type := 3, pos := "laws.go:271", after := #[{ on := 3, ground := Go.Ground.guard }], guard := Option.some (3, Bool.true) }) (v := ?v10) rfl (by kernel_rfl) (by kernel_rfl) (by kernel_rfl) (fun _ _ _ h => h) (Or.inl ⟨by rfl, ?hy10⟩) (by assumption) ?rest10
                  case hy10 =>
                    intro w9 hSw
                    clear hSw
                    go_simp
                    first | done | with_reducible rfl
                  (try simp only [Act.put]); (try simp only [List.setIfInBounds_toArray]); (try simp only [List.set_cons_succ]); (try simp only [List.set_cons_zero])
                  refine wpAnyH_take (i := 10) (oi := { dst := Option.some 77, op := Go.Op.indexAddr 23 (Go.Operand.tmp 75) (Go.Operand.tmp 76), type := 0, pos := "laws.go:271", after := #[{ on := 8, ground := Go.Ground.data }, { on := 9, ground := Go.Ground.data }, { on := 3, ground := Go.Ground.guard }], guard := Option.some (3, Bool.true) }) (v := ?v11) rfl (by kernel_rfl) (by kernel_rfl) (by kernel_rfl) (fun _ _ _ h => h) (Or.inl ⟨by rfl, ?hy11⟩) (by assumption) ?rest11
                  case hy11 =>
                    intro w9 hSw
                    clear hSw
                    go_simp
                    first | done | with_reducible rfl
                  (try simp only [Act.put]); (try simp only [List.setIfInBounds_toArray]); (try simp only [List.set_cons_succ]); (try simp only [List.set_cons_zero])
                  refine wpAnyH_take (i := 11) (oi := { dst := Option.some 78, op := Go.Op.load 9 (Go.Operand.tmp 77), type := 9, pos := "laws.go:271", after := #[{ on := 10, ground := Go.Ground.data }, { on := 3, ground := Go.Ground.guard }], guard := Option.some (3, Bool.true) }) (v := ?v12) rfl (by kernel_rfl) (by kernel_rfl) (by kernel_rfl) (fun _ _ _ h => h) (Or.inl ⟨by rfl, ?hy12⟩) (by assumption) ?rest12
                  case hy12 =>
                    intro w9 hSw
                    obtain ⟨f0, f1⟩ := hSw
                    go_simp
                    first | done | with_reducible rfl
                  (try simp only [Act.put]); (try simp only [List.setIfInBounds_toArray]); (try simp only [List.set_cons_succ]); (try simp only [List.set_cons_zero])
                  refine wpAnyH_take (i := 12) (oi := { dst := Option.some 79, op := Go.Op.binOp Go.BinOp.neq 9 (Go.Operand.tmp 74) (Go.Operand.tmp 78) 9, type := 4, pos := "laws.go:271", after := #[{ on := 7, ground := Go.Ground.data }, { on := 11, ground := Go.Ground.data }, { on := 3, ground := Go.Ground.guard }], guard := Option.some (3, Bool.true) }) (v := ?v13) rfl (by kernel_rfl) (by kernel_rfl) (by kernel_rfl) (fun _ _ _ h => h) (Or.inl ⟨by rfl, ?hy13⟩) (by assumption) ?rest13
                  case hy13 =>
                    intro w9 hSw
                    clear hSw
                    go_simp
                    first | done | with_reducible rfl
                  (try simp only [Act.put]); (try simp only [List.setIfInBounds_toArray]); (try simp only [List.set_cons_succ]); (try simp only [List.set_cons_zero])
                  refine wpAnyH_take (i := 13) (oi := { dst := Option.some 80, op := Go.Op.pick (Go.Operand.tmp 70) (Go.Operand.tmp 79) (Go.Operand.const (Go.Value.bool Bool.false)), type := 4, pos := "laws.go:271", after := #[{ on := 3, ground := Go.Ground.data }, { on := 12, ground := Go.Ground.data }], guard := Option.none }) (v := ?v14) rfl (by kernel_rfl) (by kernel_rfl) (by kernel_rfl) (fun _ _ _ h => h) (Or.inl ⟨by rfl, ?hy14⟩) (by assumption) ?rest14
                  case hy14 =>
                    intro w9 hSw
                    clear hSw
                    go_simp
                    first | done | with_reducible rfl
                  (try simp only [Act.put]); (try simp only [List.setIfInBounds_toArray]); (try simp only [List.set_cons_succ]); (try simp only [List.set_cons_zero])
                  refine wpAnyH_take (i := 14) (oi := { dst := Option.some 81, op := Go.Op.move (Go.Operand.tmp 80), type := 4, pos := "laws.go:271", after := #[{ on := 13, ground := Go.Ground.data }, { on := 3, ground := Go.Ground.chain }], guard := Option.none }) (v := ?v15) rfl (by kernel_rfl) (by kernel_rfl) (by kernel_rfl) (fun _ _ _ h => h) (Or.inl ⟨by rfl, ?hy15⟩) (by assumption) ?rest15
                  case hy15 =>
                    intro w9 hSw
                    clear hSw
                    go_simp
                    first | done | with_reducible rfl
                  (try simp only [Act.put]); (try simp only [List.setIfInBounds_toArray]); (try simp only [List.set_cons_succ]); (try simp only [List.set_cons_zero])
                  refine wpAnyH_take (i := 15) (oi := { dst := Option.some 82, op := Go.Op.move (Go.Operand.tmp 3), type := 23, pos := "laws.go:271", after := #[{ on := 14, ground := Go.Ground.guard }], guard := Option.some (14, Bool.true) }) (v := undef) rfl (by kernel_rfl) (by kernel_rfl) (by kernel_rfl) (fun _ _ _ h => h) (Or.inr ⟨by rfl, rfl⟩) (by assumption) ?_
                  (try simp only [Act.put]); (try simp only [List.setIfInBounds_toArray]); (try simp only [List.set_cons_succ]); (try simp only [List.set_cons_zero])
                  refine wpAnyH_take (i := 16) (oi := { dst := Option.some 83, op := Go.Op.move (Go.Operand.tmp 11), type := 3, pos := "laws.go:271", after := #[{ on := 14, ground := Go.Ground.guard }], guard := Option.some (14, Bool.true) }) (v := undef) rfl (by kernel_rfl) (by kernel_rfl) (by kernel_rfl) (fun _ _ _ h => h) (Or.inr ⟨by rfl, rfl⟩) (by assumption) ?_
                  (try simp only [Act.put]); (try simp only [List.setIfInBounds_toArray]); (try simp only [List.set_cons_succ]); (try simp only [List.set_cons_zero])
                  refine wpAnyH_take (i := 17) (oi := { dst := Option.some 84, op := Go.Op.indexAddr 23 (Go.Operand.tmp 82) (Go.Operand.tmp 83), type := 0, pos := "laws.go:271", after := #[{ on := 15, ground := Go.Ground.data }, { on := 16, ground := Go.Ground.data }, { on := 14, ground := Go.Ground.guard }], guard := Option.some (14, Bool.true) }) (v := undef) rfl (by kernel_rfl) (by kernel_rfl) (by kernel_rfl) (fun _ _ _ h => h) (Or.inr ⟨by rfl, rfl⟩) (by assumption) ?_
                  (try simp only [Act.put]); (try simp only [List.setIfInBounds_toArray]); (try simp only [List.set_cons_succ]); (try simp only [List.set_cons_zero])
                  refine wpAnyH_take (i := 18) (oi := { dst := Option.some 85, op := Go.Op.load 9 (Go.Operand.tmp 84), type := 9, pos := "laws.go:271", after := #[{ on := 17, ground := Go.Ground.data }, { on := 14, ground := Go.Ground.guard }], guard := Option.some (14, Bool.true) }) (v := undef) rfl (by kernel_rfl) (by kernel_rfl) (by kernel_rfl) (fun _ _ _ h => h) (Or.inr ⟨by rfl, rfl⟩) (by assumption) ?_
                  (try simp only [Act.put]); (try simp only [List.setIfInBounds_toArray]); (try simp only [List.set_cons_succ]); (try simp only [List.set_cons_zero])
                  refine wpAnyH_take (i := 19) (oi := { dst := Option.some 86, op := Go.Op.move (Go.Operand.tmp 9), type := 23, pos := "laws.go:271", after := #[{ on := 14, ground := Go.Ground.guard }], guard := Option.some (14, Bool.true) }) (v := undef) rfl (by kernel_rfl) (by kernel_rfl) (by kernel_rfl) (fun _ _ _ h => h) (Or.inr ⟨by rfl, rfl⟩) (by assumption) ?_
                  (try simp only [Act.put]); (try simp only [List.setIfInBounds_toArray]); (try simp only [List.set_cons_succ]); (try simp only [List.set_cons_zero])
                  refine wpAnyH_take (i := 20) (oi := { dst := Option.some 87, op := Go.Op.move (Go.Operand.tmp 10), type := 3, pos := "laws.go:271", after := #[{ on := 14, ground := Go.Ground.guard }], guard := Option.some (14, Bool.true) }) (v := undef) rfl (by kernel_rfl) (by kernel_rfl) (by kernel_rfl) (fun _ _ _ h => h) (Or.inr ⟨by rfl, rfl⟩) (by assumption) ?_
                  (try simp only [Act.put]); (try simp only [List.setIfInBounds_toArray]); (try simp only [List.set_cons_succ]); (try simp only [List.set_cons_zero])
                  refine wpAnyH_take (i := 21) (oi := { dst := Option.some 88, op := Go.Op.indexAddr 23 (Go.Operand.tmp 86) (Go.Operand.tmp 87), type := 0, pos := "laws.go:271", after := #[{ on := 19, ground := Go.Ground.data }, { on := 20, ground := Go.Ground.data }, { on := 14, ground := Go.Ground.guard }], guard := Option.some (14, Bool.true) }) (v := undef) rfl (by kernel_rfl) (by kernel_rfl) (by kernel_rfl) (fun _ _ _ h => h) (Or.inr ⟨by rfl, rfl⟩) (by assumption) ?_
                  (try simp only [Act.put]); (try simp only [List.setIfInBounds_toArray]); (try simp only [List.set_cons_succ]); (try simp only [List.set_cons_zero])
                  refine wpAnyH_take (i := 22) (oi := { dst := Option.some 89, op := Go.Op.load 9 (Go.Operand.tmp 88), type := 9, pos := "laws.go:271", after := #[{ on := 21, ground := Go.Ground.data }, { on := 14, ground := Go.Ground.guard }], guard := Option.some (14, Bool.true) }) (v := undef) rfl (by kernel_rfl) (by kernel_rfl) (by kernel_rfl) (fun _ _ _ h => h) (Or.inr ⟨by rfl, rfl⟩) (by assumption) ?_
                  (try simp only [Act.put]); (try simp only [List.setIfInBounds_toArray]); (try simp only [List.set_cons_succ]); (try simp only [List.set_cons_zero])
                  refine wpAnyH_take (i := 23) (oi := { dst := Option.some 90, op := Go.Op.call { callee := Go.Callee.value (Go.Operand.func 35), args := #[Go.Operand.tmp 85, Go.Operand.tmp 89], argTypes := #[9, 9] }, type := 4, pos := "laws.go:271", after := #[{ on := 18, ground := Go.Ground.data }, { on := 22, ground := Go.Ground.data }, { on := 14, ground := Go.Ground.chain }, { on := 14, ground := Go.Ground.guard }], guard := Option.some (14, Bool.true) }) (v := undef) rfl (by kernel_rfl) (by kernel_rfl) (by kernel_rfl) (fun _ _ _ h => h) (Or.inr ⟨by rfl, rfl⟩) (by assumption) ?_
                  (try simp only [Act.put]); (try simp only [List.setIfInBounds_toArray]); (try simp only [List.set_cons_succ]); (try simp only [List.set_cons_zero])
                  refine wpAnyH_take (i := 24) (oi := { dst := Option.some 91, op := Go.Op.pick (Go.Operand.tmp 81) (Go.Operand.tmp 90) (Go.Operand.const (Go.Value.bool Bool.false)), type := 4, pos := "laws.go:271", after := #[{ on := 14, ground := Go.Ground.data }, { on := 23, ground := Go.Ground.data }], guard := Option.none }) (v := ?v16) rfl (by kernel_rfl) (by kernel_rfl) (by kernel_rfl) (fun _ _ _ h => h) (Or.inl ⟨by rfl, ?hy16⟩) (by assumption) ?rest16
                  case hy16 =>
                    intro w9 hSw
                    clear hSw
                    go_simp
                    first | done | with_reducible rfl
                  (try simp only [Act.put]); (try simp only [List.setIfInBounds_toArray]); (try simp only [List.set_cons_succ]); (try simp only [List.set_cons_zero])
                  refine wpAnyH_done (by kernel_rfl) ?_ _
                  go_wp2
                  go_roundw
                  case rel => exact ⟨k + 1, by omega, by go_num, bel_to HBL.out (by rfl) (by rfl) (by rfl) (by rfl)⟩
                  case measure => simp [intOf]; omega
                · have HBK := Lib.hid (show ∀ W, Calls Try.prog 35 #[.string l[k], .string gg] W fun e w' => e = .returned (.bool false) ∧ W = w' from fun W => by have h := begI l[k] gg W; rw [HAI.out k hlt hik he] at h; exact h)
                  obtain ⟨kk, hkk⟩ : ∃ x, x = l[k] := ⟨_, rfl⟩
                  rw [← hkk] at kc HBK
                  clear hkk hkc
                  go_wp2_with fail
                  go_quiet ((go_at_call 35; exact quiet_mine (HBK.out _)))
                  go_wp2
                  go_roundw
                  case rel => exact ⟨k + 1, by omega, by go_num, bel_to HBL.out (by rfl) (by rfl) (by rfl) (by rfl)⟩
                  case measure => simp [intOf]; omega
            · have hke : k = l.length := by omega
              subst hke
              go_wp2
              go_roundw
              case rel => exact ⟨i + 1, by omega, by go_num, HBL.out⟩
              case measure => simp [intOf]; omega
        · have hke : i = l.length := by omega
          subst hke
          go_wp2
          go_ret
          exact ⟨rfl, HB3.out.trans ((HB5.out.trans (HBI.out.mono HB5.out.size)).mono HB3.out.size)⟩

end Go.Proofs.Ytakadkhgcjndmaa.W
