/-
  A law of filters made of keys, as a walk over the contracts: what is kept is beginnings, in order.
-/
import Derived.Test.YtakadkhgcjndmaaY3
import Derived.Test.YtakadkhgcjndmaaDS6
import Derived.Test.YtakadkhgcjndmaaLE1
import Derived.Test.YtakadkhgcjndmaaLSMeetsHas
import Derived.Test.YtakadkhgcjndmaaLSB
import Derived.BigQuiet
namespace Go.Proofs.Ytakadkhgcjndmaa.W
open Go.RowKit K

set_option maxHeartbeats 8000000 in
set_option maxRecDepth 100000 in
theorem lawSieveHeads (w : World) (A : Option Addr) (n c : Nat) (hb0 : Bytes w w.heap.size A n) (hnc : n ≤ c) (hc : c ≤ maxLen) :
    Calls Try.prog 4 #[.slice A n c] w fun e w' => e = .returned (.bool true) ∧ Below w.heap.size w w' := by
  by_cases hbig : (1048576 : Int) < (n : Int)
  · clear hb0
    go_enter Try.func4, Try.ntmps4
    go_wp2
    go_ret
    exact ⟨rfl, Below.refl _ _⟩
  · go_enter Try.func4, Try.ntmps4
    go_wp2_with fail
    go_at_call 28
    refine (drawOf w A n c hb0 hnc hc).mono ?_
    rintro e w1 ⟨A1, c1, l, keep, hl, hsh, hk1, hk2, rfl, ho1, hb1⟩
    have HF := Lib.hid hsh.fit
    have HB1 := Lib.hid hb1
    obtain ⟨hs1, hc1, hm1⟩ := ho1.strs
    have HS1 := Lib.hid hs1
    clear hb0 ho1 hb1 hs1 hsh
    obtain ⟨L, hL⟩ : ∃ x, x = svL l keep := ⟨_, rfl⟩
    obtain ⟨M_, hM⟩ : ∃ x, x = svM l keep := ⟨_, rfl⟩
    obtain ⟨F, hF⟩ : ∃ x, x = svF l keep := ⟨_, rfl⟩
    obtain ⟨R, hR⟩ : ∃ x, x = svR l keep := ⟨_, rfl⟩
    obtain ⟨K0, hK⟩ : ∃ x, x = svK l keep := ⟨_, rfl⟩
    obtain ⟨b, hb⟩ : ∃ x, x = svYes l keep := ⟨_, rfl⟩
    have HOS := Lib.hid (show ∀ (W : World) (A : Option Addr) (n c : Nat), Strs W W.heap.size A n l → n ≤ c → c ≤ maxLen → Calls Try.prog 29 #[.slice A n c, .int .i64 keep] W (OfF W L M_ F R K0 b) from fun W A n c h1 h2 h3 => (ofS W n c A l keep h1 h2 h3 HF.out).mono fun _ _ h => by rw [hL, hM, hF, hR, hK, hb]; exact of_fields h)
    have HOI := Lib.hid (show ∀ (W : World) (A : Option Addr) (n c : Nat), Strs W W.heap.size A n l → n ≤ c → c ≤ maxLen → Calls Try.prog 30 #[.slice A n c, .int .i64 keep] W (OfF W L M_ F R K0 b) from fun W A n c h1 h2 h3 => (ofI W n c A l keep h1 h2 h3 HF.out).mono fun _ _ h => by rw [hL, hM, hF, hR, hK, hb]; exact of_fields h)
    have HMD := Lib.hid (show b = true → ∃ kp : Nat, keep = kp ∧ Made L M_ F R K0 l kp from fun h => by
      rw [hb] at h
      rw [hL, hM, hF, hR, hK]
      obtain ⟨kp, e1, e2, e3⟩ := made_of h
      exact ⟨kp, e1, e3.keys, e3.le, e2, e3.eL, e3.eM, e3.eF, e3.eR⟩)
    have HSZ := Lib.hid (show (L.size ≤ 144 ∧ M_.size ≤ 144 ∧ F.size ≤ 144 ∧ (∀ s ∈ R, s.size ≤ 5) ∧ -1 ≤ K0 ∧ K0 ≤ 6) ∧ R.length ≤ 144 by rw [hL, hM, hF, hR, hK]; exact ⟨sv_small l keep, svR_len l keep⟩)
    clear hL hM hF hR hK hb
    go_wp2_with fail
    go_at_call 29
    refine Calls.mono (HOS.out _ A1 l.length c1 HS1.out hc1 hm1) ?_
    rintro e w2 ⟨A2, c2, rfl, ho2, hb2⟩
    have hsz2 := hb2.size
    have HB2 := Lib.hid (HB1.out.trans (hb2.mono HB1.out.size))
    have HS2 := Lib.hid ((HS1.out.below hb2 (Nat.le_refl _)).more hb2.size)
    have HR2 := Lib.hid ho2.strs.1
    clear ho2 hb2 HS1 HB1
    obtain ⟨W2, hW2⟩ : ∃ W2, W2 = w2.alloc (.cells #[.string L, .string M_, .string F, .slice A2 R.length c2, .int .i64 K0] 27) := ⟨_, rfl⟩
    have hbw2 : Below w2.heap.size w2 W2 := by rw [hW2]; exact (Below.refl _ _).alloc (Nat.le_refl _) _
    have HX2 := Lib.hid (show W2.heap[w2.heap.size]? = some (.cells #[.string L, .string M_, .string F, .slice A2 R.length c2, .int .i64 K0] 27 (0, 0)) by rw [hW2]; exact heap_alloc_new _ _)
    have hsW2 : W2.heap.size = w2.heap.size + 1 := by rw [hW2]; simp
    have HI := Lib.hid (HOI.out W2 A1 l.length c1 ((HS2.out.below hbw2 (Nat.le_refl _)).more hbw2.size) hc1 hm1)
    have HBW := Lib.hid (HB2.out.trans (hbw2.mono HB2.out.size))
    have HSW := Lib.hid ((HS2.out.below hbw2 (Nat.le_refl _)).more hbw2.size)
    have HRW := Lib.hid ((HR2.out.below hbw2 (Nat.le_refl _)).more hbw2.size)
    have HW2 := Lib.hid hW2
    rw [hW2] at HI
    clear hbw2 hW2 HS2 HR2 HB2
    go_wp2_with fail
    go_at_call 30
    refine HI.out.mono ?_
    rw [← HW2.out]
    rintro e w3 ⟨A3, c3, rfl, ho3, hb3⟩
    have hsz3 := hb3.size
    obtain ⟨W3, hW3⟩ : ∃ W3, W3 = w3.alloc (.cells #[.string L, .string M_, .string F, .slice A3 R.length c3, .int .i64 K0] 27) := ⟨_, rfl⟩
    have hbw3 : Below w3.heap.size w3 W3 := by rw [hW3]; exact (Below.refl _ _).alloc (Nat.le_refl _) _
    have hsW3 : W3.heap.size = w3.heap.size + 1 := by rw [hW3]; simp
    have hb23 : Below W2.heap.size W2 W3 := hb3.trans (hbw3.mono hsz3)
    have hx3 : W3.heap[w2.heap.size]? = some (.cells #[.string L, .string M_, .string F, .slice A2 R.length c2, .int .i64 K0] 27 (0, 0)) := by rw [hb23.block _ (by omega)]; exact HX2.out
    have hy3 : W3.heap[w3.heap.size]? = some (.cells #[.string L, .string M_, .string F, .slice A3 R.length c3, .int .i64 K0] 27 (0, 0)) := by rw [hW3]; exact heap_alloc_new _ _
    have HB3 := Lib.hid (HBW.out.trans (hb23.mono HBW.out.size))
    have HS3 := Lib.hid ((HSW.out.below hb23 (Nat.le_refl _)).more hb23.size)
    have HR3 := Lib.hid ((HRW.out.below hb23 (Nat.le_refl _)).more hb23.size)
    have hG := ho3.strs
    have HG3 := Lib.hid ((hG.1.below hbw3 (Nat.le_refl _)).more hbw3.size)
    have hc3 := hG.2.1
    have hm3 := hG.2.2
    have hRl : R.length ≤ 144 := HSZ.out.2
    have HFL := Lib.hid (show Flt W3 L M_ F A3 R.length c3 R from ⟨by have := HSZ.out.1.1; unfold maxLen; omega, by have := HSZ.out.1.2.1; unfold maxLen; omega, by have := HSZ.out.1.2.2.1; unfold maxLen; omega, HG3.out, hc3, hm3, fun i h => by have := HSZ.out.1.2.2.2.1 _ (List.getElem_mem h); omega⟩)
    have HLT := Lib.hid (show ∀ W, Below W3.heap.size W3 W → Calls Try.prog 31 #[.agg #[.string L, .string M_, .string F, .slice A3 R.length c3, .int .i64 K0], .agg #[.string L, .string M_, .string F, .slice A2 R.length c2, .int .i64 K0]] W fun e w' => e = .returned (.bool true) ∧ Below W3.heap.size W3 w' from fun W hW => by
      have h := ltSieveS L M_ F L M_ F A3 A2 R.length c3 R.length c2 R R K0 K0 W ((HG3.out.below hW (Nat.le_refl _)).more hW.size) ((HR3.out.below hW (Nat.le_refl _)).more hW.size) (by unfold maxLen; omega) (by unfold maxLen; omega)
      rw [sameSv_same] at h
      exact h.mono fun _ _ ⟨he, hb⟩ => ⟨he, hW.trans (hb.mono hW.size)⟩)
    have HX3 := Lib.hid hx3
    have HY3 := Lib.hid hy3
    have HW3 := Lib.hid hW3
    clear hx3 hy3 hb23 hbw3 ho3 hb3 hG hW3 HBW HSW HRW HX2
    have HBX := Lib.hid (show ∀ W, Below W3.heap.size W3 W → W.heap[w2.heap.size]? = some (.cells #[.string L, .string M_, .string F, .slice A2 R.length c2, .int .i64 K0] 27 (0, 0)) ∧ W.heap[w3.heap.size]? = some (.cells #[.string L, .string M_, .string F, .slice A3 R.length c3, .int .i64 K0] 27 (0, 0)) from fun W hW => ⟨by rw [hW.block _ (by omega)]; exact HX3.out, by rw [hW.block _ (by omega)]; exact HY3.out⟩)
    go_upto_region 6 with fail
    rw [← HW3.out]
    have p0 : W3.cell? ⟨w2.heap.size, 0, none⟩ = some (.string L) := by rw [cell_of_row _ _ _ _ _ _ HX3.out]; rfl
    have p1 : W3.cell? ⟨w2.heap.size, 1, none⟩ = some (.string M_) := by rw [cell_of_row _ _ _ _ _ _ HX3.out]; rfl
    have p2 : W3.cell? ⟨w2.heap.size, 2, none⟩ = some (.string F) := by rw [cell_of_row _ _ _ _ _ _ HX3.out]; rfl
    have p3 : W3.cell? ⟨w2.heap.size, 3, none⟩ = some (.slice A2 R.length c2) := by rw [cell_of_row _ _ _ _ _ _ HX3.out]; rfl
    have p4 : W3.cell? ⟨w2.heap.size, 4, none⟩ = some (.int .i64 K0) := by rw [cell_of_row _ _ _ _ _ _ HX3.out]; rfl
    have s0 : W3.cell? ⟨w3.heap.size, 0, none⟩ = some (.string L) := by rw [cell_of_row _ _ _ _ _ _ HY3.out]; rfl
    have s1 : W3.cell? ⟨w3.heap.size, 1, none⟩ = some (.string M_) := by rw [cell_of_row _ _ _ _ _ _ HY3.out]; rfl
    have s2 : W3.cell? ⟨w3.heap.size, 2, none⟩ = some (.string F) := by rw [cell_of_row _ _ _ _ _ _ HY3.out]; rfl
    have s3 : W3.cell? ⟨w3.heap.size, 3, none⟩ = some (.slice A3 R.length c3) := by rw [cell_of_row _ _ _ _ _ _ HY3.out]; rfl
    have s4 : W3.cell? ⟨w3.heap.size, 4, none⟩ = some (.int .i64 K0) := by rw [cell_of_row _ _ _ _ _ _ HY3.out]; rfl
    cases b with
    | false =>
      go_wp2_with (go_at_call 31; refine Calls.mono (HLT.out _ (by first | exact Below.refl _ _ | exact HB5.out)) ?_; rintro e w5 ⟨rfl, hb5⟩; have HB5 := Lib.hid hb5; have p50 : w5.cell? ⟨w2.heap.size, 0, none⟩ = some (.string L) := (by rw [cell_of_row _ _ _ _ _ _ (HBX.out w5 hb5).1]; rfl); have p51 : w5.cell? ⟨w2.heap.size, 1, none⟩ = some (.string M_) := (by rw [cell_of_row _ _ _ _ _ _ (HBX.out w5 hb5).1]; rfl); have p52 : w5.cell? ⟨w2.heap.size, 2, none⟩ = some (.string F) := (by rw [cell_of_row _ _ _ _ _ _ (HBX.out w5 hb5).1]; rfl); have p53 : w5.cell? ⟨w2.heap.size, 3, none⟩ = some (.slice A2 R.length c2) := (by rw [cell_of_row _ _ _ _ _ _ (HBX.out w5 hb5).1]; rfl); have p54 : w5.cell? ⟨w2.heap.size, 4, none⟩ = some (.int .i64 K0) := (by rw [cell_of_row _ _ _ _ _ _ (HBX.out w5 hb5).1]; rfl); have s50 : w5.cell? ⟨w3.heap.size, 0, none⟩ = some (.string L) := (by rw [cell_of_row _ _ _ _ _ _ (HBX.out w5 hb5).2]; rfl); have s51 : w5.cell? ⟨w3.heap.size, 1, none⟩ = some (.string M_) := (by rw [cell_of_row _ _ _ _ _ _ (HBX.out w5 hb5).2]; rfl); have s52 : w5.cell? ⟨w3.heap.size, 2, none⟩ = some (.string F) := (by rw [cell_of_row _ _ _ _ _ _ (HBX.out w5 hb5).2]; rfl); have s53 : w5.cell? ⟨w3.heap.size, 3, none⟩ = some (.slice A3 R.length c3) := (by rw [cell_of_row _ _ _ _ _ _ (HBX.out w5 hb5).2]; rfl); have s54 : w5.cell? ⟨w3.heap.size, 4, none⟩ = some (.int .i64 K0) := (by rw [cell_of_row _ _ _ _ _ _ (HBX.out w5 hb5).2]; rfl); clear hb5)
      go_ret
      exact ⟨rfl, HB3.out.trans (HB5.out.mono HB3.out.size)⟩
    | true =>
      obtain ⟨kp, hke, hmd⟩ := HMD.out rfl
      have hlen := hmd.hlen
      have HBG := Lib.hid (show ∀ (k : Nat) (h1 : k < l.length) (h2 : k < (hsOf L M_ F R kp).length), begB l[k] (hsOf L M_ F R kp)[k] = true from fun k h1 h2 => hmd.begins h1 h2)
      have HAS := Lib.hid (show ∀ (k : Nat) (h1 : k < (hsOf L M_ F R kp).length) (h2 : k + 1 < (hsOf L M_ F R kp).length), lt (hsOf L M_ F R kp)[k] (hsOf L M_ F R kp)[k + 1] = true from fun k h1 h2 => by
        have ha := (keys_iff.mp hmd.hkeys).2.2
        unfold asc at ha
        rw [List.pairwise_iff_getElem] at ha
        exact ha k (k + 1) h1 h2 (Nat.lt_succ_self k))
      have HSV := Lib.hid (show headsO L M_ F R K0 = hsOf L M_ F R kp by have h := hmd.sv; rw [hmd.k] at h ⊢; exact headsO_yes h)
      obtain ⟨hs, hhs⟩ : ∃ y, y = hsOf L M_ F R kp := ⟨_, rfl⟩
      rw [← hhs] at HBG HAS HSV hlen
      have HHD := Lib.hid (show ∀ W, Below W3.heap.size W3 W → Calls Try.prog 34 #[.agg #[.string L, .string M_, .string F, .slice A3 R.length c3, .int .i64 K0]] W fun e w' => ∃ A c, e = .returned (.slice A l.length c) ∧ Strs w' w'.heap.size A l.length hs ∧ l.length ≤ c ∧ c ≤ maxLen ∧ Below W3.heap.size W3 w' from fun W hW => by
        have h := HFL.out.heads K0 W hW
        rw [HSV.out] at h
        refine h.mono fun e w' ⟨A, c, h1, h2, h3, h4, h5⟩ => ⟨A, c, ?_, ?_, ?_, h4, h5⟩
        · rw [← hlen]; exact h1
        · rw [← hlen]; exact h2
        · rw [← hlen]; exact h3)
      clear hke hmd hhs
      go_wp2_with (first | (go_at_call 31; refine Calls.mono (HLT.out _ (by first | exact Below.refl _ _ | exact HB5.out)) ?_; rintro e w5 ⟨rfl, hb5⟩; have HB5 := Lib.hid hb5; have p50 : w5.cell? ⟨w2.heap.size, 0, none⟩ = some (.string L) := (by rw [cell_of_row _ _ _ _ _ _ (HBX.out w5 hb5).1]; rfl); have p51 : w5.cell? ⟨w2.heap.size, 1, none⟩ = some (.string M_) := (by rw [cell_of_row _ _ _ _ _ _ (HBX.out w5 hb5).1]; rfl); have p52 : w5.cell? ⟨w2.heap.size, 2, none⟩ = some (.string F) := (by rw [cell_of_row _ _ _ _ _ _ (HBX.out w5 hb5).1]; rfl); have p53 : w5.cell? ⟨w2.heap.size, 3, none⟩ = some (.slice A2 R.length c2) := (by rw [cell_of_row _ _ _ _ _ _ (HBX.out w5 hb5).1]; rfl); have p54 : w5.cell? ⟨w2.heap.size, 4, none⟩ = some (.int .i64 K0) := (by rw [cell_of_row _ _ _ _ _ _ (HBX.out w5 hb5).1]; rfl); have s50 : w5.cell? ⟨w3.heap.size, 0, none⟩ = some (.string L) := (by rw [cell_of_row _ _ _ _ _ _ (HBX.out w5 hb5).2]; rfl); have s51 : w5.cell? ⟨w3.heap.size, 1, none⟩ = some (.string M_) := (by rw [cell_of_row _ _ _ _ _ _ (HBX.out w5 hb5).2]; rfl); have s52 : w5.cell? ⟨w3.heap.size, 2, none⟩ = some (.string F) := (by rw [cell_of_row _ _ _ _ _ _ (HBX.out w5 hb5).2]; rfl); have s53 : w5.cell? ⟨w3.heap.size, 3, none⟩ = some (.slice A3 R.length c3) := (by rw [cell_of_row _ _ _ _ _ _ (HBX.out w5 hb5).2]; rfl); have s54 : w5.cell? ⟨w3.heap.size, 4, none⟩ = some (.int .i64 K0) := (by rw [cell_of_row _ _ _ _ _ _ (HBX.out w5 hb5).2]; rfl); clear hb5) | (go_at_call 34; refine Calls.mono (HHD.out _ HB5.out) ?_; rintro e w5 ⟨A7, c7, rfl, hs7, hn7, hm7, hb5⟩; have HS7 := Lib.hid hs7; have HB5 := Lib.hid hb5; clear hb5 hs7))
      have HK5 := Lib.hid ((HS3.out.below HB5.out (Nat.le_refl _)).more HB5.out.size)
      go_loopw [10] (fun i wr => ∃ k : Nat, k ≤ l.length ∧ i = .int .i64 (k : Nat) ∧ Below w5.heap.size w5 wr) (fun i _ => l.length - (intOf i).toNat)
      case atStart => exact ⟨0, Nat.zero_le _, rfl, Below.refl _ _⟩
      case round =>
        obtain ⟨k, hk, rfl, hbl⟩ := hrel
        have HBL := Lib.hid hbl
        clear hbl
        by_cases hlt : k < l.length
        · obtain ⟨kb, ko, hA, hkb, hkc⟩ := HK5.out.cell k hlt
          obtain ⟨gb, go_, hA2, hgb, hgc⟩ := HS7.out.cell k (by omega)
          have kc : wr.cell? ⟨kb, ko + k, none⟩ = some (.string l[k]) := (HBL.out.cell (p := ⟨kb, ko + k, none⟩) hkb).trans hkc
          have gc : wr.cell? ⟨gb, go_ + k, none⟩ = some (.string hs[k]) := (HBL.out.cell (p := ⟨gb, go_ + k, none⟩) hgb).trans hgc
          have HBK := Lib.hid (show ∀ W, Calls Try.prog 35 #[.string l[k], .string hs[k]] W fun e w' => e = .returned (.bool true) ∧ W = w' from fun W => by have h := begI l[k] hs[k] W; rw [HBG.out k hlt (by omega)] at h; exact h)
          subst hA
          clear hkc hgc
          have x0 : (0 : Int) ≤ (k : Int) := by omega
          have x1 : (k : Int) < (l.length : Int) := by omega
          obtain ⟨kk, hkk⟩ : ∃ x, x = l[k] := ⟨_, rfl⟩
          rw [← hkk] at kc HBK
          clear hkk
          cases k with
          | zero =>
            subst hA2
            obtain ⟨gg, hgg⟩ : ∃ x, x = hs[0] := ⟨_, rfl⟩
            rw [← hgg] at gc HBK
            clear hgg
            have kc0 : wr.cell? ⟨kb, ko, none⟩ = some (.string kk) := kc
            have gc0 : wr.cell? ⟨gb, go_, none⟩ = some (.string gg) := gc
            have x9 : (0 : Int) < (l.length : Int) := by omega
            go_wp2_with fail
            go_quiet ((go_at_call 35; exact quiet_mine (HBK.out _)))
            go_wp2
            go_roundw
            case rel => exact ⟨0 + 1, by omega, by go_num, bel_to HBL.out (by rfl) (by rfl) (by rfl) (by rfl)⟩
            case measure => simp [intOf]; omega
          | succ j =>
            obtain ⟨pb, po, hA3, hpb, hpc⟩ := HS7.out.cell j (by omega)
            rw [hA2] at hA3
            injection hA3 with hA3
            injection hA3 with e1 e2
            subst hA2 e1 e2
            have pc : wr.cell? ⟨gb, go_ + j, none⟩ = some (.string hs[j]) := (HBL.out.cell (p := ⟨gb, go_ + j, none⟩) hpb).trans hpc
            have o1 : Op.bytesLess hs[j].toList hs[j + 1].toList = true := HAS.out j (by omega) (by omega)
            obtain ⟨gg, hgg⟩ : ∃ x, x = hs[j + 1] := ⟨_, rfl⟩
            obtain ⟨pp, hpp⟩ : ∃ x, x = hs[j] := ⟨_, rfl⟩
            rw [← hgg] at gc HBK o1
            rw [← hpp] at pc o1
            clear hgg hpp hpc
            have hwr : IntKind.i64.wrap (((j + 1 : Nat) : Int) - 1) = (j : Nat) := i64_nat j (by unfold maxLen at *; omega) _ (by omega)
            have x2 : (0 : Int) ≤ (j : Int) := by omega
            have x3 : (j : Int) < (l.length : Int) := by omega
            have x4 : (0 : Int) < ((j + 1 : Nat) : Int) := by omega
            go_wp2_with fail
            go_quiet ((go_at_call 35; exact quiet_mine (HBK.out _)))
            go_wp2
            go_roundw
            case rel => exact ⟨j + 1 + 1, by omega, by go_num, bel_to HBL.out (by rfl) (by rfl) (by rfl) (by rfl)⟩
            case measure => simp [intOf]; omega
        · have hke : k = l.length := by omega
          subst hke
          go_wp2
          go_ret
          exact ⟨rfl, HB3.out.trans ((HB5.out.trans (HBL.out.mono HB5.out.size)).mono HB3.out.size)⟩

end Go.Proofs.Ytakadkhgcjndmaa.W
