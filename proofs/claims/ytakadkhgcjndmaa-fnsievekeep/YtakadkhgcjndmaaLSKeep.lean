/-
  A law of filters made of keys, as a walk over the contracts: with more letters kept.
-/
import Derived.Test.YtakadkhgcjndmaaY3
import Derived.Test.YtakadkhgcjndmaaDS6
import Derived.Test.YtakadkhgcjndmaaLE1
import Derived.Test.YtakadkhgcjndmaaLSMeetsHas
namespace Go.Proofs.Ytakadkhgcjndmaa.W
open Go.RowKit K

set_option maxHeartbeats 8000000 in
set_option maxRecDepth 100000 in
theorem lawSieveKeep (w : World) (A : Option Addr) (n c : Nat) (hb0 : Bytes w w.heap.size A n) (hnc : n ≤ c) (hc : c ≤ maxLen) (A9 : Option Addr) (n9 c9 : Nat) (hb9 : Bytes w w.heap.size A9 n9) (hnc9 : n9 ≤ c9) (hc9 : c9 ≤ maxLen) :
    Calls Try.prog 11 #[.slice A n c, .slice A9 n9 c9] w fun e w' => e = .returned (.bool true) ∧ Below w.heap.size w w' := by
  by_cases hbig : (1048576 : Int) < (n : Int)
  · clear hb0 hb9
    go_enter Try.func11, Try.ntmps11
    go_wp2
    go_ret
    exact ⟨rfl, Below.refl _ _⟩
  · by_cases hbig2 : (1048576 : Int) < (n9 : Int)
    · clear hb0 hb9
      go_enter Try.func11, Try.ntmps11
      go_wp2
      go_ret
      exact ⟨rfl, Below.refl _ _⟩
    · have hd1 : decide ((1048576 : Int) < (n : Int)) = false := by simpa using hbig
      have hd2 : decide ((1048576 : Int) < (n9 : Int)) = false := by simpa using hbig2
      have HB9 := Lib.hid hb9
      clear hb9
      go_enter Try.func11, Try.ntmps11
      go_wp2_with fail
      go_at_call 28
      refine (drawOf w A n c hb0 hnc hc).mono ?_
      rintro e w1 ⟨A1, c1, l, keep, hl, hsh, hk1, hk2, rfl, ho1, hb1⟩
      have HF := Lib.hid hsh.fit
      have HB1 := Lib.hid hb1
      obtain ⟨hs1, hc1, hm1⟩ := ho1.strs
      have HS1 := Lib.hid hs1
      clear hb0 ho1 hb1 hs1 hsh
      go_wp2_with fail
      go_at_call 48
      refine (drawKey w1 A9 n9 c9 (bytes_up HB9.out HB1.out) hnc9 hc9).mono ?_
      rintro e w8 ⟨k, k9, hkk, hkk9, rfl, hb8⟩
      have HKK := Lib.hid hkk
      have hksz := isK_size hkk
      have HS8 := Lib.hid ((HS1.out.below hb8 (Nat.le_refl _)).more hb8.size)
      have HB8 := Lib.hid (HB1.out.trans (hb8.mono HB1.out.size))
      clear hkk hkk9 hb8 HS1 HB1
      obtain ⟨L, hL⟩ : ∃ x, x = svL l keep := ⟨_, rfl⟩
      obtain ⟨M_, hM⟩ : ∃ x, x = svM l keep := ⟨_, rfl⟩
      obtain ⟨F, hF⟩ : ∃ x, x = svF l keep := ⟨_, rfl⟩
      obtain ⟨R, hR⟩ : ∃ x, x = svR l keep := ⟨_, rfl⟩
      obtain ⟨K0, hK⟩ : ∃ x, x = svK l keep := ⟨_, rfl⟩
      obtain ⟨b, hb⟩ : ∃ x, x = svYes l keep := ⟨_, rfl⟩
      have HOS := Lib.hid (show ∀ (W : World) (A : Option Addr) (n c : Nat), Strs W W.heap.size A n l → n ≤ c → c ≤ maxLen → Calls Try.prog 29 #[.slice A n c, .int .i64 keep] W (OfF W L M_ F R K0 b) from fun W A n c h1 h2 h3 => (ofS W n c A l keep h1 h2 h3 HF.out).mono fun _ _ h => by rw [hL, hM, hF, hR, hK, hb]; exact of_fields h)
      have HOI := Lib.hid (show ∀ (W : World) (A : Option Addr) (n c : Nat), Strs W W.heap.size A n l → n ≤ c → c ≤ maxLen → Calls Try.prog 30 #[.slice A n c, .int .i64 keep] W (OfF W L M_ F R K0 b) from fun W A n c h1 h2 h3 => (ofI W n c A l keep h1 h2 h3 HF.out).mono fun _ _ h => by rw [hL, hM, hF, hR, hK, hb]; exact of_fields h)
      have HMD := Lib.hid (show b = true → ∃ kp : Nat, keep = kp ∧ Made L M_ F R K0 l kp from fun h => by
        rw [hb] at h
        rw [hL, hM, hF, hR, hK]
        obtain ⟨kp, e1, e2, e3⟩ := made_of h
        exact ⟨kp, e1, e3.keys, e3.le, e2, e3.eL, e3.eM, e3.eF, e3.eR⟩)
      have HSZ := Lib.hid (show (L.size ≤ 144 ∧ M_.size ≤ 144 ∧ F.size ≤ 144 ∧ (∀ s ∈ R, s.size ≤ 5) ∧ -1 ≤ K0 ∧ K0 ≤ 6) ∧ R.length ≤ 144 by rw [hL, hM, hF, hR, hK]; exact ⟨sv_small l keep, svR_len l keep⟩)
      clear hL hM hF hR hK hb
      go_wp2_with fail
      go_at_call 29
      refine Calls.mono (HOS.out _ A1 l.length c1 HS8.out hc1 hm1) ?_
      rintro e w2 ⟨A2, c2, rfl, ho2, hb2⟩
      have hsz2 := hb2.size
      have HB2 := Lib.hid (HB8.out.trans (hb2.mono HB8.out.size))
      have HS2 := Lib.hid ((HS8.out.below hb2 (Nat.le_refl _)).more hb2.size)
      have HR2 := Lib.hid ho2.strs.1
      clear ho2 hb2 HS8 HB8
      obtain ⟨W2, hW2⟩ : ∃ W2, W2 = w2.alloc (.cells #[.string L, .string M_, .string F, .slice A2 R.length c2, .int .i64 K0] 27) := ⟨_, rfl⟩
      have hbw2 : Below w2.heap.size w2 W2 := by rw [hW2]; exact (Below.refl _ _).alloc (Nat.le_refl _) _
      have HX2 := Lib.hid (show W2.heap[w2.heap.size]? = some (.cells #[.string L, .string M_, .string F, .slice A2 R.length c2, .int .i64 K0] 27 (0, 0)) by rw [hW2]; exact heap_alloc_new _ _)
      have hsW2 : W2.heap.size = w2.heap.size + 1 := by rw [hW2]; simp
      have HI := Lib.hid (HOI.out W2 A1 l.length c1 ((HS2.out.below hbw2 (Nat.le_refl _)).more hbw2.size) hc1 hm1)
      have HBW := Lib.hid (HB2.out.trans (hbw2.mono HB2.out.size))
      have HSW := Lib.hid ((HS2.out.below hbw2 (Nat.le_refl _)).more hbw2.size)
      have HRW := Lib.hid ((HR2.out.below hbw2 (Nat.le_refl _)).more hbw2.size)
      have HW2 := Lib.hid hW2
      rw [hW2] at HI
      clear hbw2 hW2 HS2 HR2 HB2
      go_wp2_with fail
      go_at_call 30
      refine HI.out.mono ?_
      rw [← HW2.out]
      rintro e w3 ⟨A3, c3, rfl, ho3, hb3⟩
      have hsz3 := hb3.size
      obtain ⟨W3, hW3⟩ : ∃ W3, W3 = w3.alloc (.cells #[.string L, .string M_, .string F, .slice A3 R.length c3, .int .i64 K0] 27) := ⟨_, rfl⟩
      have hbw3 : Below w3.heap.size w3 W3 := by rw [hW3]; exact (Below.refl _ _).alloc (Nat.le_refl _) _
      have hsW3 : W3.heap.size = w3.heap.size + 1 := by rw [hW3]; simp
      have hb23 : Below W2.heap.size W2 W3 := hb3.trans (hbw3.mono hsz3)
      have hx3 : W3.heap[w2.heap.size]? = some (.cells #[.string L, .string M_, .string F, .slice A2 R.length c2, .int .i64 K0] 27 (0, 0)) := by rw [hb23.block _ (by omega)]; exact HX2.out
      have hy3 : W3.heap[w3.heap.size]? = some (.cells #[.string L, .string M_, .string F, .slice A3 R.length c3, .int .i64 K0] 27 (0, 0)) := by rw [hW3]; exact heap_alloc_new _ _
      have HB3 := Lib.hid (HBW.out.trans (hb23.mono HBW.out.size))
      have HS3 := Lib.hid ((HSW.out.below hb23 (Nat.le_refl _)).more hb23.size)
      have HR3 := Lib.hid ((HRW.out.below hb23 (Nat.le_refl _)).more hb23.size)
      have hG := ho3.strs
      have HG3 := Lib.hid ((hG.1.below hbw3 (Nat.le_refl _)).more hbw3.size)
      have hc3 := hG.2.1
      have hm3 := hG.2.2
      have hRl : R.length ≤ 144 := HSZ.out.2
      have HFL := Lib.hid (show Flt W3 L M_ F A3 R.length c3 R from ⟨by have := HSZ.out.1.1; unfold maxLen; omega, by have := HSZ.out.1.2.1; unfold maxLen; omega, by have := HSZ.out.1.2.2.1; unfold maxLen; omega, HG3.out, hc3, hm3, fun i h => by have := HSZ.out.1.2.2.2.1 _ (List.getElem_mem h); omega⟩)
      have HLT := Lib.hid (show ∀ W, Below W3.heap.size W3 W → Calls Try.prog 31 #[.agg #[.string L, .string M_, .string F, .slice A3 R.length c3, .int .i64 K0], .agg #[.string L, .string M_, .string F, .slice A2 R.length c2, .int .i64 K0]] W fun e w' => e = .returned (.bool true) ∧ Below W3.heap.size W3 w' from fun W hW => by
        have h := ltSieveS L M_ F L M_ F A3 A2 R.length c3 R.length c2 R R K0 K0 W ((HG3.out.below hW (Nat.le_refl _)).more hW.size) ((HR3.out.below hW (Nat.le_refl _)).more hW.size) (by unfold maxLen; omega) (by unfold maxLen; omega)
        rw [sameSv_same] at h
        exact h.mono fun _ _ ⟨he, hb⟩ => ⟨he, hW.trans (hb.mono hW.size)⟩)
      have HX3 := Lib.hid hx3
      have HY3 := Lib.hid hy3
      have HW3 := Lib.hid hW3
      clear hx3 hy3 hb23 hbw3 ho3 hb3 hG hW3 HBW HSW HRW HX2
      have HBX := Lib.hid (show ∀ W, Below W3.heap.size W3 W → W.heap[w2.heap.size]? = some (.cells #[.string L, .string M_, .string F, .slice A2 R.length c2, .int .i64 K0] 27 (0, 0)) ∧ W.heap[w3.heap.size]? = some (.cells #[.string L, .string M_, .string F, .slice A3 R.length c3, .int .i64 K0] 27 (0, 0)) from fun W hW => ⟨by rw [hW.block _ (by omega)]; exact HX3.out, by rw [hW.block _ (by omega)]; exact HY3.out⟩)
      go_upto_region 7 with fail
      rw [← HW3.out]
      have p0 : W3.cell? ⟨w2.heap.size, 0, none⟩ = some (.string L) := by rw [cell_of_row _ _ _ _ _ _ HX3.out]; rfl
      have p1 : W3.cell? ⟨w2.heap.size, 1, none⟩ = some (.string M_) := by rw [cell_of_row _ _ _ _ _ _ HX3.out]; rfl
      have p2 : W3.cell? ⟨w2.heap.size, 2, none⟩ = some (.string F) := by rw [cell_of_row _ _ _ _ _ _ HX3.out]; rfl
      have p3 : W3.cell? ⟨w2.heap.size, 3, none⟩ = some (.slice A2 R.length c2) := by rw [cell_of_row _ _ _ _ _ _ HX3.out]; rfl
      have p4 : W3.cell? ⟨w2.heap.size, 4, none⟩ = some (.int .i64 K0) := by rw [cell_of_row _ _ _ _ _ _ HX3.out]; rfl
      have s0 : W3.cell? ⟨w3.heap.size, 0, none⟩ = some (.string L) := by rw [cell_of_row _ _ _ _ _ _ HY3.out]; rfl
      have s1 : W3.cell? ⟨w3.heap.size, 1, none⟩ = some (.string M_) := by rw [cell_of_row _ _ _ _ _ _ HY3.out]; rfl
      have s2 : W3.cell? ⟨w3.heap.size, 2, none⟩ = some (.string F) := by rw [cell_of_row _ _ _ _ _ _ HY3.out]; rfl
      have s3 : W3.cell? ⟨w3.heap.size, 3, none⟩ = some (.slice A3 R.length c3) := by rw [cell_of_row _ _ _ _ _ _ HY3.out]; rfl
      have s4 : W3.cell? ⟨w3.heap.size, 4, none⟩ = some (.int .i64 K0) := by rw [cell_of_row _ _ _ _ _ _ HY3.out]; rfl
      cases b with
      | false =>
        go_wp2_with (go_at_call 31; refine Calls.mono (HLT.out _ (by first | exact Below.refl _ _ | exact HB5.out)) ?_; rintro e w5 ⟨rfl, hb5⟩; have HB5 := Lib.hid hb5; have p50 : w5.cell? ⟨w2.heap.size, 0, none⟩ = some (.string L) := (by rw [cell_of_row _ _ _ _ _ _ (HBX.out w5 hb5).1]; rfl); have p51 : w5.cell? ⟨w2.heap.size, 1, none⟩ = some (.string M_) := (by rw [cell_of_row _ _ _ _ _ _ (HBX.out w5 hb5).1]; rfl); have p52 : w5.cell? ⟨w2.heap.size, 2, none⟩ = some (.string F) := (by rw [cell_of_row _ _ _ _ _ _ (HBX.out w5 hb5).1]; rfl); have p53 : w5.cell? ⟨w2.heap.size, 3, none⟩ = some (.slice A2 R.length c2) := (by rw [cell_of_row _ _ _ _ _ _ (HBX.out w5 hb5).1]; rfl); have p54 : w5.cell? ⟨w2.heap.size, 4, none⟩ = some (.int .i64 K0) := (by rw [cell_of_row _ _ _ _ _ _ (HBX.out w5 hb5).1]; rfl); have s50 : w5.cell? ⟨w3.heap.size, 0, none⟩ = some (.string L) := (by rw [cell_of_row _ _ _ _ _ _ (HBX.out w5 hb5).2]; rfl); have s51 : w5.cell? ⟨w3.heap.size, 1, none⟩ = some (.string M_) := (by rw [cell_of_row _ _ _ _ _ _ (HBX.out w5 hb5).2]; rfl); have s52 : w5.cell? ⟨w3.heap.size, 2, none⟩ = some (.string F) := (by rw [cell_of_row _ _ _ _ _ _ (HBX.out w5 hb5).2]; rfl); have s53 : w5.cell? ⟨w3.heap.size, 3, none⟩ = some (.slice A3 R.length c3) := (by rw [cell_of_row _ _ _ _ _ _ (HBX.out w5 hb5).2]; rfl); have s54 : w5.cell? ⟨w3.heap.size, 4, none⟩ = some (.int .i64 K0) := (by rw [cell_of_row _ _ _ _ _ _ (HBX.out w5 hb5).2]; rfl); clear hb5)
        go_ret
        exact ⟨rfl, HB3.out.trans (HB5.out.mono HB3.out.size)⟩
      | true =>
        obtain ⟨kp, hke, hmd⟩ := HMD.out rfl
        have HME := Lib.hid hmd
        have hkp5 : kp ≤ 5 := hmd.le
        have HKE := Lib.hid hke
        obtain ⟨keep2, hq⟩ : ∃ x : Int, x = ((kp + 1 : Nat) : Int) := ⟨_, rfl⟩
        have hwr : IntKind.i64.wrap (keep + 1) = keep2 := by rw [hq]; exact i64_nat (kp + 1) (by omega) _ (by omega)
        clear hke hmd
        obtain ⟨L5, hL5⟩ : ∃ x, x = svL l keep2 := ⟨_, rfl⟩
        obtain ⟨M5, hM5⟩ : ∃ x, x = svM l keep2 := ⟨_, rfl⟩
        obtain ⟨F5, hF5⟩ : ∃ x, x = svF l keep2 := ⟨_, rfl⟩
        obtain ⟨R5, hR5⟩ : ∃ x, x = svR l keep2 := ⟨_, rfl⟩
        obtain ⟨K5, hK5⟩ : ∃ x, x = svK l keep2 := ⟨_, rfl⟩
        obtain ⟨b5, hb5⟩ : ∃ x, x = svYes l keep2 := ⟨_, rfl⟩
        have HO5 := Lib.hid (show ∀ (W : World) (A : Option Addr) (n c : Nat), Strs W W.heap.size A n l → n ≤ c → c ≤ maxLen → Calls Try.prog 30 #[.slice A n c, .int .i64 keep2] W (OfF W L5 M5 F5 R5 K5 b5) from fun W A n c h1 h2 h3 => (ofI W n c A l keep2 h1 h2 h3 HF.out).mono fun _ _ h => by have h' := of_fields h; rw [hL5, hM5, hF5, hR5, hK5, hb5]; exact h')
        have HS5 := Lib.hid (show L5.size ≤ 144 ∧ M5.size ≤ 144 ∧ F5.size ≤ 144 ∧ (∀ s ∈ R5, s.size ≤ 5) ∧ -1 ≤ K5 ∧ K5 ≤ 6 by rw [hL5, hM5, hF5, hR5, hK5]; exact sv_small l keep2)
        have hrl : R5.length ≤ 144 := by rw [hR5]; exact svR_len l keep2
        have HLE := Lib.hid (show b5 = true → hasO L5 M5 F5 R5 K5 k = true → hasO L M_ F R K0 k = true from fun h1 h2 => by
          rw [hb5] at h1
          obtain ⟨k5, e1, e2, e3⟩ := made_of h1
          have e4 : k5 = kp + 1 := by omega
          subst e4
          have e5 : K5 = K0 + 1 := by rw [hK5, e2, HME.out.k]; omega
          rw [e5] at h2
          exact HME.out.less ⟨e3.keys, e3.le, by rw [HME.out.k]; omega, by rw [hL5]; exact e3.eL, by rw [hM5]; exact e3.eM, by rw [hF5]; exact e3.eF, by rw [hR5]; exact e3.eR⟩ h2)
        clear hL5 hM5 hF5 hR5 hK5 hb5 hq
        go_wp2_with (first | (go_at_call 31; refine Calls.mono (HLT.out _ (by first | exact Below.refl _ _ | exact HB5.out)) ?_; rintro e w5 ⟨rfl, hb5⟩; have HB5 := Lib.hid hb5; have p50 : w5.cell? ⟨w2.heap.size, 0, none⟩ = some (.string L) := (by rw [cell_of_row _ _ _ _ _ _ (HBX.out w5 hb5).1]; rfl); have p51 : w5.cell? ⟨w2.heap.size, 1, none⟩ = some (.string M_) := (by rw [cell_of_row _ _ _ _ _ _ (HBX.out w5 hb5).1]; rfl); have p52 : w5.cell? ⟨w2.heap.size, 2, none⟩ = some (.string F) := (by rw [cell_of_row _ _ _ _ _ _ (HBX.out w5 hb5).1]; rfl); have p53 : w5.cell? ⟨w2.heap.size, 3, none⟩ = some (.slice A2 R.length c2) := (by rw [cell_of_row _ _ _ _ _ _ (HBX.out w5 hb5).1]; rfl); have p54 : w5.cell? ⟨w2.heap.size, 4, none⟩ = some (.int .i64 K0) := (by rw [cell_of_row _ _ _ _ _ _ (HBX.out w5 hb5).1]; rfl); have s50 : w5.cell? ⟨w3.heap.size, 0, none⟩ = some (.string L) := (by rw [cell_of_row _ _ _ _ _ _ (HBX.out w5 hb5).2]; rfl); have s51 : w5.cell? ⟨w3.heap.size, 1, none⟩ = some (.string M_) := (by rw [cell_of_row _ _ _ _ _ _ (HBX.out w5 hb5).2]; rfl); have s52 : w5.cell? ⟨w3.heap.size, 2, none⟩ = some (.string F) := (by rw [cell_of_row _ _ _ _ _ _ (HBX.out w5 hb5).2]; rfl); have s53 : w5.cell? ⟨w3.heap.size, 3, none⟩ = some (.slice A3 R.length c3) := (by rw [cell_of_row _ _ _ _ _ _ (HBX.out w5 hb5).2]; rfl); have s54 : w5.cell? ⟨w3.heap.size, 4, none⟩ = some (.int .i64 K0) := (by rw [cell_of_row _ _ _ _ _ _ (HBX.out w5 hb5).2]; rfl); clear hb5) | (go_at_call 30; fail))
        go_at_call 30
        refine Calls.mono (HO5.out w5 A1 l.length c1 ((HS3.out.below HB5.out (Nat.le_refl _)).more HB5.out.size) hc1 hm1) ?_
        rintro e w6 ⟨A6, c6, rfl, ho6, hb6⟩
        obtain ⟨W6, hW6⟩ : ∃ W6, W6 = w6.alloc (.cells #[.string L5, .string M5, .string F5, .slice A6 R5.length c6, .int .i64 K5] 27) := ⟨_, rfl⟩
        have hbw : Below w6.heap.size w6 W6 := by rw [hW6]; exact (Below.refl _ _).alloc (Nat.le_refl _) _
        have HY6 := Lib.hid (show W6.heap[w6.heap.size]? = some (.cells #[.string L5, .string M5, .string F5, .slice A6 R5.length c6, .int .i64 K5] 27 (0, 0)) by rw [hW6]; exact heap_alloc_new _ _)
        obtain ⟨s6, hc6, hm6⟩ := (ho6.below hbw).strs
        have hb36 := HB5.out.trans (hb6.mono HB5.out.size)
        have hb37 := hb36.trans (hbw.mono hb36.size)
        have HFW := Lib.hid (show Flt W6 L5 M5 F5 A6 R5.length c6 R5 from ⟨by have := HS5.out.1; unfold maxLen; omega, by have := HS5.out.2.1; unfold maxLen; omega, by have := HS5.out.2.2.1; unfold maxLen; omega, s6, hc6, hm6, fun i h => by have := HS5.out.2.2.2.1 _ (List.getElem_mem h); omega⟩)
        have HFS := Lib.hid (HFL.out.up hb37)
        have HB6 := Lib.hid (HB3.out.trans (hb37.mono HB3.out.size))
        have HSK := Lib.hid ((HS3.out.below hb37 (Nat.le_refl _)).more hb37.size)
        have HBY := Lib.hid (show ∀ W, Below W6.heap.size W6 W → W.heap[w6.heap.size]? = some (.cells #[.string L5, .string M5, .string F5, .slice A6 R5.length c6, .int .i64 K5] 27 (0, 0)) ∧ W.heap[w3.heap.size]? = some (.cells #[.string L, .string M_, .string F, .slice A3 R.length c3, .int .i64 K0] 27 (0, 0)) from fun W hW => ⟨box_below HY6.out hW, (HBX.out W (hb37.trans (hW.mono hb37.size))).2⟩)
        have HW6 := Lib.hid hW6
        clear ho6 hb6 hbw hW6 s6 hb36 hb37
        go_upto_region 10 with fail
        rw [← HW6.out]
        have q0 : W6.cell? ⟨w6.heap.size, 0, none⟩ = some (.string L5) := by rw [cell_of_row _ _ _ _ _ _ HY6.out]; rfl
        have q1 : W6.cell? ⟨w6.heap.size, 1, none⟩ = some (.string M5) := by rw [cell_of_row _ _ _ _ _ _ HY6.out]; rfl
        have q2 : W6.cell? ⟨w6.heap.size, 2, none⟩ = some (.string F5) := by rw [cell_of_row _ _ _ _ _ _ HY6.out]; rfl
        have q3 : W6.cell? ⟨w6.heap.size, 3, none⟩ = some (.slice A6 R5.length c6) := by rw [cell_of_row _ _ _ _ _ _ HY6.out]; rfl
        have q4 : W6.cell? ⟨w6.heap.size, 4, none⟩ = some (.int .i64 K5) := by rw [cell_of_row _ _ _ _ _ _ HY6.out]; rfl
        have r0 : W6.cell? ⟨w3.heap.size, 0, none⟩ = some (.string L) := by rw [cell_of_row _ _ _ _ _ _ (HBY.out W6 (Below.refl _ _)).2]; rfl
        have r1 : W6.cell? ⟨w3.heap.size, 1, none⟩ = some (.string M_) := by rw [cell_of_row _ _ _ _ _ _ (HBY.out W6 (Below.refl _ _)).2]; rfl
        have r2 : W6.cell? ⟨w3.heap.size, 2, none⟩ = some (.string F) := by rw [cell_of_row _ _ _ _ _ _ (HBY.out W6 (Below.refl _ _)).2]; rfl
        have r3 : W6.cell? ⟨w3.heap.size, 3, none⟩ = some (.slice A3 R.length c3) := by rw [cell_of_row _ _ _ _ _ _ (HBY.out W6 (Below.refl _ _)).2]; rfl
        have r4 : W6.cell? ⟨w3.heap.size, 4, none⟩ = some (.int .i64 K0) := by rw [cell_of_row _ _ _ _ _ _ (HBY.out W6 (Below.refl _ _)).2]; rfl
        cases b5 with
        | false =>
          go_wp2
          go_ret
          exact ⟨rfl, HB6.out⟩
        | true =>
          rcases Bool.eq_false_or_eq_true (hasO L5 M5 F5 R5 K5 k) with gz | gz
          · have gy := HLE.out rfl gz
            have HHX := Lib.hid (show ∀ v, v = .agg #[.string L5, .string M5, .string F5, .slice A6 R5.length c6, .int .i64 K5] ∨ v = .agg #[.string L, .string M_, .string F, .slice A3 R.length c3, .int .i64 K0] → From W6 32 #[v, .string k] (.bool true) from fun v hv => by
                rcases hv with rfl | rfl
                · have h := HFW.out.has K5 k (by unfold maxLen; omega); rw [gz] at h; exact h
                · have h := HFS.out.has K0 k (by unfold maxLen; omega); rw [gy] at h; exact h)
            clear gy gz
            go_wp2_with (go_at_call 32; refine Calls.mono (From.go (HHX.out _ (by first | exact .inl rfl | exact .inr rfl)) (by first | exact Below.refl _ _ | exact HB7.out)) ?_; rintro e w7 ⟨rfl, hb7⟩; have HB7 := Lib.hid hb7; have r70 : w7.cell? ⟨w3.heap.size, 0, none⟩ = some (.string L) := (by rw [cell_of_row _ _ _ _ _ _ (HBY.out w7 hb7).2]; rfl); have r71 : w7.cell? ⟨w3.heap.size, 1, none⟩ = some (.string M_) := (by rw [cell_of_row _ _ _ _ _ _ (HBY.out w7 hb7).2]; rfl); have r72 : w7.cell? ⟨w3.heap.size, 2, none⟩ = some (.string F) := (by rw [cell_of_row _ _ _ _ _ _ (HBY.out w7 hb7).2]; rfl); have r73 : w7.cell? ⟨w3.heap.size, 3, none⟩ = some (.slice A3 R.length c3) := (by rw [cell_of_row _ _ _ _ _ _ (HBY.out w7 hb7).2]; rfl); have r74 : w7.cell? ⟨w3.heap.size, 4, none⟩ = some (.int .i64 K0) := (by rw [cell_of_row _ _ _ _ _ _ (HBY.out w7 hb7).2]; rfl); clear hb7)
            go_ret
            exact ⟨rfl, HB6.out.trans (HB7.out.mono HB6.out.size)⟩
          · have HHX := Lib.hid (show ∀ v, v = .agg #[.string L5, .string M5, .string F5, .slice A6 R5.length c6, .int .i64 K5] ∨ v = .agg #[.string L5, .string M5, .string F5, .slice A6 R5.length c6, .int .i64 K5] → From W6 32 #[v, .string k] (.bool false) from fun v hv => by
                rcases hv with rfl | rfl <;> (have h := HFW.out.has K5 k (by unfold maxLen; omega); rw [gz] at h; exact h))
            clear gz
            go_wp2_with (go_at_call 32; refine Calls.mono (From.go (HHX.out _ (by first | exact .inl rfl | exact .inr rfl)) (by first | exact Below.refl _ _ | exact HB7.out)) ?_; rintro e w7 ⟨rfl, hb7⟩; have HB7 := Lib.hid hb7; have r70 : w7.cell? ⟨w3.heap.size, 0, none⟩ = some (.string L) := (by rw [cell_of_row _ _ _ _ _ _ (HBY.out w7 hb7).2]; rfl); have r71 : w7.cell? ⟨w3.heap.size, 1, none⟩ = some (.string M_) := (by rw [cell_of_row _ _ _ _ _ _ (HBY.out w7 hb7).2]; rfl); have r72 : w7.cell? ⟨w3.heap.size, 2, none⟩ = some (.string F) := (by rw [cell_of_row _ _ _ _ _ _ (HBY.out w7 hb7).2]; rfl); have r73 : w7.cell? ⟨w3.heap.size, 3, none⟩ = some (.slice A3 R.length c3) := (by rw [cell_of_row _ _ _ _ _ _ (HBY.out w7 hb7).2]; rfl); have r74 : w7.cell? ⟨w3.heap.size, 4, none⟩ = some (.int .i64 K0) := (by rw [cell_of_row _ _ _ _ _ _ (HBY.out w7 hb7).2]; rfl); clear hb7)
            go_ret
            exact ⟨rfl, HB6.out.trans (HB7.out.mono HB6.out.size)⟩

end Go.Proofs.Ytakadkhgcjndmaa.W
