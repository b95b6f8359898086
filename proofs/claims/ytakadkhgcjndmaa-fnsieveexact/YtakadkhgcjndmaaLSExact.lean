/-
  A law of filters made of keys, as a walk over the contracts: with all letters kept.
-/
import Derived.Test.YtakadkhgcjndmaaY3
import Derived.Test.YtakadkhgcjndmaaDS6
import Derived.Test.YtakadkhgcjndmaaLE1
namespace Go.Proofs.Ytakadkhgcjndmaa.W
open Go.RowKit K

set_option maxHeartbeats 8000000 in
set_option maxRecDepth 100000 in
theorem lawSieveExact (w : World) (A : Option Addr) (n c : Nat) (hb0 : Bytes w w.heap.size A n) (hnc : n ≤ c) (hc : c ≤ maxLen) (A9 : Option Addr) (n9 c9 : Nat) (hb9 : Bytes w w.heap.size A9 n9) (hnc9 : n9 ≤ c9) (hc9 : c9 ≤ maxLen) :
    Calls Try.prog 10 #[.slice A n c, .slice A9 n9 c9] w fun e w' => e = .returned (.bool true) ∧ Below w.heap.size w w' := by
  by_cases hbig : (1048576 : Int) < (n : Int)
  · clear hb0 hb9
    go_enter Try.func10, Try.ntmps10
    go_wp2
    go_ret
    exact ⟨rfl, Below.refl _ _⟩
  · by_cases hbig2 : (1048576 : Int) < (n9 : Int)
    · clear hb0 hb9
      go_enter Try.func10, Try.ntmps10
      go_wp2
      go_ret
      exact ⟨rfl, Below.refl _ _⟩
    · have hd1 : decide ((1048576 : Int) < (n : Int)) = false := by simpa using hbig
      have hd2 : decide ((1048576 : Int) < (n9 : Int)) = false := by simpa using hbig2
      have HB9 := Lib.hid hb9
      clear hb9
      go_enter Try.func10, Try.ntmps10
      go_wp2_with fail
      go_at_call 28
      refine (drawOf w A n c hb0 hnc hc).mono ?_
      rintro e w1 ⟨A1, c1, l, keep, hl, hsh, hk1, hk2, rfl, ho1, hb1⟩
      have HF := Lib.hid hsh.fit
      have HB1 := Lib.hid hb1
      obtain ⟨hs1, hc1, hm1⟩ := ho1.strs
      have HS1 := Lib.hid hs1
      clear hb0 ho1 hb1 hs1 hsh
      go_wp2_with fail
      go_at_call 48
      refine (drawKey w1 A9 n9 c9 (bytes_up HB9.out HB1.out) hnc9 hc9).mono ?_
      rintro e w8 ⟨k, k9, hkk, hkk9, rfl, hb8⟩
      have HKK := Lib.hid hkk
      have hksz := isK_size hkk
      have HS8 := Lib.hid ((HS1.out.below hb8 (Nat.le_refl _)).more hb8.size)
      have HB8 := Lib.hid (HB1.out.trans (hb8.mono HB1.out.size))
      clear hkk hkk9 hb8 HS1 HB1
      obtain ⟨L, hL⟩ : ∃ x, x = svL l keep := ⟨_, rfl⟩
      obtain ⟨M_, hM⟩ : ∃ x, x = svM l keep := ⟨_, rfl⟩
      obtain ⟨F, hF⟩ : ∃ x, x = svF l keep := ⟨_, rfl⟩
      obtain ⟨R, hR⟩ : ∃ x, x = svR l keep := ⟨_, rfl⟩
      obtain ⟨K0, hK⟩ : ∃ x, x = svK l keep := ⟨_, rfl⟩
      obtain ⟨b, hb⟩ : ∃ x, x = svYes l keep := ⟨_, rfl⟩
      have HOS := Lib.hid (show ∀ (W : World) (A : Option Addr) (n c : Nat), Strs W W.heap.size A n l → n ≤ c → c ≤ maxLen → Calls Try.prog 29 #[.slice A n c, .int .i64 keep] W (OfF W L M_ F R K0 b) from fun W A n c h1 h2 h3 => (ofS W n c A l keep h1 h2 h3 HF.out).mono fun _ _ h => by rw [hL, hM, hF, hR, hK, hb]; exact of_fields h)
      have HOI := Lib.hid (show ∀ (W : World) (A : Option Addr) (n c : Nat), Strs W W.heap.size A n l → n ≤ c → c ≤ maxLen → Calls Try.prog 30 #[.slice A n c, .int .i64 keep] W (OfF W L M_ F R K0 b) from fun W A n c h1 h2 h3 => (ofI W n c A l keep h1 h2 h3 HF.out).mono fun _ _ h => by rw [hL, hM, hF, hR, hK, hb]; exact of_fields h)
      have HMD := Lib.hid (show b = true → ∃ kp : Nat, keep = kp ∧ Made L M_ F R K0 l kp from fun h => by
        rw [hb] at h
        rw [hL, hM, hF, hR, hK]
        obtain ⟨kp, e1, e2, e3⟩ := made_of h
        exact ⟨kp, e1, e3.keys, e3.le, e2, e3.eL, e3.eM, e3.eF, e3.eR⟩)
      have HSZ := Lib.hid (show (L.size ≤ 144 ∧ M_.size ≤ 144 ∧ F.size ≤ 144 ∧ (∀ s ∈ R, s.size ≤ 5) ∧ -1 ≤ K0 ∧ K0 ≤ 6) ∧ R.length ≤ 144 by rw [hL, hM, hF, hR, hK]; exact ⟨sv_small l keep, svR_len l keep⟩)
      clear hL hM hF hR hK hb
      go_wp2_with fail
      go_at_call 29
      refine Calls.mono (HOS.out _ A1 l.length c1 HS8.out hc1 hm1) ?_
      rintro e w2 ⟨A2, c2, rfl, ho2, hb2⟩
      have hsz2 := hb2.size
      have HB2 := Lib.hid (HB8.out.trans (hb2.mono HB8.out.size))
      have HS2 := Lib.hid ((HS8.out.below hb2 (Nat.le_refl _)).more hb2.size)
      have HR2 := Lib.hid ho2.strs.1
      clear ho2 hb2 HS8 HB8
      obtain ⟨W2, hW2⟩ : ∃ W2, W2 = w2.alloc (.cells #[.string L, .string M_, .string F, .slice A2 R.length c2, .int .i64 K0] 27) := ⟨_, rfl⟩
      have hbw2 : Below w2.heap.size w2 W2 := by rw [hW2]; exact (Below.refl _ _).alloc (Nat.le_refl _) _
      have HX2 := Lib.hid (show W2.heap[w2.heap.size]? = some (.cells #[.string L, .string M_, .string F, .slice A2 R.length c2, .int .i64 K0] 27 (0, 0)) by rw [hW2]; exact heap_alloc_new _ _)
      have hsW2 : W2.heap.size = w2.heap.size + 1 := by rw [hW2]; simp
      have HI := Lib.hid (HOI.out W2 A1 l.length c1 ((HS2.out.below hbw2 (Nat.le_refl _)).more hbw2.size) hc1 hm1)
      have HBW := Lib.hid (HB2.out.trans (hbw2.mono HB2.out.size))
      have HSW := Lib.hid ((HS2.out.below hbw2 (Nat.le_refl _)).more hbw2.size)
      have HRW := Lib.hid ((HR2.out.below hbw2 (Nat.le_refl _)).more hbw2.size)
      have HW2 := Lib.hid hW2
      rw [hW2] at HI
      clear hbw2 hW2 HS2 HR2 HB2
      go_wp2_with fail
      go_at_call 30
      refine HI.out.mono ?_
      rw [← HW2.out]
      rintro e w3 ⟨A3, c3, rfl, ho3, hb3⟩
      have hsz3 := hb3.size
      obtain ⟨W3, hW3⟩ : ∃ W3, W3 = w3.alloc (.cells #[.string L, .string M_, .string F, .slice A3 R.length c3, .int .i64 K0] 27) := ⟨_, rfl⟩
      have hbw3 : Below w3.heap.size w3 W3 := by rw [hW3]; exact (Below.refl _ _).alloc (Nat.le_refl _) _
      have hsW3 : W3.heap.size = w3.heap.size + 1 := by rw [hW3]; simp
      have hb23 : Below W2.heap.size W2 W3 := hb3.trans (hbw3.mono hsz3)
      have hx3 : W3.heap[w2.heap.size]? = some (.cells #[.string L, .string M_, .string F, .slice A2 R.length c2, .int .i64 K0] 27 (0, 0)) := by rw [hb23.block _ (by omega)]; exact HX2.out
      have hy3 : W3.heap[w3.heap.size]? = some (.cells #[.string L, .string M_, .string F, .slice A3 R.length c3, .int .i64 K0] 27 (0, 0)) := by rw [hW3]; exact heap_alloc_new _ _
      have HB3 := Lib.hid (HBW.out.trans (hb23.mono HBW.out.size))
      have HS3 := Lib.hid ((HSW.out.below hb23 (Nat.le_refl _)).more hb23.size)
      have HR3 := Lib.hid ((HRW.out.below hb23 (Nat.le_refl _)).more hb23.size)
      have hG := ho3.strs
      have HG3 := Lib.hid ((hG.1.below hbw3 (Nat.le_refl _)).more hbw3.size)
      have hc3 := hG.2.1
      have hm3 := hG.2.2
      have hRl : R.length ≤ 144 := HSZ.out.2
      have HFL := Lib.hid (show Flt W3 L M_ F A3 R.length c3 R from ⟨by have := HSZ.out.1.1; unfold maxLen; omega, by have := HSZ.out.1.2.1; unfold maxLen; omega, by have := HSZ.out.1.2.2.1; unfold maxLen; omega, HG3.out, hc3, hm3, fun i h => by have := HSZ.out.1.2.2.2.1 _ (List.getElem_mem h); omega⟩)
      have HLT := Lib.hid (show ∀ W, Below W3.heap.size W3 W → Calls Try.prog 31 #[.agg #[.string L, .string M_, .string F, .slice A3 R.length c3, .int .i64 K0], .agg #[.string L, .string M_, .string F, .slice A2 R.length c2, .int .i64 K0]] W fun e w' => e = .returned (.bool true) ∧ Below W3.heap.size W3 w' from fun W hW => by
        have h := ltSieveS L M_ F L M_ F A3 A2 R.length c3 R.length c2 R R K0 K0 W ((HG3.out.below hW (Nat.le_refl _)).more hW.size) ((HR3.out.below hW (Nat.le_refl _)).more hW.size) (by unfold maxLen; omega) (by unfold maxLen; omega)
        rw [sameSv_same] at h
        exact h.mono fun _ _ ⟨he, hb⟩ => ⟨he, hW.trans (hb.mono hW.size)⟩)
      have HX3 := Lib.hid hx3
      have HY3 := Lib.hid hy3
      have HW3 := Lib.hid hW3
      clear hx3 hy3 hb23 hbw3 ho3 hb3 hG hW3 HBW HSW HRW HX2
      have HBX := Lib.hid (show ∀ W, Below W3.heap.size W3 W → W.heap[w2.heap.size]? = some (.cells #[.string L, .string M_, .string F, .slice A2 R.length c2, .int .i64 K0] 27 (0, 0)) ∧ W.heap[w3.heap.size]? = some (.cells #[.string L, .string M_, .string F, .slice A3 R.length c3, .int .i64 K0] 27 (0, 0)) from fun W hW => ⟨by rw [hW.block _ (by omega)]; exact HX3.out, by rw [hW.block _ (by omega)]; exact HY3.out⟩)
      go_upto_region 7 with fail
      rw [← HW3.out]
      have p0 : W3.cell? ⟨w2.heap.size, 0, none⟩ = some (.string L) := by rw [cell_of_row _ _ _ _ _ _ HX3.out]; rfl
      have p1 : W3.cell? ⟨w2.heap.size, 1, none⟩ = some (.string M_) := by rw [cell_of_row _ _ _ _ _ _ HX3.out]; rfl
      have p2 : W3.cell? ⟨w2.heap.size, 2, none⟩ = some (.string F) := by rw [cell_of_row _ _ _ _ _ _ HX3.out]; rfl
      have p3 : W3.cell? ⟨w2.heap.size, 3, none⟩ = some (.slice A2 R.length c2) := by rw [cell_of_row _ _ _ _ _ _ HX3.out]; rfl
      have p4 : W3.cell? ⟨w2.heap.size, 4, none⟩ = some (.int .i64 K0) := by rw [cell_of_row _ _ _ _ _ _ HX3.out]; rfl
      have s0 : W3.cell? ⟨w3.heap.size, 0, none⟩ = some (.string L) := by rw [cell_of_row _ _ _ _ _ _ HY3.out]; rfl
      have s1 : W3.cell? ⟨w3.heap.size, 1, none⟩ = some (.string M_) := by rw [cell_of_row _ _ _ _ _ _ HY3.out]; rfl
      have s2 : W3.cell? ⟨w3.heap.size, 2, none⟩ = some (.string F) := by rw [cell_of_row _ _ _ _ _ _ HY3.out]; rfl
      have s3 : W3.cell? ⟨w3.heap.size, 3, none⟩ = some (.slice A3 R.length c3) := by rw [cell_of_row _ _ _ _ _ _ HY3.out]; rfl
      have s4 : W3.cell? ⟨w3.heap.size, 4, none⟩ = some (.int .i64 K0) := by rw [cell_of_row _ _ _ _ _ _ HY3.out]; rfl
      cases b with
      | false =>
        go_wp2_with (go_at_call 31; refine Calls.mono (HLT.out _ (by first | exact Below.refl _ _ | exact HB5.out)) ?_; rintro e w5 ⟨rfl, hb5⟩; have HB5 := Lib.hid hb5; have p50 : w5.cell? ⟨w2.heap.size, 0, none⟩ = some (.string L) := (by rw [cell_of_row _ _ _ _ _ _ (HBX.out w5 hb5).1]; rfl); have p51 : w5.cell? ⟨w2.heap.size, 1, none⟩ = some (.string M_) := (by rw [cell_of_row _ _ _ _ _ _ (HBX.out w5 hb5).1]; rfl); have p52 : w5.cell? ⟨w2.heap.size, 2, none⟩ = some (.string F) := (by rw [cell_of_row _ _ _ _ _ _ (HBX.out w5 hb5).1]; rfl); have p53 : w5.cell? ⟨w2.heap.size, 3, none⟩ = some (.slice A2 R.length c2) := (by rw [cell_of_row _ _ _ _ _ _ (HBX.out w5 hb5).1]; rfl); have p54 : w5.cell? ⟨w2.heap.size, 4, none⟩ = some (.int .i64 K0) := (by rw [cell_of_row _ _ _ _ _ _ (HBX.out w5 hb5).1]; rfl); have s50 : w5.cell? ⟨w3.heap.size, 0, none⟩ = some (.string L) := (by rw [cell_of_row _ _ _ _ _ _ (HBX.out w5 hb5).2]; rfl); have s51 : w5.cell? ⟨w3.heap.size, 1, none⟩ = some (.string M_) := (by rw [cell_of_row _ _ _ _ _ _ (HBX.out w5 hb5).2]; rfl); have s52 : w5.cell? ⟨w3.heap.size, 2, none⟩ = some (.string F) := (by rw [cell_of_row _ _ _ _ _ _ (HBX.out w5 hb5).2]; rfl); have s53 : w5.cell? ⟨w3.heap.size, 3, none⟩ = some (.slice A3 R.length c3) := (by rw [cell_of_row _ _ _ _ _ _ (HBX.out w5 hb5).2]; rfl); have s54 : w5.cell? ⟨w3.heap.size, 4, none⟩ = some (.int .i64 K0) := (by rw [cell_of_row _ _ _ _ _ _ (HBX.out w5 hb5).2]; rfl); clear hb5)
        go_ret
        exact ⟨rfl, HB3.out.trans (HB5.out.mono HB3.out.size)⟩
      | true =>
        obtain ⟨kp, hke, hmd⟩ := HMD.out rfl
        have HKL := Lib.hid hmd.keys
        clear hke hmd
        have hy5 : svYes l 5 = true := by unfold svYes inB; rw [HKL.out]; rfl
        obtain ⟨k5, e1, e2, e3⟩ := made_of hy5
        have hk55 : k5 = 5 := by omega
        subst hk55
        have hsm := sv_small l 5
        have hrl := svR_len l 5
        obtain ⟨L5, hL5⟩ : ∃ x, x = svL l 5 := ⟨_, rfl⟩
        obtain ⟨M5, hM5⟩ : ∃ x, x = svM l 5 := ⟨_, rfl⟩
        obtain ⟨F5, hF5⟩ : ∃ x, x = svF l 5 := ⟨_, rfl⟩
        obtain ⟨R5, hR5⟩ : ∃ x, x = svR l 5 := ⟨_, rfl⟩
        obtain ⟨K5, hK5⟩ : ∃ x, x = svK l 5 := ⟨_, rfl⟩
        have HO5 := Lib.hid (show ∀ (W : World) (A : Option Addr) (n c : Nat), Strs W W.heap.size A n l → n ≤ c → c ≤ maxLen → Calls Try.prog 30 #[.slice A n c, .int .i64 5] W (OfF W L5 M5 F5 R5 K5 true) from fun W A n c h1 h2 h3 => (ofI W n c A l 5 h1 h2 h3 HF.out).mono fun _ _ h => by have h' := of_fields h; rw [hy5] at h'; rw [hL5, hM5, hF5, hR5, hK5]; exact h')
        rw [← hL5, ← hM5, ← hF5, ← hR5] at e3
        rw [← hK5] at e2
        rw [← hL5, ← hM5, ← hF5, ← hR5, ← hK5] at hsm
        rw [← hR5] at hrl
        have HM5 := Lib.hid (show Made L5 M5 F5 R5 5 l 5 from e3)
        have HK5 := Lib.hid (show K5 = 5 from e2)
        have HS5 := Lib.hid hsm
        clear hL5 hM5 hF5 hR5 hK5 e1 e2 e3 hsm hy5
        go_wp2_with (first | (go_at_call 31; refine Calls.mono (HLT.out _ (by first | exact Below.refl _ _ | exact HB5.out)) ?_; rintro e w5 ⟨rfl, hb5⟩; have HB5 := Lib.hid hb5; have p50 : w5.cell? ⟨w2.heap.size, 0, none⟩ = some (.string L) := (by rw [cell_of_row _ _ _ _ _ _ (HBX.out w5 hb5).1]; rfl); have p51 : w5.cell? ⟨w2.heap.size, 1, none⟩ = some (.string M_) := (by rw [cell_of_row _ _ _ _ _ _ (HBX.out w5 hb5).1]; rfl); have p52 : w5.cell? ⟨w2.heap.size, 2, none⟩ = some (.string F) := (by rw [cell_of_row _ _ _ _ _ _ (HBX.out w5 hb5).1]; rfl); have p53 : w5.cell? ⟨w2.heap.size, 3, none⟩ = some (.slice A2 R.length c2) := (by rw [cell_of_row _ _ _ _ _ _ (HBX.out w5 hb5).1]; rfl); have p54 : w5.cell? ⟨w2.heap.size, 4, none⟩ = some (.int .i64 K0) := (by rw [cell_of_row _ _ _ _ _ _ (HBX.out w5 hb5).1]; rfl); have s50 : w5.cell? ⟨w3.heap.size, 0, none⟩ = some (.string L) := (by rw [cell_of_row _ _ _ _ _ _ (HBX.out w5 hb5).2]; rfl); have s51 : w5.cell? ⟨w3.heap.size, 1, none⟩ = some (.string M_) := (by rw [cell_of_row _ _ _ _ _ _ (HBX.out w5 hb5).2]; rfl); have s52 : w5.cell? ⟨w3.heap.size, 2, none⟩ = some (.string F) := (by rw [cell_of_row _ _ _ _ _ _ (HBX.out w5 hb5).2]; rfl); have s53 : w5.cell? ⟨w3.heap.size, 3, none⟩ = some (.slice A3 R.length c3) := (by rw [cell_of_row _ _ _ _ _ _ (HBX.out w5 hb5).2]; rfl); have s54 : w5.cell? ⟨w3.heap.size, 4, none⟩ = some (.int .i64 K0) := (by rw [cell_of_row _ _ _ _ _ _ (HBX.out w5 hb5).2]; rfl); clear hb5) | (go_at_call 30; fail))
        go_at_call 30
        refine Calls.mono (HO5.out w5 A1 l.length c1 ((HS3.out.below HB5.out (Nat.le_refl _)).more HB5.out.size) hc1 hm1) ?_
        rintro e w6 ⟨A6, c6, rfl, ho6, hb6⟩
        obtain ⟨W6, hW6⟩ : ∃ W6, W6 = w6.alloc (.cells #[.string L5, .string M5, .string F5, .slice A6 R5.length c6, .int .i64 K5] 27) := ⟨_, rfl⟩
        have hbw : Below w6.heap.size w6 W6 := by rw [hW6]; exact (Below.refl _ _).alloc (Nat.le_refl _) _
        have HY6 := Lib.hid (show W6.heap[w6.heap.size]? = some (.cells #[.string L5, .string M5, .string F5, .slice A6 R5.length c6, .int .i64 K5] 27 (0, 0)) by rw [hW6]; exact heap_alloc_new _ _)
        obtain ⟨s6, hc6, hm6⟩ := (ho6.below hbw).strs
        have hb36 := HB5.out.trans (hb6.mono HB5.out.size)
        have hb37 := hb36.trans (hbw.mono hb36.size)
        have HFW := Lib.hid (show Flt W6 L5 M5 F5 A6 R5.length c6 R5 from ⟨by have := HS5.out.1; unfold maxLen; omega, by have := HS5.out.2.1; unfold maxLen; omega, by have := HS5.out.2.2.1; unfold maxLen; omega, s6, hc6, hm6, fun i h => by have := HS5.out.2.2.2.1 _ (List.getElem_mem h); omega⟩)
        have HB6 := Lib.hid (HB3.out.trans (hb37.mono HB3.out.size))
        have HSK := Lib.hid ((HS3.out.below hb37 (Nat.le_refl _)).more hb37.size)
        have HHA := Lib.hid (show From W6 32 #[.agg #[.string L5, .string M5, .string F5, .slice A6 R5.length c6, .int .i64 K5], .string k] (.bool (inL l k)) by have h := HFW.out.has K5 k (by unfold maxLen; omega); rw [HK5.out] at h ⊢; rw [HM5.out.exact_ k] at h; exact h)
        have HIN := Lib.hid (show ∀ W, Below W6.heap.size W6 W → Calls Try.prog 46 #[.slice A1 l.length c1, .string k] W fun e w' => e = .returned (.bool (inL l k)) ∧ W = w' from fun W hW => inS_ W W.heap.size l.length c1 A1 l k ((HSK.out.below hW (Nat.le_refl _)).more hW.size) (by omega))
        have HW6 := Lib.hid hW6
        clear ho6 hb6 hbw hW6 s6 hb36 hb37
        go_upto_region 10 with fail
        rw [← HW6.out]
        have q0 : W6.cell? ⟨w6.heap.size, 0, none⟩ = some (.string L5) := by rw [cell_of_row _ _ _ _ _ _ HY6.out]; rfl
        have q1 : W6.cell? ⟨w6.heap.size, 1, none⟩ = some (.string M5) := by rw [cell_of_row _ _ _ _ _ _ HY6.out]; rfl
        have q2 : W6.cell? ⟨w6.heap.size, 2, none⟩ = some (.string F5) := by rw [cell_of_row _ _ _ _ _ _ HY6.out]; rfl
        have q3 : W6.cell? ⟨w6.heap.size, 3, none⟩ = some (.slice A6 R5.length c6) := by rw [cell_of_row _ _ _ _ _ _ HY6.out]; rfl
        have q4 : W6.cell? ⟨w6.heap.size, 4, none⟩ = some (.int .i64 K5) := by rw [cell_of_row _ _ _ _ _ _ HY6.out]; rfl
        obtain ⟨z, hz⟩ : ∃ z, z = inL l k := ⟨_, rfl⟩
        rw [← hz] at HHA HIN
        clear hz
        cases z with
        | true =>
          go_wp2_with (first | (go_at_call 32; refine Calls.mono (HHA.out _ (Below.refl _ _)) ?_; rintro e w7 ⟨rfl, hb7⟩; have HB7 := Lib.hid hb7; clear hb7) | (go_at_call 46; refine Calls.mono (HIN.out _ HB7.out) ?_; rintro e w8 ⟨rfl, rfl⟩))
          go_ret
          exact ⟨rfl, HB6.out.trans (HB7.out.mono HB6.out.size)⟩
        | false =>
          go_wp2_with (first | (go_at_call 32; refine Calls.mono (HHA.out _ (Below.refl _ _)) ?_; rintro e w7 ⟨rfl, hb7⟩; have HB7 := Lib.hid hb7; clear hb7) | (go_at_call 46; refine Calls.mono (HIN.out _ HB7.out) ?_; rintro e w8 ⟨rfl, rfl⟩))
          go_ret
          exact ⟨rfl, HB6.out.trans (HB7.out.mono HB6.out.size)⟩

end Go.Proofs.Ytakadkhgcjndmaa.W
