/-
  A law of filters made of keys, as a walk over the contracts: with a key more.
-/
import Derived.Test.YtakadkhgcjndmaaY3
import Derived.Test.YtakadkhgcjndmaaDS6
import Derived.Test.YtakadkhgcjndmaaLE1
import Derived.Test.YtakadkhgcjndmaaLSMeetsHas
import Derived.Test.YtakadkhgcjndmaaLSB
import Derived.Test.YtakadkhgcjndmaaI4
import Derived.Deep.RegionHeld3
import Derived.BigQuiet
namespace Go.Proofs.Ytakadkhgcjndmaa.W
open Go.RowKit K

set_option maxHeartbeats 8000000 in
set_option maxRecDepth 100000 in
theorem lawSieveMore (w : World) (A : Option Addr) (n c : Nat) (hb0 : Bytes w w.heap.size A n) (hnc : n ≤ c) (hc : c ≤ maxLen) (A9 : Option Addr) (n9 c9 : Nat) (hb9 : Bytes w w.heap.size A9 n9) (hnc9 : n9 ≤ c9) (hc9 : c9 ≤ maxLen) :
    Calls Try.prog 19 #[.slice A n c, .slice A9 n9 c9] w fun e w' => e = .returned (.bool true) ∧ Below w.heap.size w w' := by
  by_cases hbig : (1048576 : Int) < (n : Int)
  · clear hb0 hb9
    go_enter Try.func19, Try.ntmps19
    go_wp2
    go_ret
    exact ⟨rfl, Below.refl _ _⟩
  · by_cases hbig2 : (1048576 : Int) < (n9 : Int)
    · clear hb0 hb9
      go_enter Try.func19, Try.ntmps19
      go_wp2
      go_ret
      exact ⟨rfl, Below.refl _ _⟩
    · have hd1 : decide ((1048576 : Int) < (n : Int)) = false := by simpa using hbig
      have hd2 : decide ((1048576 : Int) < (n9 : Int)) = false := by simpa using hbig2
      have HB9 := Lib.hid hb9
      clear hb9
      go_enter Try.func19, Try.ntmps19
      go_wp2_with fail
      go_at_call 28
      refine (drawOf w A n c hb0 hnc hc).mono ?_
      rintro e w1 ⟨A1, c1, l, keep, hl, hsh, hk1, hk2, rfl, ho1, hb1⟩
      have HF := Lib.hid hsh.fit
      have HB1 := Lib.hid hb1
      obtain ⟨hs1, hc1, hm1⟩ := ho1.strs
      have HS1 := Lib.hid hs1
      clear hb0 ho1 hb1 hs1 hsh
      go_wp2_with fail
      go_at_call 48
      refine (drawKey w1 A9 n9 c9 (bytes_up HB9.out HB1.out) hnc9 hc9).mono ?_
      rintro e w8 ⟨k, k9, hkk, hkk9, rfl, hb8⟩
      have HKK := Lib.hid hkk
      have hksz := isK_size hkk
      have HS8 := Lib.hid ((HS1.out.below hb8 (Nat.le_refl _)).more hb8.size)
      have HB8 := Lib.hid (HB1.out.trans (hb8.mono HB1.out.size))
      clear hkk hkk9 hb8 HS1 HB1
      obtain ⟨L, hL⟩ : ∃ x, x = svL l keep := ⟨_, rfl⟩
      obtain ⟨M_, hM⟩ : ∃ x, x = svM l keep := ⟨_, rfl⟩
      obtain ⟨F, hF⟩ : ∃ x, x = svF l keep := ⟨_, rfl⟩
      obtain ⟨R, hR⟩ : ∃ x, x = svR l keep := ⟨_, rfl⟩
      obtain ⟨K0, hK⟩ : ∃ x, x = svK l keep := ⟨_, rfl⟩
      obtain ⟨b, hb⟩ : ∃ x, x = svYes l keep := ⟨_, rfl⟩
      have HOS := Lib.hid (show ∀ (W : World) (A : Option Addr) (n c : Nat), Strs W W.heap.size A n l → n ≤ c → c ≤ maxLen → Calls Try.prog 29 #[.slice A n c, .int .i64 keep] W (OfF W L M_ F R K0 b) from fun W A n c h1 h2 h3 => (ofS W n c A l keep h1 h2 h3 HF.out).mono fun _ _ h => by rw [hL, hM, hF, hR, hK, hb]; exact of_fields h)
      have HOI := Lib.hid (show ∀ (W : World) (A : Option Addr) (n c : Nat), Strs W W.heap.size A n l → n ≤ c → c ≤ maxLen → Calls Try.prog 30 #[.slice A n c, .int .i64 keep] W (OfF W L M_ F R K0 b) from fun W A n c h1 h2 h3 => (ofI W n c A l keep h1 h2 h3 HF.out).mono fun _ _ h => by rw [hL, hM, hF, hR, hK, hb]; exact of_fields h)
      have HMD := Lib.hid (show b = true → ∃ kp : Nat, keep = kp ∧ Made L M_ F R K0 l kp from fun h => by
        rw [hb] at h
        rw [hL, hM, hF, hR, hK]
        obtain ⟨kp, e1, e2, e3⟩ := made_of h
        exact ⟨kp, e1, e3.keys, e3.le, e2, e3.eL, e3.eM, e3.eF, e3.eR⟩)
      have HSZ := Lib.hid (show (L.size ≤ 144 ∧ M_.size ≤ 144 ∧ F.size ≤ 144 ∧ (∀ s ∈ R, s.size ≤ 5) ∧ -1 ≤ K0 ∧ K0 ≤ 6) ∧ R.length ≤ 144 by rw [hL, hM, hF, hR, hK]; exact ⟨sv_small l keep, svR_len l keep⟩)
      clear hL hM hF hR hK hb
      go_wp2_with fail
      go_at_call 29
      refine Calls.mono (HOS.out _ A1 l.length c1 HS8.out hc1 hm1) ?_
      rintro e w2 ⟨A2, c2, rfl, ho2, hb2⟩
      have hsz2 := hb2.size
      have HB2 := Lib.hid (HB8.out.trans (hb2.mono HB8.out.size))
      have HS2 := Lib.hid ((HS8.out.below hb2 (Nat.le_refl _)).more hb2.size)
      have HR2 := Lib.hid ho2.strs.1
      clear ho2 hb2 HS8 HB8
      obtain ⟨W2, hW2⟩ : ∃ W2, W2 = w2.alloc (.cells #[.string L, .string M_, .string F, .slice A2 R.length c2, .int .i64 K0] 27) := ⟨_, rfl⟩
      have hbw2 : Below w2.heap.size w2 W2 := by rw [hW2]; exact (Below.refl _ _).alloc (Nat.le_refl _) _
      have HX2 := Lib.hid (show W2.heap[w2.heap.size]? = some (.cells #[.string L, .string M_, .string F, .slice A2 R.length c2, .int .i64 K0] 27 (0, 0)) by rw [hW2]; exact heap_alloc_new _ _)
      have hsW2 : W2.heap.size = w2.heap.size + 1 := by rw [hW2]; simp
      have HI := Lib.hid (HOI.out W2 A1 l.length c1 ((HS2.out.below hbw2 (Nat.le_refl _)).more hbw2.size) hc1 hm1)
      have HBW := Lib.hid (HB2.out.trans (hbw2.mono HB2.out.size))
      have HSW := Lib.hid ((HS2.out.below hbw2 (Nat.le_refl _)).more hbw2.size)
      have HRW := Lib.hid ((HR2.out.below hbw2 (Nat.le_refl _)).more hbw2.size)
      have HW2 := Lib.hid hW2
      rw [hW2] at HI
      clear hbw2 hW2 HS2 HR2 HB2
      go_wp2_with fail
      go_at_call 30
      refine HI.out.mono ?_
      rw [← HW2.out]
      rintro e w3 ⟨A3, c3, rfl, ho3, hb3⟩
      have hsz3 := hb3.size
      obtain ⟨W3, hW3⟩ : ∃ W3, W3 = w3.alloc (.cells #[.string L, .string M_, .string F, .slice A3 R.length c3, .int .i64 K0] 27) := ⟨_, rfl⟩
      have hbw3 : Below w3.heap.size w3 W3 := by rw [hW3]; exact (Below.refl _ _).alloc (Nat.le_refl _) _
      have hsW3 : W3.heap.size = w3.heap.size + 1 := by rw [hW3]; simp
      have hb23 : Below W2.heap.size W2 W3 := hb3.trans (hbw3.mono hsz3)
      have hx3 : W3.heap[w2.heap.size]? = some (.cells #[.string L, .string M_, .string F, .slice A2 R.length c2, .int .i64 K0] 27 (0, 0)) := by rw [hb23.block _ (by omega)]; exact HX2.out
      have hy3 : W3.heap[w3.heap.size]? = some (.cells #[.string L, .string M_, .string F, .slice A3 R.length c3, .int .i64 K0] 27 (0, 0)) := by rw [hW3]; exact heap_alloc_new _ _
      have HB3 := Lib.hid (HBW.out.trans (hb23.mono HBW.out.size))
      have HS3 := Lib.hid ((HSW.out.below hb23 (Nat.le_refl _)).more hb23.size)
      have HR3 := Lib.hid ((HRW.out.below hb23 (Nat.le_refl _)).more hb23.size)
      have hG := ho3.strs
      have HG3 := Lib.hid ((hG.1.below hbw3 (Nat.le_refl _)).more hbw3.size)
      have hc3 := hG.2.1
      have hm3 := hG.2.2
      have hRl : R.length ≤ 144 := HSZ.out.2
      have HFL := Lib.hid (show Flt W3 L M_ F A3 R.length c3 R from ⟨by have := HSZ.out.1.1; unfold maxLen; omega, by have := HSZ.out.1.2.1; unfold maxLen; omega, by have := HSZ.out.1.2.2.1; unfold maxLen; omega, HG3.out, hc3, hm3, fun i h => by have := HSZ.out.1.2.2.2.1 _ (List.getElem_mem h); omega⟩)
      have HLT := Lib.hid (show ∀ W, Below W3.heap.size W3 W → Calls Try.prog 31 #[.agg #[.string L, .string M_, .string F, .slice A3 R.length c3, .int .i64 K0], .agg #[.string L, .string M_, .string F, .slice A2 R.length c2, .int .i64 K0]] W fun e w' => e = .returned (.bool true) ∧ Below W3.heap.size W3 w' from fun W hW => by
        have h := ltSieveS L M_ F L M_ F A3 A2 R.length c3 R.length c2 R R K0 K0 W ((HG3.out.below hW (Nat.le_refl _)).more hW.size) ((HR3.out.below hW (Nat.le_refl _)).more hW.size) (by unfold maxLen; omega) (by unfold maxLen; omega)
        rw [sameSv_same] at h
        exact h.mono fun _ _ ⟨he, hb⟩ => ⟨he, hW.trans (hb.mono hW.size)⟩)
      have HX3 := Lib.hid hx3
      have HY3 := Lib.hid hy3
      have HW3 := Lib.hid hW3
      clear hx3 hy3 hb23 hbw3 ho3 hb3 hG hW3 HBW HSW HRW HX2
      have HBX := Lib.hid (show ∀ W, Below W3.heap.size W3 W → W.heap[w2.heap.size]? = some (.cells #[.string L, .string M_, .string F, .slice A2 R.length c2, .int .i64 K0] 27 (0, 0)) ∧ W.heap[w3.heap.size]? = some (.cells #[.string L, .string M_, .string F, .slice A3 R.length c3, .int .i64 K0] 27 (0, 0)) from fun W hW => ⟨by rw [hW.block _ (by omega)]; exact HX3.out, by rw [hW.block _ (by omega)]; exact HY3.out⟩)
      go_upto_region 7 with fail
      rw [← HW3.out]
      have p0 : W3.cell? ⟨w2.heap.size, 0, none⟩ = some (.string L) := by rw [cell_of_row _ _ _ _ _ _ HX3.out]; rfl
      have p1 : W3.cell? ⟨w2.heap.size, 1, none⟩ = some (.string M_) := by rw [cell_of_row _ _ _ _ _ _ HX3.out]; rfl
      have p2 : W3.cell? ⟨w2.heap.size, 2, none⟩ = some (.string F) := by rw [cell_of_row _ _ _ _ _ _ HX3.out]; rfl
      have p3 : W3.cell? ⟨w2.heap.size, 3, none⟩ = some (.slice A2 R.length c2) := by rw [cell_of_row _ _ _ _ _ _ HX3.out]; rfl
      have p4 : W3.cell? ⟨w2.heap.size, 4, none⟩ = some (.int .i64 K0) := by rw [cell_of_row _ _ _ _ _ _ HX3.out]; rfl
      have s0 : W3.cell? ⟨w3.heap.size, 0, none⟩ = some (.string L) := by rw [cell_of_row _ _ _ _ _ _ HY3.out]; rfl
      have s1 : W3.cell? ⟨w3.heap.size, 1, none⟩ = some (.string M_) := by rw [cell_of_row _ _ _ _ _ _ HY3.out]; rfl
      have s2 : W3.cell? ⟨w3.heap.size, 2, none⟩ = some (.string F) := by rw [cell_of_row _ _ _ _ _ _ HY3.out]; rfl
      have s3 : W3.cell? ⟨w3.heap.size, 3, none⟩ = some (.slice A3 R.length c3) := by rw [cell_of_row _ _ _ _ _ _ HY3.out]; rfl
      have s4 : W3.cell? ⟨w3.heap.size, 4, none⟩ = some (.int .i64 K0) := by rw [cell_of_row _ _ _ _ _ _ HY3.out]; rfl
      cases b with
      | false =>
        go_wp2_with (go_at_call 31; refine Calls.mono (HLT.out _ (by first | exact Below.refl _ _ | exact HB5.out)) ?_; rintro e w5 ⟨rfl, hb5⟩; have HB5 := Lib.hid hb5; have p50 : w5.cell? ⟨w2.heap.size, 0, none⟩ = some (.string L) := (by rw [cell_of_row _ _ _ _ _ _ (HBX.out w5 hb5).1]; rfl); have p51 : w5.cell? ⟨w2.heap.size, 1, none⟩ = some (.string M_) := (by rw [cell_of_row _ _ _ _ _ _ (HBX.out w5 hb5).1]; rfl); have p52 : w5.cell? ⟨w2.heap.size, 2, none⟩ = some (.string F) := (by rw [cell_of_row _ _ _ _ _ _ (HBX.out w5 hb5).1]; rfl); have p53 : w5.cell? ⟨w2.heap.size, 3, none⟩ = some (.slice A2 R.length c2) := (by rw [cell_of_row _ _ _ _ _ _ (HBX.out w5 hb5).1]; rfl); have p54 : w5.cell? ⟨w2.heap.size, 4, none⟩ = some (.int .i64 K0) := (by rw [cell_of_row _ _ _ _ _ _ (HBX.out w5 hb5).1]; rfl); have s50 : w5.cell? ⟨w3.heap.size, 0, none⟩ = some (.string L) := (by rw [cell_of_row _ _ _ _ _ _ (HBX.out w5 hb5).2]; rfl); have s51 : w5.cell? ⟨w3.heap.size, 1, none⟩ = some (.string M_) := (by rw [cell_of_row _ _ _ _ _ _ (HBX.out w5 hb5).2]; rfl); have s52 : w5.cell? ⟨w3.heap.size, 2, none⟩ = some (.string F) := (by rw [cell_of_row _ _ _ _ _ _ (HBX.out w5 hb5).2]; rfl); have s53 : w5.cell? ⟨w3.heap.size, 3, none⟩ = some (.slice A3 R.length c3) := (by rw [cell_of_row _ _ _ _ _ _ (HBX.out w5 hb5).2]; rfl); have s54 : w5.cell? ⟨w3.heap.size, 4, none⟩ = some (.int .i64 K0) := (by rw [cell_of_row _ _ _ _ _ _ (HBX.out w5 hb5).2]; rfl); clear hb5)
        go_ret
        exact ⟨rfl, HB3.out.trans (HB5.out.mono HB3.out.size)⟩
      | true =>
        obtain ⟨kp, hke, hmd⟩ := HMD.out rfl
        have HME := Lib.hid hmd
        have HKE := Lib.hid hke
        have hl24 : l.length ≤ 24 := (keys_iff.mp hmd.keys).1
        clear hke hmd
        obtain ⟨l5, hl5⟩ : ∃ x, x = sort (l ++ [k]) := ⟨_, rfl⟩
        have HKF := Lib.hid (show Fit ([] ++ l ++ [k]) from Own.fit2 (Own.fit2 Fit.nil HF.out) (fun s hs => by rw [List.mem_singleton.mp hs]; unfold maxLen; omega))
        have HF5 := Lib.hid (show Fit l5 by rw [hl5]; intro s hs; exact HKF.out s (by simpa using (mem_sort.mp hs).1))
        have HIN := Lib.hid (show ∀ x, x ∈ l ∨ x = k → x ∈ l5 from fun x hx => by
          rw [hl5]
          refine mem_sort.mpr ⟨?_, ?_⟩
          · rcases hx with h | h
            · exact List.mem_append.mpr (.inl h)
            · exact List.mem_append.mpr (.inr (List.mem_singleton.mpr h))
          · rcases hx with h | h
            · exact HME.out.keyOf h
            · rw [h]; exact HKK.out)
        obtain ⟨L5, hL5⟩ : ∃ x, x = svL l5 keep := ⟨_, rfl⟩
        obtain ⟨M5, hM5⟩ : ∃ x, x = svM l5 keep := ⟨_, rfl⟩
        obtain ⟨F5, hF5⟩ : ∃ x, x = svF l5 keep := ⟨_, rfl⟩
        obtain ⟨R5, hR5⟩ : ∃ x, x = svR l5 keep := ⟨_, rfl⟩
        obtain ⟨K5, hK5⟩ : ∃ x, x = svK l5 keep := ⟨_, rfl⟩
        obtain ⟨b5, hb5⟩ : ∃ x, x = svYes l5 keep := ⟨_, rfl⟩
        have HO5 := Lib.hid (show ∀ (W : World) (A : Option Addr) (n c : Nat), Strs W W.heap.size A n l5 → n ≤ c → c ≤ maxLen → Calls Try.prog 30 #[.slice A n c, .int .i64 keep] W (OfF W L5 M5 F5 R5 K5 b5) from fun W A n c h1 h2 h3 => (ofI W n c A l5 keep h1 h2 h3 HF5.out).mono fun _ _ h => by have h' := of_fields h; rw [hL5, hM5, hF5, hR5, hK5, hb5]; exact h')
        have HS5 := Lib.hid (show L5.size ≤ 144 ∧ M5.size ≤ 144 ∧ F5.size ≤ 144 ∧ (∀ s ∈ R5, s.size ≤ 5) ∧ -1 ≤ K5 ∧ K5 ≤ 6 by rw [hL5, hM5, hF5, hR5, hK5]; exact sv_small l5 keep)
        have hrl : R5.length ≤ 144 := by rw [hR5]; exact svR_len l5 keep
        have HLE := Lib.hid (show b5 = true → hasO L5 M5 F5 R5 K5 k = true ∧ L.size ≤ L5.size ∧ svB L5 M5 F5 R5 K5 = true from fun h1 => by
          rw [hb5] at h1
          obtain ⟨k5, e1, e2, e3⟩ := made_of h1
          rw [← hL5, ← hM5, ← hF5, ← hR5] at e3
          have e4 : K5 = keep := by rw [hK5, e2, e1]
          rw [e4]
          exact ⟨e3.never (HIN.out k (.inr rfl)), HME.out.size_more e3 (fun x hx => HIN.out x (.inl hx)), e3.sv⟩)
        have HL5 := Lib.hid hl5
        clear hL5 hM5 hF5 hR5 hK5 hb5 hl5
        go_upto_region 9 with (go_at_call 31; refine Calls.mono (HLT.out _ (by first | exact Below.refl _ _ | exact HB5.out)) ?_; rintro e w5 ⟨rfl, hb5⟩; have HB5 := Lib.hid hb5; have p50 : w5.cell? ⟨w2.heap.size, 0, none⟩ = some (.string L) := (by rw [cell_of_row _ _ _ _ _ _ (HBX.out w5 hb5).1]; rfl); have p51 : w5.cell? ⟨w2.heap.size, 1, none⟩ = some (.string M_) := (by rw [cell_of_row _ _ _ _ _ _ (HBX.out w5 hb5).1]; rfl); have p52 : w5.cell? ⟨w2.heap.size, 2, none⟩ = some (.string F) := (by rw [cell_of_row _ _ _ _ _ _ (HBX.out w5 hb5).1]; rfl); have p53 : w5.cell? ⟨w2.heap.size, 3, none⟩ = some (.slice A2 R.length c2) := (by rw [cell_of_row _ _ _ _ _ _ (HBX.out w5 hb5).1]; rfl); have p54 : w5.cell? ⟨w2.heap.size, 4, none⟩ = some (.int .i64 K0) := (by rw [cell_of_row _ _ _ _ _ _ (HBX.out w5 hb5).1]; rfl); have s50 : w5.cell? ⟨w3.heap.size, 0, none⟩ = some (.string L) := (by rw [cell_of_row _ _ _ _ _ _ (HBX.out w5 hb5).2]; rfl); have s51 : w5.cell? ⟨w3.heap.size, 1, none⟩ = some (.string M_) := (by rw [cell_of_row _ _ _ _ _ _ (HBX.out w5 hb5).2]; rfl); have s52 : w5.cell? ⟨w3.heap.size, 2, none⟩ = some (.string F) := (by rw [cell_of_row _ _ _ _ _ _ (HBX.out w5 hb5).2]; rfl); have s53 : w5.cell? ⟨w3.heap.size, 3, none⟩ = some (.slice A3 R.length c3) := (by rw [cell_of_row _ _ _ _ _ _ (HBX.out w5 hb5).2]; rfl); have s54 : w5.cell? ⟨w3.heap.size, 4, none⟩ = some (.int .i64 K0) := (by rw [cell_of_row _ _ _ _ _ _ (HBX.out w5 hb5).2]; rfl); clear hb5)
        have SK5 := Lib.hid ((HS3.out.below HB5.out (Nat.le_refl _)).more HB5.out.size)
        have E5 := Lib.hid (Own.empty w5 w5.heap.size (Nat.le_refl _))
        have G5 := Lib.hid ((Below.refl w5.heap.size w5).alloc (Nat.le_refl _) (.cells #[] 9))
        go_wp2_with (first | (at_builtin; refine app_own rfl (.tmp 67) (.tmp 68) rfl _ w5.heap.size _ [] rfl E5.out w5.heap.size l.length c1 A1 l rfl (SK5.out.below G5.out (Nat.le_refl _)) (by simp; omega) (by simp) ?_; intro va wa oa ga; have OA := Lib.hid oa; have BA := Lib.hid (Below.app G5.out E5.out (Nat.le_refl _) ga (by simp)); clear oa ga) | (at_builtin; refine app_own rfl (.tmp 69) (.tmp 71) rfl _ w5.heap.size _ ([] ++ l) rfl (OA.out.alloc _) (wa.heap.size + 1) 1 1 _ [k] rfl (one_strs wa k) (by simp; omega) (by have := BA.out.size; simp; omega) ?_; intro vb wb ob gb; have OB := Lib.hid ob; have BB := Lib.hid (Below.app (BA.out.alloc BA.out.size _) (OA.out.alloc _) (Nat.le_refl _) gb (by have := BA.out.size; simp; omega)); clear ob gb; obtain ⟨Ab, cb, hvb, hcb, hmb, sb⟩ := OB.out.parts; subst hvb; have SB := Lib.hid sb; clear sb) | (go_at_call 57; fail))
        go_at_call 57
        (with_reducible refine (sortI wb wb.heap.size (l.length + 1) cb Ab ([] ++ l ++ [k]) (SB.out.size_is (by simp)) (Nat.le_refl _) (by omega) HKF.out).mono ?_)
        rw [List.nil_append, ← HL5.out]
        rintro e wk ⟨vk, rfl, ok, bk⟩
        obtain ⟨AX, cX, hvk, hcX, hmX, sX⟩ := ok.parts
        subst hvk
        have SX := Lib.hid sX
        have B5k := Lib.hid (BB.out.trans (bk.mono BB.out.size))
        clear ok bk sX OA BA OB BB SB E5 G5
        go_wp2_with fail
        go_at_call 30
        refine Calls.mono (HO5.out wk AX l5.length cX SX.out hcX hmX) ?_
        rintro e w6 ⟨A6, c6, rfl, ho6, hb6k⟩
        have hb6 := B5k.out.trans (hb6k.mono B5k.out.size)
        clear hb6k
        obtain ⟨W6, hW6⟩ : ∃ W6, W6 = w6.alloc (.cells #[.string L5, .string M5, .string F5, .slice A6 R5.length c6, .int .i64 K5] 27) := ⟨_, rfl⟩
        have hbw : Below w6.heap.size w6 W6 := by rw [hW6]; exact (Below.refl _ _).alloc (Nat.le_refl _) _
        have HY6 := Lib.hid (show W6.heap[w6.heap.size]? = some (.cells #[.string L5, .string M5, .string F5, .slice A6 R5.length c6, .int .i64 K5] 27 (0, 0)) by rw [hW6]; exact heap_alloc_new _ _)
        obtain ⟨s6, hc6, hm6⟩ := (ho6.below hbw).strs
        have hb36 := HB5.out.trans (hb6.mono HB5.out.size)
        have hb37 := hb36.trans (hbw.mono hb36.size)
        have HFW := Lib.hid (show Flt W6 L5 M5 F5 A6 R5.length c6 R5 from ⟨by have := HS5.out.1; unfold maxLen; omega, by have := HS5.out.2.1; unfold maxLen; omega, by have := HS5.out.2.2.1; unfold maxLen; omega, s6, hc6, hm6, fun i h => by have := HS5.out.2.2.2.1 _ (List.getElem_mem h); omega⟩)
        have HFS := Lib.hid (HFL.out.up hb37)
        have HB6 := Lib.hid (HB3.out.trans (hb37.mono HB3.out.size))
        have HSK := Lib.hid ((HS3.out.below hb37 (Nat.le_refl _)).more hb37.size)
        have HBY := Lib.hid (show ∀ W, Below W6.heap.size W6 W → W.heap[w6.heap.size]? = some (.cells #[.string L5, .string M5, .string F5, .slice A6 R5.length c6, .int .i64 K5] 27 (0, 0)) ∧ W.heap[w3.heap.size]? = some (.cells #[.string L, .string M_, .string F, .slice A3 R.length c3, .int .i64 K0] 27 (0, 0)) from fun W hW => ⟨box_below HY6.out hW, (HBX.out W (hb37.trans (hW.mono hb37.size))).2⟩)
        have HW6 := Lib.hid hW6
        clear ho6 hb6 hbw hW6 s6 hb36 hb37
        go_upto_region 10 with fail
        rw [← HW6.out]
        have q0 : W6.cell? ⟨w6.heap.size, 0, none⟩ = some (.string L5) := by rw [cell_of_row _ _ _ _ _ _ HY6.out]; rfl
        have q1 : W6.cell? ⟨w6.heap.size, 1, none⟩ = some (.string M5) := by rw [cell_of_row _ _ _ _ _ _ HY6.out]; rfl
        have q2 : W6.cell? ⟨w6.heap.size, 2, none⟩ = some (.string F5) := by rw [cell_of_row _ _ _ _ _ _ HY6.out]; rfl
        have q3 : W6.cell? ⟨w6.heap.size, 3, none⟩ = some (.slice A6 R5.length c6) := by rw [cell_of_row _ _ _ _ _ _ HY6.out]; rfl
        have q4 : W6.cell? ⟨w6.heap.size, 4, none⟩ = some (.int .i64 K5) := by rw [cell_of_row _ _ _ _ _ _ HY6.out]; rfl
        have r0 : W6.cell? ⟨w3.heap.size, 0, none⟩ = some (.string L) := by rw [cell_of_row _ _ _ _ _ _ (HBY.out W6 (Below.refl _ _)).2]; rfl
        have r1 : W6.cell? ⟨w3.heap.size, 1, none⟩ = some (.string M_) := by rw [cell_of_row _ _ _ _ _ _ (HBY.out W6 (Below.refl _ _)).2]; rfl
        have r2 : W6.cell? ⟨w3.heap.size, 2, none⟩ = some (.string F) := by rw [cell_of_row _ _ _ _ _ _ (HBY.out W6 (Below.refl _ _)).2]; rfl
        have r3 : W6.cell? ⟨w3.heap.size, 3, none⟩ = some (.slice A3 R.length c3) := by rw [cell_of_row _ _ _ _ _ _ (HBY.out W6 (Below.refl _ _)).2]; rfl
        have r4 : W6.cell? ⟨w3.heap.size, 4, none⟩ = some (.int .i64 K0) := by rw [cell_of_row _ _ _ _ _ _ (HBY.out W6 (Below.refl _ _)).2]; rfl
        cases b5 with
        | false =>
          go_wp2_with fail
          go_quiet (fail)
          go_wp2
          go_ret
          exact ⟨rfl, HB6.out.trans (bel_to (Below.refl _ _) (by rfl) (by rfl) (by rfl) (by rfl) |>.mono HB6.out.size)⟩
        | true =>
          obtain ⟨g1, g2, g3⟩ := HLE.out rfl
          have HHA := Lib.hid (show From W6 32 #[.agg #[.string L5, .string M5, .string F5, .slice A6 R5.length c6, .int .i64 K5], .string k] (.bool true) by have h := HFW.out.has K5 k (by unfold maxLen; omega); rw [g1] at h; exact h)
          have HZX := Lib.hid (show ∀ (v : Value) (x : Nat), (v = .agg #[.string L5, .string M5, .string F5, .slice A6 R5.length c6, .int .i64 K5] ∧ x = L5.size ∨ v = .agg #[.string L, .string M_, .string F, .slice A3 R.length c3, .int .i64 K0] ∧ x = L.size) → From W6 47 #[v] (.int .i64 (x : Nat)) from fun v x hv => by
            rcases hv with ⟨rfl, rfl⟩ | ⟨rfl, rfl⟩
            · have h := HFW.out.size K5; unfold sizeO at h; rw [if_pos g3] at h; exact h
            · have h := HFS.out.size K0; unfold sizeO at h; rw [if_pos HME.out.sv] at h; exact h)
          have HSS := Lib.hid (show ∀ W, Below W6.heap.size W6 W → (fun W : World => W.cell? ⟨w6.heap.size, 0, none⟩ = some (.string L5) ∧ W.cell? ⟨w6.heap.size, 1, none⟩ = some (.string M5) ∧ W.cell? ⟨w6.heap.size, 2, none⟩ = some (.string F5) ∧ W.cell? ⟨w6.heap.size, 3, none⟩ = some (.slice A6 R5.length c6) ∧ W.cell? ⟨w6.heap.size, 4, none⟩ = some (.int .i64 K5) ∧ W.cell? ⟨w3.heap.size, 0, none⟩ = some (.string L) ∧ W.cell? ⟨w3.heap.size, 1, none⟩ = some (.string M_) ∧ W.cell? ⟨w3.heap.size, 2, none⟩ = some (.string F) ∧ W.cell? ⟨w3.heap.size, 3, none⟩ = some (.slice A3 R.length c3) ∧ W.cell? ⟨w3.heap.size, 4, none⟩ = some (.int .i64 K0)) W from fun W hW => by
            have h := HBY.out W hW
            refine ⟨?_, ?_, ?_, ?_, ?_, ?_, ?_, ?_, ?_, ?_⟩
            · rw [cell_of_row _ _ _ _ _ _ h.1]; rfl
            · rw [cell_of_row _ _ _ _ _ _ h.1]; rfl
            · rw [cell_of_row _ _ _ _ _ _ h.1]; rfl
            · rw [cell_of_row _ _ _ _ _ _ h.1]; rfl
            · rw [cell_of_row _ _ _ _ _ _ h.1]; rfl
            · rw [cell_of_row _ _ _ _ _ _ h.2]; rfl
            · rw [cell_of_row _ _ _ _ _ _ h.2]; rfl
            · rw [cell_of_row _ _ _ _ _ _ h.2]; rfl
            · rw [cell_of_row _ _ _ _ _ _ h.2]; rfl
            · rw [cell_of_row _ _ _ _ _ _ h.2]; rfl)
          have x2 : (L.size : Int) ≤ (L5.size : Int) := by omega
          clear g1 g2 g3
          go_wp2_with fail
          go_region_held3 (fun W : World => W.cell? ⟨w6.heap.size, 0, none⟩ = some (.string L5) ∧ W.cell? ⟨w6.heap.size, 1, none⟩ = some (.string M5) ∧ W.cell? ⟨w6.heap.size, 2, none⟩ = some (.string F5) ∧ W.cell? ⟨w6.heap.size, 3, none⟩ = some (.slice A6 R5.length c6) ∧ W.cell? ⟨w6.heap.size, 4, none⟩ = some (.int .i64 K5) ∧ W.cell? ⟨w3.heap.size, 0, none⟩ = some (.string L) ∧ W.cell? ⟨w3.heap.size, 1, none⟩ = some (.string M_) ∧ W.cell? ⟨w3.heap.size, 2, none⟩ = some (.string F) ∧ W.cell? ⟨w3.heap.size, 3, none⟩ = some (.slice A3 R.length c3) ∧ W.cell? ⟨w3.heap.size, 4, none⟩ = some (.int .i64 K0)) (exact HSS.out _ (by first | exact HB9.out | exact bel_to (Below.refl _ _) (by rfl) (by rfl) (by rfl) (by rfl))) (first | (go_at_call 32; refine Calls.mono (HHA.out _ (by first | exact HB9.out | exact bel_to (Below.refl _ _) (by rfl) (by rfl) (by rfl) (by rfl))) ?_; rintro e w9 ⟨rfl, hb9⟩; have HB9 := Lib.hid hb9; clear hb9) | (go_at_call 47; refine Calls.mono (HZX.out _ _ (by first | exact .inl ⟨rfl, rfl⟩ | exact .inr ⟨rfl, rfl⟩) _ (by first | exact HB9.out | exact bel_to (Below.refl _ _) (by rfl) (by rfl) (by rfl) (by rfl))) ?_; rintro e w9 ⟨rfl, hb9⟩; have HB9 := Lib.hid hb9; clear hb9))
          all_goals
            go_wp2
            go_ret
            exact ⟨rfl, HB6.out.trans (HB9.out.mono HB6.out.size)⟩

end Go.Proofs.Ytakadkhgcjndmaa.W
