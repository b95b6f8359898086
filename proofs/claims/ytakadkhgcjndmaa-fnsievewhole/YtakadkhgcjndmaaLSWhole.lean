/-
  A law of filters made of keys, as a walk over the contracts: if all letters are kept keys are.
-/
import Derived.Test.YtakadkhgcjndmaaY3
import Derived.Test.YtakadkhgcjndmaaDS6
import Derived.Test.YtakadkhgcjndmaaLE1
import Derived.Test.YtakadkhgcjndmaaLSMeetsHas
import Derived.Test.YtakadkhgcjndmaaLSB
import Derived.Deep.RegionHeld3
namespace Go.Proofs.Ytakadkhgcjndmaa.W
open Go.RowKit K

def dcbad : ByteArray := ⟨#[100, 99, 98, 97, 100]⟩

set_option maxHeartbeats 8000000 in
set_option maxRecDepth 100000 in
theorem lawSieveWhole (w : World) (A : Option Addr) (n c : Nat) (hb0 : Bytes w w.heap.size A n) (hnc : n ≤ c) (hc : c ≤ maxLen) :
    Calls Try.prog 9 #[.slice A n c] w fun e w' => e = .returned (.bool true) ∧ Below w.heap.size w w' := by
  by_cases hbig : (1048576 : Int) < (n : Int)
  · clear hb0
    go_enter Try.func9, Try.ntmps9
    go_wp2
    go_ret
    exact ⟨rfl, Below.refl _ _⟩
  · go_enter Try.func9, Try.ntmps9
    go_wp2_with fail
    go_at_call 28
    refine (drawOf w A n c hb0 hnc hc).mono ?_
    rintro e w1 ⟨A1, c1, l, keep, hl, hsh, hk1, hk2, rfl, ho1, hb1⟩
    have HF := Lib.hid hsh.fit
    have HB1 := Lib.hid hb1
    obtain ⟨hs1, hc1, hm1⟩ := ho1.strs
    have HS1 := Lib.hid hs1
    clear hb0 ho1 hb1 hs1 hsh
    obtain ⟨L, hL⟩ : ∃ x, x = svL l keep := ⟨_, rfl⟩
    obtain ⟨M_, hM⟩ : ∃ x, x = svM l keep := ⟨_, rfl⟩
    obtain ⟨F, hF⟩ : ∃ x, x = svF l keep := ⟨_, rfl⟩
    obtain ⟨R, hR⟩ : ∃ x, x = svR l keep := ⟨_, rfl⟩
    obtain ⟨K0, hK⟩ : ∃ x, x = svK l keep := ⟨_, rfl⟩
    obtain ⟨b, hb⟩ : ∃ x, x = svYes l keep := ⟨_, rfl⟩
    have HOS := Lib.hid (show ∀ (W : World) (A : Option Addr) (n c : Nat), Strs W W.heap.size A n l → n ≤ c → c ≤ maxLen → Calls Try.prog 29 #[.slice A n c, .int .i64 keep] W (OfF W L M_ F R K0 b) from fun W A n c h1 h2 h3 => (ofS W n c A l keep h1 h2 h3 HF.out).mono fun _ _ h => by rw [hL, hM, hF, hR, hK, hb]; exact of_fields h)
    have HOI := Lib.hid (show ∀ (W : World) (A : Option Addr) (n c : Nat), Strs W W.heap.size A n l → n ≤ c → c ≤ maxLen → Calls Try.prog 30 #[.slice A n c, .int .i64 keep] W (OfF W L M_ F R K0 b) from fun W A n c h1 h2 h3 => (ofI W n c A l keep h1 h2 h3 HF.out).mono fun _ _ h => by rw [hL, hM, hF, hR, hK, hb]; exact of_fields h)
    have HMD := Lib.hid (show b = true → ∃ kp : Nat, keep = kp ∧ Made L M_ F R K0 l kp from fun h => by
      rw [hb] at h
      rw [hL, hM, hF, hR, hK]
      obtain ⟨kp, e1, e2, e3⟩ := made_of h
      exact ⟨kp, e1, e3.keys, e3.le, e2, e3.eL, e3.eM, e3.eF, e3.eR⟩)
    have HSZ := Lib.hid (show (L.size ≤ 144 ∧ M_.size ≤ 144 ∧ F.size ≤ 144 ∧ (∀ s ∈ R, s.size ≤ 5) ∧ -1 ≤ K0 ∧ K0 ≤ 6) ∧ R.length ≤ 144 by rw [hL, hM, hF, hR, hK]; exact ⟨sv_small l keep, svR_len l keep⟩)
    clear hL hM hF hR hK hb
    go_wp2_with fail
    go_at_call 29
    refine Calls.mono (HOS.out _ A1 l.length c1 HS1.out hc1 hm1) ?_
    rintro e w2 ⟨A2, c2, rfl, ho2, hb2⟩
    have hsz2 := hb2.size
    have HB2 := Lib.hid (HB1.out.trans (hb2.mono HB1.out.size))
    have HS2 := Lib.hid ((HS1.out.below hb2 (Nat.le_refl _)).more hb2.size)
    have HR2 := Lib.hid ho2.strs.1
    clear ho2 hb2 HS1 HB1
    obtain ⟨W2, hW2⟩ : ∃ W2, W2 = w2.alloc (.cells #[.string L, .string M_, .string F, .slice A2 R.length c2, .int .i64 K0] 27) := ⟨_, rfl⟩
    have hbw2 : Below w2.heap.size w2 W2 := by rw [hW2]; exact (Below.refl _ _).alloc (Nat.le_refl _) _
    have HX2 := Lib.hid (show W2.heap[w2.heap.size]? = some (.cells #[.string L, .string M_, .string F, .slice A2 R.length c2, .int .i64 K0] 27 (0, 0)) by rw [hW2]; exact heap_alloc_new _ _)
    have hsW2 : W2.heap.size = w2.heap.size + 1 := by rw [hW2]; simp
    have HI := Lib.hid (HOI.out W2 A1 l.length c1 ((HS2.out.below hbw2 (Nat.le_refl _)).more hbw2.size) hc1 hm1)
    have HBW := Lib.hid (HB2.out.trans (hbw2.mono HB2.out.size))
    have HSW := Lib.hid ((HS2.out.below hbw2 (Nat.le_refl _)).more hbw2.size)
    have HRW := Lib.hid ((HR2.out.below hbw2 (Nat.le_refl _)).more hbw2.size)
    have HW2 := Lib.hid hW2
    rw [hW2] at HI
    clear hbw2 hW2 HS2 HR2 HB2
    go_wp2_with fail
    go_at_call 30
    refine HI.out.mono ?_
    rw [← HW2.out]
    rintro e w3 ⟨A3, c3, rfl, ho3, hb3⟩
    have hsz3 := hb3.size
    obtain ⟨W3, hW3⟩ : ∃ W3, W3 = w3.alloc (.cells #[.string L, .string M_, .string F, .slice A3 R.length c3, .int .i64 K0] 27) := ⟨_, rfl⟩
    have hbw3 : Below w3.heap.size w3 W3 := by rw [hW3]; exact (Below.refl _ _).alloc (Nat.le_refl _) _
    have hsW3 : W3.heap.size = w3.heap.size + 1 := by rw [hW3]; simp
    have hb23 : Below W2.heap.size W2 W3 := hb3.trans (hbw3.mono hsz3)
    have hx3 : W3.heap[w2.heap.size]? = some (.cells #[.string L, .string M_, .string F, .slice A2 R.length c2, .int .i64 K0] 27 (0, 0)) := by rw [hb23.block _ (by omega)]; exact HX2.out
    have hy3 : W3.heap[w3.heap.size]? = some (.cells #[.string L, .string M_, .string F, .slice A3 R.length c3, .int .i64 K0] 27 (0, 0)) := by rw [hW3]; exact heap_alloc_new _ _
    have HB3 := Lib.hid (HBW.out.trans (hb23.mono HBW.out.size))
    have HS3 := Lib.hid ((HSW.out.below hb23 (Nat.le_refl _)).more hb23.size)
    have HR3 := Lib.hid ((HRW.out.below hb23 (Nat.le_refl _)).more hb23.size)
    have hG := ho3.strs
    have HG3 := Lib.hid ((hG.1.below hbw3 (Nat.le_refl _)).more hbw3.size)
    have hc3 := hG.2.1
    have hm3 := hG.2.2
    have hRl : R.length ≤ 144 := HSZ.out.2
    have HFL := Lib.hid (show Flt W3 L M_ F A3 R.length c3 R from ⟨by have := HSZ.out.1.1; unfold maxLen; omega, by have := HSZ.out.1.2.1; unfold maxLen; omega, by have := HSZ.out.1.2.2.1; unfold maxLen; omega, HG3.out, hc3, hm3, fun i h => by have := HSZ.out.1.2.2.2.1 _ (List.getElem_mem h); omega⟩)
    have HLT := Lib.hid (show ∀ W, Below W3.heap.size W3 W → Calls Try.prog 31 #[.agg #[.string L, .string M_, .string F, .slice A3 R.length c3, .int .i64 K0], .agg #[.string L, .string M_, .string F, .slice A2 R.length c2, .int .i64 K0]] W fun e w' => e = .returned (.bool true) ∧ Below W3.heap.size W3 w' from fun W hW => by
      have h := ltSieveS L M_ F L M_ F A3 A2 R.length c3 R.length c2 R R K0 K0 W ((HG3.out.below hW (Nat.le_refl _)).more hW.size) ((HR3.out.below hW (Nat.le_refl _)).more hW.size) (by unfold maxLen; omega) (by unfold maxLen; omega)
      rw [sameSv_same] at h
      exact h.mono fun _ _ ⟨he, hb⟩ => ⟨he, hW.trans (hb.mono hW.size)⟩)
    have HX3 := Lib.hid hx3
    have HY3 := Lib.hid hy3
    have HW3 := Lib.hid hW3
    clear hx3 hy3 hb23 hbw3 ho3 hb3 hG hW3 HBW HSW HRW HX2
    have HBX := Lib.hid (show ∀ W, Below W3.heap.size W3 W → W.heap[w2.heap.size]? = some (.cells #[.string L, .string M_, .string F, .slice A2 R.length c2, .int .i64 K0] 27 (0, 0)) ∧ W.heap[w3.heap.size]? = some (.cells #[.string L, .string M_, .string F, .slice A3 R.length c3, .int .i64 K0] 27 (0, 0)) from fun W hW => ⟨by rw [hW.block _ (by omega)]; exact HX3.out, by rw [hW.block _ (by omega)]; exact HY3.out⟩)
    go_upto_region 6 with fail
    rw [← HW3.out]
    have p0 : W3.cell? ⟨w2.heap.size, 0, none⟩ = some (.string L) := by rw [cell_of_row _ _ _ _ _ _ HX3.out]; rfl
    have p1 : W3.cell? ⟨w2.heap.size, 1, none⟩ = some (.string M_) := by rw [cell_of_row _ _ _ _ _ _ HX3.out]; rfl
    have p2 : W3.cell? ⟨w2.heap.size, 2, none⟩ = some (.string F) := by rw [cell_of_row _ _ _ _ _ _ HX3.out]; rfl
    have p3 : W3.cell? ⟨w2.heap.size, 3, none⟩ = some (.slice A2 R.length c2) := by rw [cell_of_row _ _ _ _ _ _ HX3.out]; rfl
    have p4 : W3.cell? ⟨w2.heap.size, 4, none⟩ = some (.int .i64 K0) := by rw [cell_of_row _ _ _ _ _ _ HX3.out]; rfl
    have s0 : W3.cell? ⟨w3.heap.size, 0, none⟩ = some (.string L) := by rw [cell_of_row _ _ _ _ _ _ HY3.out]; rfl
    have s1 : W3.cell? ⟨w3.heap.size, 1, none⟩ = some (.string M_) := by rw [cell_of_row _ _ _ _ _ _ HY3.out]; rfl
    have s2 : W3.cell? ⟨w3.heap.size, 2, none⟩ = some (.string F) := by rw [cell_of_row _ _ _ _ _ _ HY3.out]; rfl
    have s3 : W3.cell? ⟨w3.heap.size, 3, none⟩ = some (.slice A3 R.length c3) := by rw [cell_of_row _ _ _ _ _ _ HY3.out]; rfl
    have s4 : W3.cell? ⟨w3.heap.size, 4, none⟩ = some (.int .i64 K0) := by rw [cell_of_row _ _ _ _ _ _ HY3.out]; rfl
    cases b with
    | false =>
      go_wp2_with (go_at_call 31; refine Calls.mono (HLT.out _ (by first | exact Below.refl _ _ | exact HB5.out)) ?_; rintro e w5 ⟨rfl, hb5⟩; have HB5 := Lib.hid hb5; have p50 : w5.cell? ⟨w2.heap.size, 0, none⟩ = some (.string L) := (by rw [cell_of_row _ _ _ _ _ _ (HBX.out w5 hb5).1]; rfl); have p51 : w5.cell? ⟨w2.heap.size, 1, none⟩ = some (.string M_) := (by rw [cell_of_row _ _ _ _ _ _ (HBX.out w5 hb5).1]; rfl); have p52 : w5.cell? ⟨w2.heap.size, 2, none⟩ = some (.string F) := (by rw [cell_of_row _ _ _ _ _ _ (HBX.out w5 hb5).1]; rfl); have p53 : w5.cell? ⟨w2.heap.size, 3, none⟩ = some (.slice A2 R.length c2) := (by rw [cell_of_row _ _ _ _ _ _ (HBX.out w5 hb5).1]; rfl); have p54 : w5.cell? ⟨w2.heap.size, 4, none⟩ = some (.int .i64 K0) := (by rw [cell_of_row _ _ _ _ _ _ (HBX.out w5 hb5).1]; rfl); have s50 : w5.cell? ⟨w3.heap.size, 0, none⟩ = some (.string L) := (by rw [cell_of_row _ _ _ _ _ _ (HBX.out w5 hb5).2]; rfl); have s51 : w5.cell? ⟨w3.heap.size, 1, none⟩ = some (.string M_) := (by rw [cell_of_row _ _ _ _ _ _ (HBX.out w5 hb5).2]; rfl); have s52 : w5.cell? ⟨w3.heap.size, 2, none⟩ = some (.string F) := (by rw [cell_of_row _ _ _ _ _ _ (HBX.out w5 hb5).2]; rfl); have s53 : w5.cell? ⟨w3.heap.size, 3, none⟩ = some (.slice A3 R.length c3) := (by rw [cell_of_row _ _ _ _ _ _ (HBX.out w5 hb5).2]; rfl); have s54 : w5.cell? ⟨w3.heap.size, 4, none⟩ = some (.int .i64 K0) := (by rw [cell_of_row _ _ _ _ _ _ (HBX.out w5 hb5).2]; rfl); clear hb5)
      go_ret
      exact ⟨rfl, HB3.out.trans (HB5.out.mono HB3.out.size)⟩
    | true =>
      obtain ⟨kp, hke, hmd⟩ := HMD.out rfl
      have HKL := Lib.hid hmd.keys
      have HME := Lib.hid hmd
      clear hke hmd
      have hy5 : svYes l 5 = true := by unfold svYes inB; rw [HKL.out]; rfl
      obtain ⟨k5, e1, e2, e3⟩ := made_of hy5
      have hk55 : k5 = 5 := by omega
      subst hk55
      have hsm := sv_small l 5
      have hrl := svR_len l 5
      obtain ⟨L5, hL5⟩ : ∃ x, x = svL l 5 := ⟨_, rfl⟩
      obtain ⟨M5, hM5⟩ : ∃ x, x = svM l 5 := ⟨_, rfl⟩
      obtain ⟨F5, hF5⟩ : ∃ x, x = svF l 5 := ⟨_, rfl⟩
      obtain ⟨R5, hR5⟩ : ∃ x, x = svR l 5 := ⟨_, rfl⟩
      obtain ⟨K5, hK5⟩ : ∃ x, x = svK l 5 := ⟨_, rfl⟩
      have HO5 := Lib.hid (show ∀ (W : World) (A : Option Addr) (n c : Nat), Strs W W.heap.size A n l → n ≤ c → c ≤ maxLen → Calls Try.prog 30 #[.slice A n c, .int .i64 5] W (OfF W L5 M5 F5 R5 K5 true) from fun W A n c h1 h2 h3 => (ofI W n c A l 5 h1 h2 h3 HF.out).mono fun _ _ h => by have h' := of_fields h; rw [hy5] at h'; rw [hL5, hM5, hF5, hR5, hK5]; exact h')
      rw [← hL5, ← hM5, ← hF5, ← hR5] at e3
      rw [← hK5] at e2
      rw [← hL5, ← hM5, ← hF5, ← hR5, ← hK5] at hsm
      rw [← hR5] at hrl
      have HM5 := Lib.hid (show Made L5 M5 F5 R5 5 l 5 from e3)
      have HK5 := Lib.hid (show K5 = 5 from e2)
      have HS5 := Lib.hid hsm
      clear hL5 hM5 hF5 hR5 hK5 e1 e2 e3 hsm hy5
      go_wp2_with (first | (go_at_call 31; refine Calls.mono (HLT.out _ (by first | exact Below.refl _ _ | exact HB5.out)) ?_; rintro e w5 ⟨rfl, hb5⟩; have HB5 := Lib.hid hb5; have p50 : w5.cell? ⟨w2.heap.size, 0, none⟩ = some (.string L) := (by rw [cell_of_row _ _ _ _ _ _ (HBX.out w5 hb5).1]; rfl); have p51 : w5.cell? ⟨w2.heap.size, 1, none⟩ = some (.string M_) := (by rw [cell_of_row _ _ _ _ _ _ (HBX.out w5 hb5).1]; rfl); have p52 : w5.cell? ⟨w2.heap.size, 2, none⟩ = some (.string F) := (by rw [cell_of_row _ _ _ _ _ _ (HBX.out w5 hb5).1]; rfl); have p53 : w5.cell? ⟨w2.heap.size, 3, none⟩ = some (.slice A2 R.length c2) := (by rw [cell_of_row _ _ _ _ _ _ (HBX.out w5 hb5).1]; rfl); have p54 : w5.cell? ⟨w2.heap.size, 4, none⟩ = some (.int .i64 K0) := (by rw [cell_of_row _ _ _ _ _ _ (HBX.out w5 hb5).1]; rfl); have s50 : w5.cell? ⟨w3.heap.size, 0, none⟩ = some (.string L) := (by rw [cell_of_row _ _ _ _ _ _ (HBX.out w5 hb5).2]; rfl); have s51 : w5.cell? ⟨w3.heap.size, 1, none⟩ = some (.string M_) := (by rw [cell_of_row _ _ _ _ _ _ (HBX.out w5 hb5).2]; rfl); have s52 : w5.cell? ⟨w3.heap.size, 2, none⟩ = some (.string F) := (by rw [cell_of_row _ _ _ _ _ _ (HBX.out w5 hb5).2]; rfl); have s53 : w5.cell? ⟨w3.heap.size, 3, none⟩ = some (.slice A3 R.length c3) := (by rw [cell_of_row _ _ _ _ _ _ (HBX.out w5 hb5).2]; rfl); have s54 : w5.cell? ⟨w3.heap.size, 4, none⟩ = some (.int .i64 K0) := (by rw [cell_of_row _ _ _ _ _ _ (HBX.out w5 hb5).2]; rfl); clear hb5) | (go_at_call 30; fail))
      go_at_call 30
      refine Calls.mono (HO5.out w5 A1 l.length c1 ((HS3.out.below HB5.out (Nat.le_refl _)).more HB5.out.size) hc1 hm1) ?_
      rintro e w6 ⟨A6, c6, rfl, ho6, hb6⟩
      obtain ⟨W6, hW6⟩ : ∃ W6, W6 = w6.alloc (.cells #[.string L5, .string M5, .string F5, .slice A6 R5.length c6, .int .i64 K5] 27) := ⟨_, rfl⟩
      have hbw : Below w6.heap.size w6 W6 := by rw [hW6]; exact (Below.refl _ _).alloc (Nat.le_refl _) _
      have HY6 := Lib.hid (show W6.heap[w6.heap.size]? = some (.cells #[.string L5, .string M5, .string F5, .slice A6 R5.length c6, .int .i64 K5] 27 (0, 0)) by rw [hW6]; exact heap_alloc_new _ _)
      obtain ⟨s6, hc6, hm6⟩ := (ho6.below hbw).strs
      have hb36 := HB5.out.trans (hb6.mono HB5.out.size)
      have hb37 := hb36.trans (hbw.mono hb36.size)
      have HFW := Lib.hid (show Flt W6 L5 M5 F5 A6 R5.length c6 R5 from ⟨by have := HS5.out.1; unfold maxLen; omega, by have := HS5.out.2.1; unfold maxLen; omega, by have := HS5.out.2.2.1; unfold maxLen; omega, s6, hc6, hm6, fun i h => by have := HS5.out.2.2.2.1 _ (List.getElem_mem h); omega⟩)
      have HFS := Lib.hid (HFL.out.up hb37)
      have HB6 := Lib.hid (HB3.out.trans (hb37.mono HB3.out.size))
      have HSK := Lib.hid ((HS3.out.below hb37 (Nat.le_refl _)).more hb37.size)
      have HBY := Lib.hid (show ∀ W, Below W6.heap.size W6 W → W.heap[w6.heap.size]? = some (.cells #[.string L5, .string M5, .string F5, .slice A6 R5.length c6, .int .i64 K5] 27 (0, 0)) ∧ W.heap[w3.heap.size]? = some (.cells #[.string L, .string M_, .string F, .slice A3 R.length c3, .int .i64 K0] 27 (0, 0)) from fun W hW => ⟨box_below HY6.out hW, (HBX.out W (hb37.trans (hW.mono hb37.size))).2⟩)
      have HW6 := Lib.hid hW6
      clear ho6 hb6 hbw hW6 s6 hb36 hb37
      have HHD := Lib.hid (show ∀ W, Below W6.heap.size W6 W → Calls Try.prog 34 #[.agg #[.string L5, .string M5, .string F5, .slice A6 R5.length c6, .int .i64 K5]] W (NewF W6 l) from fun W hW => by have h := HFW.out.heads K5 W hW; have hsv := HM5.out.sv; rw [HK5.out] at h ⊢; rw [show (5 : Int) = ((5 : Nat) : Int) from rfl] at h hsv; rw [headsO_yes hsv, HM5.out.whole] at h; exact h)
      go_upto_region 9 with fail
      rw [← HW6.out]
      have q0 : W6.cell? ⟨w6.heap.size, 0, none⟩ = some (.string L5) := by rw [cell_of_row _ _ _ _ _ _ HY6.out]; rfl
      have q1 : W6.cell? ⟨w6.heap.size, 1, none⟩ = some (.string M5) := by rw [cell_of_row _ _ _ _ _ _ HY6.out]; rfl
      have q2 : W6.cell? ⟨w6.heap.size, 2, none⟩ = some (.string F5) := by rw [cell_of_row _ _ _ _ _ _ HY6.out]; rfl
      have q3 : W6.cell? ⟨w6.heap.size, 3, none⟩ = some (.slice A6 R5.length c6) := by rw [cell_of_row _ _ _ _ _ _ HY6.out]; rfl
      have q4 : W6.cell? ⟨w6.heap.size, 4, none⟩ = some (.int .i64 K5) := by rw [cell_of_row _ _ _ _ _ _ HY6.out]; rfl
      go_wp2_with fail
      go_at_call 34
      refine Calls.mono (HHD.out _ (Below.refl _ _)) ?_
      rintro e w7 ⟨A7, c7, rfl, hs7, hn7, hm7, hb7⟩
      have HW7 := Lib.hid (HFW.out.up hb7)
      have HV7 := Lib.hid (HFS.out.up hb7)
      have HS7 := Lib.hid hs7
      have HK7 := Lib.hid ((HSK.out.below hb7 (Nat.le_refl _)).more hb7.size)
      have HB7 := Lib.hid (HB6.out.trans (hb7.mono HB6.out.size))
      have HSM := Lib.hid (show ∀ W, Below w7.heap.size w7 W → Calls Try.prog 37 #[.slice A7 l.length c7, .slice A1 l.length c1] W fun e w' => e = .returned (.bool true) ∧ Below w7.heap.size w7 w' from fun W hW => by
        have h := samesL W W.heap.size l.length c7 l.length c1 A7 A1 l l ((HS7.out.below hW (Nat.le_refl _)).more hW.size) ((HK7.out.below hW (Nat.le_refl _)).more hW.size) (by omega) (by omega)
        rw [sameL_self] at h
        exact h.mono fun _ _ ⟨he, hb⟩ => ⟨he, hW.trans (hb.below _)⟩)
      obtain ⟨z, hz⟩ : ∃ z, z = inL l dcbad := ⟨_, rfl⟩
      have HHA := Lib.hid (show From w7 32 #[.agg #[.string L5, .string M5, .string F5, .slice A6 R5.length c6, .int .i64 K5], .string dcbad] (.bool z) by have h := HW7.out.has K5 dcbad (by unfold maxLen; decide); rw [HK5.out] at h ⊢; rw [HM5.out.exact_ dcbad] at h; rw [hz]; exact h)
      have HIN := Lib.hid (show ∀ W, Below w7.heap.size w7 W → Calls Try.prog 46 #[.slice A1 l.length c1, .string dcbad] W fun e w' => e = .returned (.bool z) ∧ W = w' from fun W hW => by have h := inS_ W W.heap.size l.length c1 A1 l dcbad ((HK7.out.below hW (Nat.le_refl _)).more hW.size) (by omega); rw [hz]; exact h)
      have HZ := Lib.hid (show ∀ v, v = .agg #[.string L5, .string M5, .string F5, .slice A6 R5.length c6, .int .i64 K5] ∨ v = .agg #[.string L, .string M_, .string F, .slice A3 R.length c3, .int .i64 K0] → From w7 47 #[v] (.int .i64 (L.size : Nat)) from fun v hv => by
        rcases hv with rfl | rfl
        · have h := HW7.out.size K5; have hsv := HM5.out.sv; rw [HK5.out] at h ⊢; unfold sizeO at h; rw [if_pos hsv, ← HME.out.size_same HM5.out] at h; exact h
        · have h := HV7.out.size K0; unfold sizeO at h; rw [if_pos HME.out.sv] at h; exact h)
      have HSS := Lib.hid (show ∀ W, Below w7.heap.size w7 W → (fun W : World => W.cell? ⟨w6.heap.size, 0, none⟩ = some (.string L5) ∧ W.cell? ⟨w6.heap.size, 1, none⟩ = some (.string M5) ∧ W.cell? ⟨w6.heap.size, 2, none⟩ = some (.string F5) ∧ W.cell? ⟨w6.heap.size, 3, none⟩ = some (.slice A6 R5.length c6) ∧ W.cell? ⟨w6.heap.size, 4, none⟩ = some (.int .i64 K5) ∧ W.cell? ⟨w3.heap.size, 0, none⟩ = some (.string L) ∧ W.cell? ⟨w3.heap.size, 1, none⟩ = some (.string M_) ∧ W.cell? ⟨w3.heap.size, 2, none⟩ = some (.string F) ∧ W.cell? ⟨w3.heap.size, 3, none⟩ = some (.slice A3 R.length c3) ∧ W.cell? ⟨w3.heap.size, 4, none⟩ = some (.int .i64 K0)) W from fun W hW => by
        have h := HBY.out W (hb7.trans (hW.mono hb7.size))
        refine ⟨?_, ?_, ?_, ?_, ?_, ?_, ?_, ?_, ?_, ?_⟩
        · rw [cell_of_row _ _ _ _ _ _ h.1]; rfl
        · rw [cell_of_row _ _ _ _ _ _ h.1]; rfl
        · rw [cell_of_row _ _ _ _ _ _ h.1]; rfl
        · rw [cell_of_row _ _ _ _ _ _ h.1]; rfl
        · rw [cell_of_row _ _ _ _ _ _ h.1]; rfl
        · rw [cell_of_row _ _ _ _ _ _ h.2]; rfl
        · rw [cell_of_row _ _ _ _ _ _ h.2]; rfl
        · rw [cell_of_row _ _ _ _ _ _ h.2]; rfl
        · rw [cell_of_row _ _ _ _ _ _ h.2]; rfl
        · rw [cell_of_row _ _ _ _ _ _ h.2]; rfl)
      clear hz hb7 hs7
      cases z with
      | true =>
        go_wp2_with fail
        go_region_held3 (fun W : World => W.cell? ⟨w6.heap.size, 0, none⟩ = some (.string L5) ∧ W.cell? ⟨w6.heap.size, 1, none⟩ = some (.string M5) ∧ W.cell? ⟨w6.heap.size, 2, none⟩ = some (.string F5) ∧ W.cell? ⟨w6.heap.size, 3, none⟩ = some (.slice A6 R5.length c6) ∧ W.cell? ⟨w6.heap.size, 4, none⟩ = some (.int .i64 K5) ∧ W.cell? ⟨w3.heap.size, 0, none⟩ = some (.string L) ∧ W.cell? ⟨w3.heap.size, 1, none⟩ = some (.string M_) ∧ W.cell? ⟨w3.heap.size, 2, none⟩ = some (.string F) ∧ W.cell? ⟨w3.heap.size, 3, none⟩ = some (.slice A3 R.length c3) ∧ W.cell? ⟨w3.heap.size, 4, none⟩ = some (.int .i64 K0)) (exact HSS.out _ (by first | exact HB9.out | exact bel_to (Below.refl _ _) (by rfl) (by rfl) (by rfl) (by rfl))) (first | (go_at_call 37; refine Calls.mono (HSM.out _ (by first | exact HB9.out | exact bel_to (Below.refl _ _) (by rfl) (by rfl) (by rfl) (by rfl))) ?_; rintro e w9 ⟨rfl, hb9⟩; have HB9 := Lib.hid hb9; clear hb9) | (go_at_call 32; refine Calls.mono (HHA.out _ (by first | exact HB9.out | exact bel_to (Below.refl _ _) (by rfl) (by rfl) (by rfl) (by rfl))) ?_; rintro e w9 ⟨rfl, hb9⟩; have HB9 := Lib.hid hb9; clear hb9) | (go_at_call 46; refine Calls.mono (HIN.out _ (by first | exact HB9.out | exact bel_to (Below.refl _ _) (by rfl) (by rfl) (by rfl) (by rfl))) ?_; rintro e w8 ⟨rfl, rfl⟩) | (go_at_call 47; refine Calls.mono (HZ.out _ (by first | exact .inl rfl | exact .inr rfl) _ (by first | exact HB9.out | exact bel_to (Below.refl _ _) (by rfl) (by rfl) (by rfl) (by rfl))) ?_; rintro e w9 ⟨rfl, hb9⟩; have HB9 := Lib.hid hb9; clear hb9))
        all_goals
          go_wp2
          go_ret
          exact ⟨rfl, HB7.out.trans (HB9.out.mono HB7.out.size)⟩
      | false =>
        go_wp2_with fail
        refine wp_region_held_drew (S := (fun W : World => W.cell? ⟨w6.heap.size, 0, none⟩ = some (.string L5) ∧ W.cell? ⟨w6.heap.size, 1, none⟩ = some (.string M5) ∧ W.cell? ⟨w6.heap.size, 2, none⟩ = some (.string F5) ∧ W.cell? ⟨w6.heap.size, 3, none⟩ = some (.slice A6 R5.length c6) ∧ W.cell? ⟨w6.heap.size, 4, none⟩ = some (.int .i64 K5) ∧ W.cell? ⟨w3.heap.size, 0, none⟩ = some (.string L) ∧ W.cell? ⟨w3.heap.size, 1, none⟩ = some (.string M_) ∧ W.cell? ⟨w3.heap.size, 2, none⟩ = some (.string F) ∧ W.cell? ⟨w3.heap.size, 3, none⟩ = some (.slice A3 R.length c3) ∧ W.cell? ⟨w3.heap.size, 4, none⟩ = some (.int .i64 K0))) (by kernel_rfl) (HSS.out _ (by first | exact HB9.out | exact bel_to (Below.refl _ _) (by rfl) (by rfl) (by rfl) (by rfl))) (fun hHeld => ?_)
        refine wpAnyH_take (i := 0) (oi := { dst := Option.some 60, op := Go.Op.move (Go.Operand.tmp 10), type := 4, pos := "laws.go:338", after := #[], guard := Option.none }) (v := ?v1) rfl (by kernel_rfl) (by kernel_rfl) (by kernel_rfl) (fun _ _ _ h => h) (Or.inl ⟨by rfl, ?hy1⟩) (by assumption) ?rest1
        case hy1 =>
          intro w9 hSw
          clear hSw
          go_simp
          first | done | with_reducible rfl
        (try simp only [Act.put]); (try simp only [List.setIfInBounds_toArray]); (try simp only [List.set_cons_succ]); (try simp only [List.set_cons_zero])
        refine wpAnyH_take (i := 1) (oi := { dst := Option.some 61, op := Go.Op.move (Go.Operand.tmp 60), type := 4, pos := "laws.go:338", after := #[{ on := 0, ground := Go.Ground.data }], guard := Option.none }) (v := ?v2) rfl (by kernel_rfl) (by kernel_rfl) (by kernel_rfl) (fun _ _ _ h => h) (Or.inl ⟨by rfl, ?hy2⟩) (by assumption) ?rest2
        case hy2 =>
          intro w9 hSw
          clear hSw
          go_simp
          first | done | with_reducible rfl
        (try simp only [Act.put]); (try simp only [List.setIfInBounds_toArray]); (try simp only [List.set_cons_succ]); (try simp only [List.set_cons_zero])
        refine wpAnyH_take (i := 2) (oi := { dst := Option.some 62, op := Go.Op.move (Go.Operand.tmp 11), type := 23, pos := "laws.go:338", after := #[{ on := 1, ground := Go.Ground.guard }], guard := Option.some (1, Bool.true) }) (v := ?v3) rfl (by kernel_rfl) (by kernel_rfl) (by kernel_rfl) (fun _ _ _ h => h) (Or.inl ⟨by rfl, ?hy3⟩) (by assumption) ?rest3
        case hy3 =>
          intro w9 hSw
          clear hSw
          go_simp
          first | done | with_reducible rfl
        (try simp only [Act.put]); (try simp only [List.setIfInBounds_toArray]); (try simp only [List.set_cons_succ]); (try simp only [List.set_cons_zero])
        refine wpAnyH_take (i := 3) (oi := { dst := Option.some 63, op := Go.Op.move (Go.Operand.tmp 3), type := 23, pos := "laws.go:338", after := #[{ on := 1, ground := Go.Ground.guard }], guard := Option.some (1, Bool.true) }) (v := ?v4) rfl (by kernel_rfl) (by kernel_rfl) (by kernel_rfl) (fun _ _ _ h => h) (Or.inl ⟨by rfl, ?hy4⟩) (by assumption) ?rest4
        case hy4 =>
          intro w9 hSw
          clear hSw
          go_simp
          first | done | with_reducible rfl
        (try simp only [Act.put]); (try simp only [List.setIfInBounds_toArray]); (try simp only [List.set_cons_succ]); (try simp only [List.set_cons_zero])
        refine wpAnyH_ready (rs := [4]) (by kernel_rfl) (by simp) ?_
        refine AllReadyH.cons (o := { dst := Option.some 64, op := Go.Op.call { callee := Go.Callee.value (Go.Operand.func 37), args := #[Go.Operand.tmp 62, Go.Operand.tmp 63], argTypes := #[23, 23] }, type := 4, pos := "laws.go:338", after := #[{ on := 2, ground := Go.Ground.data }, { on := 3, ground := Go.Ground.data }, { on := 1, ground := Go.Ground.chain }, { on := 1, ground := Go.Ground.guard }], guard := Option.some (1, Bool.true) }) rfl (fun K hK => ?_) AllReadyH.nil
        go_simp
        (go_at_call 37; refine Calls.mono (HSM.out _ (by first | exact HB9.out | exact bel_to (Below.refl _ _) (by rfl) (by rfl) (by rfl) (by rfl))) ?_; rintro e w9 ⟨rfl, hb9⟩; have HB9 := Lib.hid hb9; clear hb9)
        (try go_wp2_with fail)
        refine hK.out _ _ (HSS.out _ (by first | exact HB9.out | exact bel_to (Below.refl _ _) (by rfl) (by rfl) (by rfl) (by rfl))) (fun hHeld => ?_)
        clear hK K
        (try simp only [Act.put]); (try simp only [List.setIfInBounds_toArray]); (try simp only [List.set_cons_succ]); (try simp only [List.set_cons_zero])
        refine wpAnyH_take (i := 5) (oi := { dst := Option.some 65, op := Go.Op.pick (Go.Operand.tmp 61) (Go.Operand.tmp 64) (Go.Operand.const (Go.Value.bool Bool.false)), type := 4, pos := "laws.go:338", after := #[{ on := 1, ground := Go.Ground.data }, { on := 4, ground := Go.Ground.data }], guard := Option.none }) (v := ?v5) rfl (by kernel_rfl) (by kernel_rfl) (by kernel_rfl) (fun _ _ _ h => h) (Or.inl ⟨by rfl, ?hy5⟩) (by assumption) ?rest5
        case hy5 =>
          intro w9 hSw
          clear hSw
          go_simp
          first | done | with_reducible rfl
        (try simp only [Act.put]); (try simp only [List.setIfInBounds_toArray]); (try simp only [List.set_cons_succ]); (try simp only [List.set_cons_zero])
        refine wpAnyH_take (i := 6) (oi := { dst := Option.some 66, op := Go.Op.move (Go.Operand.tmp 65), type := 4, pos := "laws.go:338", after := #[{ on := 5, ground := Go.Ground.data }, { on := 4, ground := Go.Ground.chain }], guard := Option.none }) (v := ?v6) rfl (by kernel_rfl) (by kernel_rfl) (by kernel_rfl) (fun _ _ _ h => h) (Or.inl ⟨by rfl, ?hy6⟩) (by assumption) ?rest6
        case hy6 =>
          intro w9 hSw
          clear hSw
          go_simp
          first | done | with_reducible rfl
        (try simp only [Act.put]); (try simp only [List.setIfInBounds_toArray]); (try simp only [List.set_cons_succ]); (try simp only [List.set_cons_zero])
        refine wpAnyH_take (i := 7) (oi := { dst := Option.some 67, op := Go.Op.load 27 (Go.Operand.tmp 9), type := 27, pos := "laws.go:338", after := #[{ on := 6, ground := Go.Ground.guard }], guard := Option.some (6, Bool.true) }) (v := ?v7) rfl (by kernel_rfl) (by kernel_rfl) (by kernel_rfl) (fun _ _ _ h => h) (Or.inl ⟨by rfl, ?hy7⟩) (by assumption) ?rest7
        case hy7 =>
          intro w9 hSw
          obtain ⟨f0, f1, f2, f3, f4, f5, f6, f7, f8, f9⟩ := hSw
          go_simp
          first | done | with_reducible rfl
        (try simp only [Act.put]); (try simp only [List.setIfInBounds_toArray]); (try simp only [List.set_cons_succ]); (try simp only [List.set_cons_zero])
        refine wpAnyH_ready (rs := [8]) (by kernel_rfl) (by simp) ?_
        refine AllReadyH.cons (o := { dst := Option.some 68, op := Go.Op.call { callee := Go.Callee.value (Go.Operand.func 32), args := #[Go.Operand.tmp 67, Go.Operand.const (Go.Value.string { data := #[100, 99, 98, 97, 100] })], argTypes := #[27, 9] }, type := 4, pos := "laws.go:338", after := #[{ on := 7, ground := Go.Ground.data }, { on := 6, ground := Go.Ground.chain }, { on := 6, ground := Go.Ground.guard }], guard := Option.some (6, Bool.true) }) rfl (fun K hK => ?_) AllReadyH.nil
        go_simp
        (go_at_call 32; refine Calls.mono (HHA.out _ (by first | exact HB9.out | exact bel_to (Below.refl _ _) (by rfl) (by rfl) (by rfl) (by rfl))) ?_; rintro e w9 ⟨rfl, hb9⟩; have HB9 := Lib.hid hb9; clear hb9)
        (try go_wp2_with fail)
        refine hK.out _ _ (HSS.out _ (by first | exact HB9.out | exact bel_to (Below.refl _ _) (by rfl) (by rfl) (by rfl) (by rfl))) (fun hHeld => ?_)
        clear hK K
        (try simp only [Act.put]); (try simp only [List.setIfInBounds_toArray]); (try simp only [List.set_cons_succ]); (try simp only [List.set_cons_zero])
        refine wpAnyH_take (i := 9) (oi := { dst := Option.some 69, op := Go.Op.unOp Go.UnOp.not 4 (Go.Operand.tmp 68), type := 4, pos := "laws.go:338", after := #[{ on := 8, ground := Go.Ground.data }, { on := 6, ground := Go.Ground.guard }], guard := Option.some (6, Bool.true) }) (v := ?v8) rfl (by kernel_rfl) (by kernel_rfl) (by kernel_rfl) (fun _ _ _ h => h) (Or.inl ⟨by rfl, ?hy8⟩) (by assumption) ?rest8
        case hy8 =>
          intro w9 hSw
          clear hSw
          go_simp
          first | done | with_reducible rfl
        (try simp only [Act.put]); (try simp only [List.setIfInBounds_toArray]); (try simp only [List.set_cons_succ]); (try simp only [List.set_cons_zero])
        refine wpAnyH_take (i := 10) (oi := { dst := Option.some 70, op := Go.Op.move (Go.Operand.tmp 69), type := 4, pos := "laws.go:338", after := #[{ on := 9, ground := Go.Ground.data }, { on := 8, ground := Go.Ground.chain }, { on := 6, ground := Go.Ground.guard }], guard := Option.some (6, Bool.true) }) (v := ?v9) rfl (by kernel_rfl) (by kernel_rfl) (by kernel_rfl) (fun _ _ _ h => h) (Or.inl ⟨by rfl, ?hy9⟩) (by assumption) ?rest9
        case hy9 =>
          intro w9 hSw
          clear hSw
          go_simp
          first | done | with_reducible rfl
        (try simp only [Act.put]); (try simp only [List.setIfInBounds_toArray]); (try simp only [List.set_cons_succ]); (try simp only [List.set_cons_zero])
        refine wpAnyH_take (i := 11) (oi := { dst := Option.some 71, op := Go.Op.move (Go.Operand.tmp 3), type := 23, pos := "laws.go:338", after := #[{ on := 10, ground := Go.Ground.guard }], guard := Option.some (10, Bool.false) }) (v := undef) rfl (by kernel_rfl) (by kernel_rfl) (by kernel_rfl) (fun _ _ _ h => h) (Or.inr ⟨by rfl, rfl⟩) (by assumption) ?_
        (try simp only [Act.put]); (try simp only [List.setIfInBounds_toArray]); (try simp only [List.set_cons_succ]); (try simp only [List.set_cons_zero])
        refine wpAnyH_take (i := 12) (oi := { dst := Option.some 72, op := Go.Op.call { callee := Go.Callee.value (Go.Operand.func 46), args := #[Go.Operand.tmp 71, Go.Operand.const (Go.Value.string { data := #[100, 99, 98, 97, 100] })], argTypes := #[23, 9] }, type := 4, pos := "laws.go:338", after := #[{ on := 11, ground := Go.Ground.data }, { on := 10, ground := Go.Ground.chain }, { on := 10, ground := Go.Ground.guard }], guard := Option.some (10, Bool.false) }) (v := undef) rfl (by kernel_rfl) (by kernel_rfl) (by kernel_rfl) (fun _ _ _ h => h) (Or.inr ⟨by rfl, rfl⟩) (by assumption) ?_
        (try simp only [Act.put]); (try simp only [List.setIfInBounds_toArray]); (try simp only [List.set_cons_succ]); (try simp only [List.set_cons_zero])
        refine wpAnyH_take (i := 13) (oi := { dst := Option.some 73, op := Go.Op.pick (Go.Operand.tmp 70) (Go.Operand.const (Go.Value.bool Bool.true)) (Go.Operand.tmp 72), type := 4, pos := "laws.go:338", after := #[{ on := 10, ground := Go.Ground.data }, { on := 12, ground := Go.Ground.data }, { on := 6, ground := Go.Ground.guard }], guard := Option.some (6, Bool.true) }) (v := ?v10) rfl (by kernel_rfl) (by kernel_rfl) (by kernel_rfl) (fun _ _ _ h => h) (Or.inl ⟨by rfl, ?hy10⟩) (by assumption) ?rest10
        case hy10 =>
          intro w9 hSw
          clear hSw
          go_simp
          first | done | with_reducible rfl
        (try simp only [Act.put]); (try simp only [List.setIfInBounds_toArray]); (try simp only [List.set_cons_succ]); (try simp only [List.set_cons_zero])
        refine wpAnyH_take (i := 14) (oi := { dst := Option.some 74, op := Go.Op.pick (Go.Operand.tmp 66) (Go.Operand.tmp 73) (Go.Operand.const (Go.Value.bool Bool.false)), type := 4, pos := "laws.go:338", after := #[{ on := 6, ground := Go.Ground.data }, { on := 13, ground := Go.Ground.data }], guard := Option.none }) (v := ?v11) rfl (by kernel_rfl) (by kernel_rfl) (by kernel_rfl) (fun _ _ _ h => h) (Or.inl ⟨by rfl, ?hy11⟩) (by assumption) ?rest11
        case hy11 =>
          intro w9 hSw
          clear hSw
          go_simp
          first | done | with_reducible rfl
        (try simp only [Act.put]); (try simp only [List.setIfInBounds_toArray]); (try simp only [List.set_cons_succ]); (try simp only [List.set_cons_zero])
        refine wpAnyH_take (i := 15) (oi := { dst := Option.some 75, op := Go.Op.move (Go.Operand.tmp 74), type := 4, pos := "laws.go:338", after := #[{ on := 14, ground := Go.Ground.data }, { on := 12, ground := Go.Ground.chain }], guard := Option.none }) (v := ?v12) rfl (by kernel_rfl) (by kernel_rfl) (by kernel_rfl) (fun _ _ _ h => h) (Or.inl ⟨by rfl, ?hy12⟩) (by assumption) ?rest12
        case hy12 =>
          intro w9 hSw
          clear hSw
          go_simp
          first | done | with_reducible rfl
        (try simp only [Act.put]); (try simp only [List.setIfInBounds_toArray]); (try simp only [List.set_cons_succ]); (try simp only [List.set_cons_zero])
        refine wpAnyH_take (i := 16) (oi := { dst := Option.some 76, op := Go.Op.load 27 (Go.Operand.tmp 9), type := 27, pos := "laws.go:338", after := #[{ on := 15, ground := Go.Ground.guard }], guard := Option.some (15, Bool.true) }) (v := ?v13) rfl (by kernel_rfl) (by kernel_rfl) (by kernel_rfl) (fun _ _ _ h => h) (Or.inl ⟨by rfl, ?hy13⟩) (by assumption) ?rest13
        case hy13 =>
          intro w9 hSw
          obtain ⟨f0, f1, f2, f3, f4, f5, f6, f7, f8, f9⟩ := hSw
          go_simp
          first | done | with_reducible rfl
        (try simp only [Act.put]); (try simp only [List.setIfInBounds_toArray]); (try simp only [List.set_cons_succ]); (try simp only [List.set_cons_zero])
        refine wpAnyH_take (i := 18) (oi := { dst := Option.some 78, op := Go.Op.load 27 (Go.Operand.tmp 7), type := 27, pos := "laws.go:338", after := #[{ on := 15, ground := Go.Ground.guard }], guard := Option.some (15, Bool.true) }) (v := ?v14) rfl (by kernel_rfl) (by kernel_rfl) (by kernel_rfl) (fun _ _ _ h => h) (Or.inl ⟨by rfl, ?hy14⟩) (by assumption) ?rest14
        case hy14 =>
          intro w9 hSw
          obtain ⟨f0, f1, f2, f3, f4, f5, f6, f7, f8, f9⟩ := hSw
          go_simp
          first | done | with_reducible rfl
        (try simp only [Act.put]); (try simp only [List.setIfInBounds_toArray]); (try simp only [List.set_cons_succ]); (try simp only [List.set_cons_zero])
        refine wpAnyH_ready (rs := [17]) (by kernel_rfl) (by simp) ?_
        refine AllReadyH.cons (o := { dst := Option.some 77, op := Go.Op.call { callee := Go.Callee.value (Go.Operand.func 47), args := #[Go.Operand.tmp 76], argTypes := #[27] }, type := 3, pos := "laws.go:338", after := #[{ on := 16, ground := Go.Ground.data }, { on := 15, ground := Go.Ground.chain }, { on := 15, ground := Go.Ground.guard }], guard := Option.some (15, Bool.true) }) rfl (fun K hK => ?_) AllReadyH.nil
        go_simp
        (go_at_call 47; refine Calls.mono (HZ.out _ (by first | exact .inl rfl | exact .inr rfl) _ (by first | exact HB9.out | exact bel_to (Below.refl _ _) (by rfl) (by rfl) (by rfl) (by rfl))) ?_; rintro e w9 ⟨rfl, hb9⟩; have HB9 := Lib.hid hb9; clear hb9)
        (try go_wp2_with fail)
        refine hK.out _ _ (HSS.out _ (by first | exact HB9.out | exact bel_to (Below.refl _ _) (by rfl) (by rfl) (by rfl) (by rfl))) (fun hHeld => ?_)
        clear hK K
        (try simp only [Act.put]); (try simp only [List.setIfInBounds_toArray]); (try simp only [List.set_cons_succ]); (try simp only [List.set_cons_zero])
        refine wpAnyH_ready (rs := [19]) (by kernel_rfl) (by simp) ?_
        refine AllReadyH.cons (o := { dst := Option.some 79, op := Go.Op.call { callee := Go.Callee.value (Go.Operand.func 47), args := #[Go.Operand.tmp 78], argTypes := #[27] }, type := 3, pos := "laws.go:338", after := #[{ on := 18, ground := Go.Ground.data }, { on := 17, ground := Go.Ground.chain }, { on := 15, ground := Go.Ground.guard }], guard := Option.some (15, Bool.true) }) rfl (fun K hK => ?_) AllReadyH.nil
        go_simp
        (go_at_call 47; refine Calls.mono (HZ.out _ (by first | exact .inl rfl | exact .inr rfl) _ (by first | exact HB9.out | exact bel_to (Below.refl _ _) (by rfl) (by rfl) (by rfl) (by rfl))) ?_; rintro e w9 ⟨rfl, hb9⟩; have HB9 := Lib.hid hb9; clear hb9)
        (try go_wp2_with fail)
        refine hK.out _ _ (HSS.out _ (by first | exact HB9.out | exact bel_to (Below.refl _ _) (by rfl) (by rfl) (by rfl) (by rfl))) (fun hHeld => ?_)
        clear hK K
        (try simp only [Act.put]); (try simp only [List.setIfInBounds_toArray]); (try simp only [List.set_cons_succ]); (try simp only [List.set_cons_zero])
        refine wpAnyH_take (i := 20) (oi := { dst := Option.some 80, op := Go.Op.binOp Go.BinOp.eql 3 (Go.Operand.tmp 77) (Go.Operand.tmp 79) 3, type := 4, pos := "laws.go:338", after := #[{ on := 17, ground := Go.Ground.data }, { on := 19, ground := Go.Ground.data }, { on := 15, ground := Go.Ground.guard }], guard := Option.some (15, Bool.true) }) (v := ?v15) rfl (by kernel_rfl) (by kernel_rfl) (by kernel_rfl) (fun _ _ _ h => h) (Or.inl ⟨by rfl, ?hy15⟩) (by assumption) ?rest15
        case hy15 =>
          intro w9 hSw
          clear hSw
          go_simp
          first | done | with_reducible rfl
        (try simp only [Act.put]); (try simp only [List.setIfInBounds_toArray]); (try simp only [List.set_cons_succ]); (try simp only [List.set_cons_zero])
        refine wpAnyH_take (i := 21) (oi := { dst := Option.some 81, op := Go.Op.pick (Go.Operand.tmp 75) (Go.Operand.tmp 80) (Go.Operand.const (Go.Value.bool Bool.false)), type := 4, pos := "laws.go:338", after := #[{ on := 15, ground := Go.Ground.data }, { on := 20, ground := Go.Ground.data }], guard := Option.none }) (v := ?v16) rfl (by kernel_rfl) (by kernel_rfl) (by kernel_rfl) (fun _ _ _ h => h) (Or.inl ⟨by rfl, ?hy16⟩) (by assumption) ?rest16
        case hy16 =>
          intro w9 hSw
          clear hSw
          go_simp
          first | done | with_reducible rfl
        (try simp only [Act.put]); (try simp only [List.setIfInBounds_toArray]); (try simp only [List.set_cons_succ]); (try simp only [List.set_cons_zero])
        refine wpAnyH_take (i := 22) (oi := { dst := Option.some 2, op := Go.Op.assign (Go.Operand.tmp 81), type := 4, pos := "laws.go:338", after := #[{ on := 21, ground := Go.Ground.data }, { on := 19, ground := Go.Ground.chain }, { on := 0, ground := Go.Ground.phase }, { on := 1, ground := Go.Ground.phase }, { on := 2, ground := Go.Ground.phase }, { on := 3, ground := Go.Ground.phase }, { on := 4, ground := Go.Ground.phase }, { on := 5, ground := Go.Ground.phase }, { on := 6, ground := Go.Ground.phase }, { on := 7, ground := Go.Ground.phase }, { on := 8, ground := Go.Ground.phase }, { on := 9, ground := Go.Ground.phase }, { on := 10, ground := Go.Ground.phase }, { on := 11, ground := Go.Ground.phase }, { on := 12, ground := Go.Ground.phase }, { on := 13, ground := Go.Ground.phase }, { on := 14, ground := Go.Ground.phase }, { on := 15, ground := Go.Ground.phase }, { on := 16, ground := Go.Ground.phase }, { on := 17, ground := Go.Ground.phase }, { on := 18, ground := Go.Ground.phase }, { on := 19, ground := Go.Ground.phase }, { on := 20, ground := Go.Ground.phase }, { on := 21, ground := Go.Ground.phase }], guard := Option.none }) (v := ?v17) rfl (by kernel_rfl) (by kernel_rfl) (by kernel_rfl) (fun _ _ _ h => h) (Or.inl ⟨by rfl, ?hy17⟩) (by assumption) ?rest17
        case hy17 =>
          intro w9 hSw
          clear hSw
          go_simp
          first | done | with_reducible rfl
        (try simp only [Act.put]); (try simp only [List.setIfInBounds_toArray]); (try simp only [List.set_cons_succ]); (try simp only [List.set_cons_zero])
        refine wpAnyH_done (by kernel_rfl) ?_ _
        go_wp2
        go_ret
        exact ⟨rfl, HB7.out.trans (HB9.out.mono HB7.out.size)⟩

end Go.Proofs.Ytakadkhgcjndmaa.W
