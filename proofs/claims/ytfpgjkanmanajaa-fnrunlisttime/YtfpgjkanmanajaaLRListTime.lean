/-
  The law FnRunListTime (P40), as a walk over the contracts.
-/
import Derived.Test.YtfpgjkanmanajaaEV
namespace Go.Proofs.Ytfpgjkanmanajaa.W
open Go.RowKit K R

set_option maxHeartbeats 8000000 in
set_option maxRecDepth 100000 in
theorem lawRunListTime (w : World) (A : Option Addr) (n c : Nat) (hb0 : Bytes w w.heap.size A n) (hnc : n ≤ c) (hc : c ≤ maxLen) :
    Calls Try.prog 15 #[.slice A n c] w fun e w' => e = .returned (.bool true) ∧ Below w.heap.size w w' := by
  by_cases hbig : (1048576 : Int) < (n : Int)
  · clear hb0
    go_enter Try.func15, Try.ntmps15
    go_wp2
    go_ret
    exact ⟨rfl, Below.refl _ _⟩
  go_enter Try.func15, Try.ntmps15
  go_wp2_with fail
  go_at_call 41
  refine Calls.mono (drawRunList w A n c hb0 hnc hc) ?_
  rintro e w1 ⟨A1, c1, l, f, u, t, hf6, hu6, ht, rfl, hf, hb⟩
  have HF := Lib.hid hf
  have HB := Lib.hid hb
  clear hb0 hf hb
  go_wp2_with fail
  go_at_call 42
  refine Calls.mono (listI_few HF.out f u (t : Nat)) ?_
  rintro e w2 ⟨A2, c2, rfl, hl, b_⟩
  have HL := Lib.hid hl
  replace HF := Lib.hid (HF.out.below b_)
  replace HB := Lib.hid (HB.out.trans (b_.mono HB.out.size))
  clear hl b_
  go_wp2_with fail
  go_at_call 43
  refine Calls.mono (listS_few HF.out f u (t : Nat)) ?_
  rintro e w3 ⟨A3, c3, rfl, hm, b_⟩
  have HM := Lib.hid hm
  replace HF := Lib.hid (HF.out.below b_)
  replace HL := Lib.hid (HL.out.below b_)
  replace HB := Lib.hid (HB.out.trans (b_.mono HB.out.size))
  clear hm b_
  go_wp2_with fail
  go_at_call 27
  refine Calls.mono (same_few HL.out HM.out) ?_
  rintro e w4 ⟨rfl, b_⟩
  replace HF := Lib.hid (HF.out.below b_)
  replace HL := Lib.hid (HL.out.below b_)
  replace HB := Lib.hid (HB.out.trans (b_.mono HB.out.size))
  clear b_ HM
  have HT := Lib.hid (fun i h => listO_time (l := l) (f := f) (u := u) (t := (t : Nat)) (i := i) h)
  have HAG := Lib.hid (listO_again l f u (t : Nat))
  have HZ := Lib.hid (listO_zero l f u)
  obtain ⟨r, hr⟩ : ∃ r, r = listO l f u (t : Nat) := ⟨_, rfl⟩
  rw [← hr] at HT HL HAG
  rw [← hr]
  clear hr
  go_wp2_with fail
  go_loopw [8] (fun i wr => ∃ k : Nat, k ≤ r.length ∧ i = .int .i64 (k : Nat) ∧ Below w4.heap.size w4 wr) (fun i _ => r.length - (intOf i).toNat)
  case atStart => exact ⟨0, Nat.zero_le _, rfl, Below.refl _ _⟩
  case round =>
    obtain ⟨k, hk, rfl, hb⟩ := hrel
    have HBL := Lib.hid hb
    clear hb
    have hr45 := HL.out.len
    by_cases hlt : k < r.length
    · obtain ⟨kb, ko, hA, hkb, d0, d1, d2, d3⟩ := (HL.out.below HBL.out).ents.cell k hlt
      subst hA
      obtain ⟨h3, h2⟩ := HT.out k hlt
      rw [h2] at d2
      obtain ⟨z3, hz3⟩ : ∃ z, z = r[k].time := ⟨_, rfl⟩
      rw [← hz3] at d3 h3
      have z0 : (0 : Int) ≤ (k : Int) := by omega
      have z1 : (k : Int) < (r.length : Int) := by omega
      have h4 : ¬ (t : Int) < z3 := by omega
      clear hz3 h2 d0 d1
      go_wp2
      go_roundw
      case rel => exact ⟨k + 1, by omega, by go_num, HBL.out⟩
      case measure => simp [intOf]; omega
    · have hke : k = r.length := by omega
      subst hke
      replace HF := Lib.hid (HF.out.below HBL.out)
      replace HL := Lib.hid (HL.out.below HBL.out)
      replace HB := Lib.hid (HB.out.trans (HBL.out.mono HB.out.size))
      clear HBL
      have HC := Lib.hid (listI_few HL.out f u (t : Nat))
      rw [HAG.out] at HC
      go_wp2_with fail
      go_at_call 42
      refine Calls.mono HC.out ?_
      rintro e w5 ⟨A5, c5, rfl, hm, b_⟩
      have HM := Lib.hid hm
      replace HF := Lib.hid (HF.out.below b_)
      replace HL := Lib.hid (HL.out.below b_)
      replace HB := Lib.hid (HB.out.trans (b_.mono HB.out.size))
      clear hm b_ HC
      go_wp2_with fail
      go_at_call 27
      refine Calls.mono (same_few HM.out HL.out) ?_
      rintro e w6 ⟨rfl, b_⟩
      replace HF := Lib.hid (HF.out.below b_)
      replace HB := Lib.hid (HB.out.trans (b_.mono HB.out.size))
      clear b_ HM HL
      have HC := Lib.hid (listI_few HF.out f u 0)
      rw [HZ.out] at HC
      go_wp2_with fail
      go_at_call 42
      refine Calls.mono HC.out ?_
      rintro e w7 ⟨A7, c7, rfl, -, b_⟩
      replace HB := Lib.hid (HB.out.trans (b_.mono HB.out.size))
      clear b_ HC
      go_wp2
      go_ret
      exact ⟨rfl, HB.out⟩

end Go.Proofs.Ytfpgjkanmanajaa.W
