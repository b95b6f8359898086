/-
  Entries of the call's own are marked, and the marks are found again.
-/
import Derived.Test.YtbckgmfopbpocaaDoorEF
import Derived.Test.YtbckgmfopbpocaaDoorEP
namespace Go.Proofs.YtbckgmfopbpocaaDoor.W
open Go.RowKit K R

/-- the mark of an entry by its place -/
def markEn (i : Nat) : En := ⟨markB (1 + 4 * i), ((2 + 4 * i : Nat) : Int), decide ((3 + 4 * i) % 3 = 0), ((4 + 4 * i : Nat) : Int)⟩
def marksE (n : Nat) : List En := (List.range n).map markEn
theorem marksE_len (n : Nat) : (marksE n).length = n := by simp [marksE]
theorem marksE_get (n i : Nat) (h : i < (marksE n).length) : (marksE n)[i] = markEn i := by simp [marksE]
theorem markE_step {l : List En} {k : Nat} (h : k < l.length) : (marksE k ++ l.drop k).set k (markEn k) = marksE (k + 1) ++ l.drop (k + 1) := by
  rw [List.set_append_right _ _ (by rw [marksE_len]; exact Nat.le_refl _), marksE_len, Nat.sub_self, List.drop_eq_getElem_cons h, List.set_cons_zero]
  unfold marksE
  rw [List.range_succ, List.map_append, List.append_assoc]
  rfl
theorem ownE_block {w : World} {base n c : Nat} {A : Option Addr} {l : List En} (h : OwnE w base (.slice A n c) l) (hp : 0 < l.length) : ∃ g, A = some ⟨g, 0, none⟩ ∧ base ≤ g ∧ g < w.heap.size := by
  rcases h.2 with ⟨_, h0⟩ | ⟨g, cap, cur, hv, hb, hg, _⟩
  · omega
  · injection hv with e
    exact ⟨g, e, hb, (Array.getElem?_eq_some_iff.1 hg).1⟩
/-- marked; nothing else has turned -/
def Marked2 (base n c : Nat) (A : Option Addr) (w : World) (e : Ending) (w' : World) : Prop :=
  e = .returned (.int .i64 ((1 + 4 * n : Nat) : Int)) ∧ OwnE w' base (.slice A n c) (marksE n) ∧ w.grownBy w' (Value.slice A n c).ownBlock

set_option maxHeartbeats 8000000 in
set_option maxRecDepth 100000 in
theorem markE2 (w : World) (base c : Nat) (A : Option Addr) (l : List En) (ho : OwnE w base (.slice A l.length c) l) (hn : l.length ≤ 1048576) :
    Calls Tryd.prog 21 #[.slice A l.length c, .int .i64 1] w (Marked2 base l.length c A w) := by
  have HO := Lib.hid ho
  clear ho
  go_enter Tryd.func21, Tryd.ntmps21
  go_wp2_with fail
  go_loopw [1, 5] (fun kv i wr => ∃ (k : Nat) (z : Int), k ≤ l.length ∧ i = .int .i64 (k : Nat) ∧ kv = .int .i64 z ∧ z = ((1 + 4 * k : Nat) : Int) ∧ OwnE wr base (.slice A l.length c) (marksE k ++ l.drop k) ∧ w.grownBy wr (Value.slice A l.length c).ownBlock) (fun _ i _ => l.length - (intOf i).toNat)
  case atStart => exact ⟨0, 1, Nat.zero_le _, rfl, rfl, rfl, by simpa [marksE] using HO.out, World.grownBy.refl _ _⟩
  case round =>
    obtain ⟨k, z, hk, rfl, rfl, hz, hor, hgr⟩ := hrel
    have HGR := Lib.hid hgr
    have HOR := Lib.hid hor
    clear hor hgr HO
    have hll : (marksE k ++ l.drop k).length = l.length := by rw [List.length_append, marksE_len, List.length_drop]; omega
    by_cases hlt : k < l.length
    · obtain ⟨g, hA, hbg, hgl⟩ := ownE_block HOR.out (by omega)
      subst hA
      have z0 : (0 : Int) ≤ (k : Int) := by omega
      have z1 : (k : Int) < (l.length : Int) := by omega
      have HMT := Lib.hid (show ∀ W : World, Calls Tryd.prog 43 #[.int .i64 z] W fun e w' => e = .returned (.string (markB (1 + 4 * k))) ∧ Below W.heap.size W w' from fun W => by rw [hz]; exact markT (1 + 4 * k) W (by omega) (by omega))
      have HZ := Lib.hid hz
      obtain ⟨u1, hu1⟩ : ∃ u : Int, u = z + 1 := ⟨_, rfl⟩
      obtain ⟨u2, hu2⟩ : ∃ u : Int, u = z + 2 := ⟨_, rfl⟩
      obtain ⟨u3, hu3⟩ : ∃ u : Int, u = z + 3 := ⟨_, rfl⟩
      obtain ⟨u4, hu4⟩ : ∃ u : Int, u = z + 4 := ⟨_, rfl⟩
      have e1 : IntKind.i64.wrap (z + 1) = u1 := by rw [hu1]; exact i64_z _ (by omega) (by omega)
      have e2 : IntKind.i64.wrap (u1 + 1) = u2 := by rw [show u1 + 1 = u2 by omega]; exact i64_z _ (by omega) (by omega)
      have e3 : IntKind.i64.wrap (u2 + 1) = u3 := by rw [show u2 + 1 = u3 by omega]; exact i64_z _ (by omega) (by omega)
      have e4 : IntKind.i64.wrap (u3 + 1) = u4 := by rw [show u3 + 1 = u4 by omega]; exact i64_z _ (by omega) (by omega)
      have HU4 := Lib.hid (show u4 = ((1 + 4 * (k + 1) : Nat) : Int) by omega)
      obtain ⟨gb, hgb⟩ : ∃ gb : Bool, gb = decide ((3 + 4 * k) % 3 = 0) := ⟨_, rfl⟩
      have em : u2.tmod 3 = u2 % 3 := Int.tmod_eq_emod_of_nonneg (by omega)
      have eg : (u2 % 3 == 0) = gb := by
        rw [hgb, hu2, hz, Bool.eq_iff_iff]
        simp only [beq_iff_eq, decide_eq_true_eq]
        omega
      have HE := Lib.hid (show markEn k = ⟨markB (1 + 4 * k), u1, gb, u3⟩ by unfold markEn; rw [hgb, show u1 = ((2 + 4 * k : Nat) : Int) by omega, show u3 = ((4 + 4 * k : Nat) : Int) by omega])
      clear hz hu1 hu2 hu3 hu4 hgb
      go_wp2_with fail
      go_at_call 43
      refine Calls.mono (HMT.out _) ?_
      rintro e w2 ⟨rfl, hb2⟩
      have HO2 := Lib.hid (rowBelow HOR.out hb2)
      rw [hll] at HO2
      have HG2 := Lib.hid (grown_below_row HGR.out hb2)
      have hkl : k < (marksE k ++ l.drop k).length := by omega
      have q0 := rowGet HO2.out (i := k * 4) (by rw [show k * 4 = k * 4 + 0 from rfl, cellsE_at hkl 0 (by omega)]; rfl)
      have q1 := rowGet HO2.out (i := k * 4 + 1) (by rw [cellsE_at hkl 1 (by omega)]; rfl)
      have q2 := rowGet HO2.out (i := k * 4 + 2) (by rw [cellsE_at hkl 2 (by omega)]; rfl)
      have q3 := rowGet HO2.out (i := k * 4 + 3) (by rw [cellsE_at hkl 3 (by omega)]; rfl)
      have f0 := rowFree HO2.out (k * 4)
      have f1 := rowFree HO2.out (k * 4 + 1)
      have f2 := rowFree HO2.out (k * 4 + 2)
      have f3 := rowFree HO2.out (k * 4 + 3)
      have hst := cellsE_set hkl ⟨markB (1 + 4 * k), u1, gb, u3⟩
      rw [← HE.out, markE_step hlt, HE.out] at hst
      have HST := Lib.hid hst
      clear hst hb2
      go_wp2
      go_roundw
      case rel =>
        refine ⟨k + 1, u4, by omega, by go_num, rfl, HU4.out, ?_, grown_set (grown_set (grown_set (grown_set HG2.out _ _) _ _) _ _) _ _⟩
        unfold OwnE
        rw [← HST.out, show (marksE (k + 1) ++ l.drop (k + 1)).length = l.length by rw [List.length_append, marksE_len, List.length_drop]; omega]
        exact rowSet (rowSet (rowSet (rowSet HO2.out (k * 4) _) (k * 4 + 1) _) (k * 4 + 2) _) (k * 4 + 3) _
      case measure => simp [intOf]; omega
    · have hke : k = l.length := by omega
      subst hke
      go_wp2
      go_ret
      refine ⟨by rw [← hz]; rfl, ?_, HGR.out⟩
      have h := HOR.out
      rw [List.drop_length, List.append_nil] at h
      exact h

set_option maxHeartbeats 8000000 in
set_option maxRecDepth 100000 in
theorem heldE (w : World) (B n c : Nat) (A : Option Addr) (hr : Ents w B A n (marksE n)) (hB : B ≤ w.heap.size) (hn : n ≤ 1048576) :
    Calls Tryd.prog 22 #[.slice A n c, .int .i64 1] w fun e w' => e = .returned (.int .i64 ((1 + 4 * n : Nat) : Int)) ∧ Below w.heap.size w w' := by
  have HR := Lib.hid hr
  clear hr
  go_enter Tryd.func22, Tryd.ntmps22
  go_wp2_with fail
  go_loopw [1, 5] (fun kv i wr => ∃ (k : Nat) (z : Int), k ≤ n ∧ i = .int .i64 (k : Nat) ∧ kv = .int .i64 z ∧ z = ((1 + 4 * k : Nat) : Int) ∧ Below w.heap.size w wr) (fun _ i _ => n - (intOf i).toNat)
  case atStart => exact ⟨0, 1, Nat.zero_le _, rfl, rfl, rfl, Below.refl _ _⟩
  case round =>
    obtain ⟨k, z, hk, rfl, rfl, hz, hb⟩ := hrel
    have HBL := Lib.hid hb
    have hsz := hb.size
    clear hb
    by_cases hlt : k < n
    · obtain ⟨kb, ko, hA, hkb, c0, c1, c2, c3⟩ := (HR.out.below HBL.out hB).cell k (by rw [marksE_len]; exact hlt)
      rw [marksE_get] at c0 c1 c2 c3
      subst hA
      have z0 : (0 : Int) ≤ (k : Int) := by omega
      have z1 : (k : Int) < (n : Int) := by omega
      have HMT := Lib.hid (show ∀ W : World, Calls Tryd.prog 43 #[.int .i64 z] W fun e w' => e = .returned (.string (markB (1 + 4 * k))) ∧ Below W.heap.size W w' from fun W => by rw [hz]; exact markT (1 + 4 * k) W (by omega) (by omega))
      obtain ⟨u1, hu1⟩ : ∃ u : Int, u = z + 1 := ⟨_, rfl⟩
      obtain ⟨u2, hu2⟩ : ∃ u : Int, u = z + 2 := ⟨_, rfl⟩
      obtain ⟨u3, hu3⟩ : ∃ u : Int, u = z + 3 := ⟨_, rfl⟩
      obtain ⟨u4, hu4⟩ : ∃ u : Int, u = z + 4 := ⟨_, rfl⟩
      have e1 : IntKind.i64.wrap (z + 1) = u1 := by rw [hu1]; exact i64_z _ (by omega) (by omega)
      have e2 : IntKind.i64.wrap (u1 + 1) = u2 := by rw [show u1 + 1 = u2 by omega]; exact i64_z _ (by omega) (by omega)
      have e3 : IntKind.i64.wrap (u2 + 1) = u3 := by rw [show u2 + 1 = u3 by omega]; exact i64_z _ (by omega) (by omega)
      have e4 : IntKind.i64.wrap (u3 + 1) = u4 := by rw [show u3 + 1 = u4 by omega]; exact i64_z _ (by omega) (by omega)
      have HU4 := Lib.hid (show u4 = ((1 + 4 * (k + 1) : Nat) : Int) by omega)
      obtain ⟨gb, hgb⟩ : ∃ gb : Bool, gb = decide ((3 + 4 * k) % 3 = 0) := ⟨_, rfl⟩
      have em : u2.tmod 3 = u2 % 3 := Int.tmod_eq_emod_of_nonneg (by omega)
      have eg : (u2 % 3 == 0) = gb := by
        rw [hgb, hu2, hz, Bool.eq_iff_iff]
        simp only [beq_iff_eq, decide_eq_true_eq]
        omega
      have HE := show markEn k = ⟨markB (1 + 4 * k), u1, gb, u3⟩ by unfold markEn; rw [hgb, show u1 = ((2 + 4 * k : Nat) : Int) by omega, show u3 = ((4 + 4 * k : Nat) : Int) by omega]
      rw [HE] at c0 c1 c2 c3
      have hbw : kb < wr.heap.size := by omega
      have HC0 := Lib.hid c0
      have HC1 := Lib.hid c1
      have HC2 := Lib.hid c2
      have HC3 := Lib.hid c3
      clear hz hu1 hu2 hu3 hu4 hgb HE c1 c2 c3
      have es : ((markB (1 + 4 * k)).toList == (markB (1 + 4 * k)).toList) = true := by simp
      go_wp2_with fail
      go_region_with ((go_at_call 43; refine Calls.mono (HMT.out _) ?_; rintro e w2 ⟨rfl, hb2⟩; have d0 : w2.cell? ⟨kb, ko + k * 4, none⟩ = some (.string (markB (1 + 4 * k))) := (hb2.cell (p := ⟨kb, ko + k * 4, none⟩) hbw).trans HC0.out))
      all_goals
        have d1 : w2.cell? ⟨kb, ko + k * 4 + 1, none⟩ = some (.int .i64 u1) := (hb2.cell (p := ⟨kb, ko + k * 4 + 1, none⟩) hbw).trans HC1.out
        have d2 : w2.cell? ⟨kb, ko + k * 4 + 2, none⟩ = some (.bool gb) := (hb2.cell (p := ⟨kb, ko + k * 4 + 2, none⟩) hbw).trans HC2.out
        have d3 : w2.cell? ⟨kb, ko + k * 4 + 3, none⟩ = some (.int .i64 u3) := (hb2.cell (p := ⟨kb, ko + k * 4 + 3, none⟩) hbw).trans HC3.out
        have HB2 := Lib.hid (HBL.out.trans (Below.mono (Below.of_drew hb2) hsz))
        clear hb2
        cases gb
        all_goals
          go_wp2
          go_roundw
          case rel => exact ⟨k + 1, u4, by omega, by go_num, rfl, HU4.out, HB2.out⟩
          case measure => simp [intOf]; omega
    · have hke : k = n := by omega
      subst hke
      go_wp2
      go_ret
      exact ⟨by rw [← hz]; rfl, HBL.out⟩

end Go.Proofs.YtbckgmfopbpocaaDoor.W
