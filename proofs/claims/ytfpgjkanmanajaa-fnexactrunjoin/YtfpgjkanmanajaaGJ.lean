/-
  Sizes from any number left, marks from any number on.
-/
import Derived.Test.YtfpgjkanmanajaaEU
import Derived.Test.YtfpgjkanmanajaaE6
namespace Go.Proofs.Ytfpgjkanmanajaa.W
open Go.RowKit K R

/-- how much is left, or that it is too much -/
def SizedL (l : List En) (w : World) (e : Ending) (w' : World) : Prop :=
  ∃ x : Int, e = .returned (.int .i64 x) ∧ -1 ≤ x ∧ x ≤ 1048576 ∧ (0 ≤ x → l.length ≤ 1048576 ∧ ∀ e ∈ l, e.key.size ≤ 1048576) ∧ Below w.heap.size w w'

set_option maxHeartbeats 4000000 in
theorem szEnL (w : World) (B n c : Nat) (A : Option Addr) (l : List En) (hr : Ents w B A n l) (hB : B ≤ w.heap.size) (hn : n ≤ maxLen) (hf : ∀ e ∈ l, e.key.size ≤ maxLen) (L0 : Int) (h00 : 0 ≤ L0) (h01 : L0 ≤ 1048576) :
    Calls Try.prog 45 #[.slice A n c, .int .i64 L0] w (SizedL l w) := by
  have hlen := hr.len
  subst hlen
  unfold maxLen at hn
  have HR := Lib.hid hr
  have HF := Lib.hid hf
  clear hr hf
  obtain ⟨y, hy⟩ : ∃ y : Int, y = L0 - (l.length : Int) := ⟨_, rfl⟩
  have hw : IntKind.i64.wrap (L0 - (l.length : Int)) = y := by rw [hy]; exact i64_z _ (by omega) (by omega)
  by_cases h : y < 0
  · clear hy
    go_enter Try.func45, Try.ntmps45
    go_wp2
    go_ret
    exact ⟨-1, rfl, by omega, by omega, by omega, Below.refl _ _⟩
  · have HY := Lib.hid hy
    clear hy
    go_enter Try.func45, Try.ntmps45
    go_wp2_with fail
    go_loopw [1, 5] (fun s i wr => ∃ (k : Nat) (x : Int), k ≤ l.length ∧ i = .int .i64 (k : Nat) ∧ s = .int .i64 x ∧ 0 ≤ x ∧ x ≤ 1048576 ∧ (∀ i (h : i < l.length), i < k → l[i].key.size ≤ 1048576) ∧ Below w.heap.size w wr) (fun _ i _ => l.length - (intOf i).toNat)
    case atStart => exact ⟨0, y, Nat.zero_le _, rfl, rfl, by omega, by have := HY.out; omega, fun i h1 h2 => by omega, Below.refl _ _⟩
    case round =>
      obtain ⟨k, x, hk, rfl, rfl, hx0, hx1, hsm, hbl⟩ := hrel
      have HBL := Lib.hid hbl
      have HSM := Lib.hid hsm
      clear hbl hsm
      by_cases hlt : k < l.length
      · obtain ⟨kb, ko, hA, hkb, c0, c1, c2, c3⟩ := HR.out.cell k hlt
        subst hA
        have hkb' : kb < w.heap.size := Nat.lt_of_lt_of_le hkb hB
        have r0 := (HBL.out.cell (p := ⟨kb, ko + k * 4, none⟩) hkb').trans c0
        have r1 := (HBL.out.cell (p := ⟨kb, ko + k * 4 + 1, none⟩) hkb').trans c1
        have r2 := (HBL.out.cell (p := ⟨kb, ko + k * 4 + 2, none⟩) hkb').trans c2
        have r3 := (HBL.out.cell (p := ⟨kb, ko + k * 4 + 3, none⟩) hkb').trans c3
        have hks := HF.out _ (List.getElem_mem hlt)
        obtain ⟨x0, h0⟩ : ∃ y, y = l[k].key := ⟨_, rfl⟩
        obtain ⟨x1, h1⟩ : ∃ y, y = l[k].val := ⟨_, rfl⟩
        obtain ⟨x2, h2⟩ : ∃ y, y = l[k].gone := ⟨_, rfl⟩
        obtain ⟨x3, h3⟩ : ∃ y, y = l[k].time := ⟨_, rfl⟩
        rw [← h0] at r0 hks
        rw [← h1] at r1
        rw [← h2] at r2
        rw [← h3] at r3
        have H0 := Lib.hid h0
        have z0 : (0 : Int) ≤ (k : Int) := by omega
        have z1 : (k : Int) < (l.length : Int) := by omega
        obtain ⟨u, hu⟩ : ∃ u : Int, u = if x - (x0.size : Int) < 0 then -1 else x - (x0.size : Int) := ⟨_, rfl⟩
        have HZ := Lib.hid (show ∀ W : World, Calls Try.prog 84 #[.agg #[.string x0, .int .i64 x1, .bool x2, .int .i64 x3], .int .i64 x] W fun e w' => e = .returned (.int .i64 u) ∧ Below W.heap.size W w' from fun W => by rw [hu]; exact szEn x0 x1 x2 x3 x W hx0 hx1 hks)
        have HU := Lib.hid hu
        clear hu h0 h1 h2 h3 c0 c1 c2 c3
        by_cases hneg : u < 0
        · go_wp2_with (go_at_call 84; refine Calls.mono (HZ.out _) ?_; rintro e w5 ⟨rfl, hb5⟩; have HB5 := Lib.hid (HBL.out.trans (hb5.mono HBL.out.size)); clear hb5)
          go_ret
          exact ⟨-1, rfl, by omega, by omega, by omega, HB5.out⟩
        · have hu2 : x0.size ≤ 1048576 ∧ u ≤ 1048576 := by
            have := HU.out
            split at this <;> omega
          go_wp2_with (go_at_call 84; refine Calls.mono (HZ.out _) ?_; rintro e w5 ⟨rfl, hb5⟩; have HB5 := Lib.hid (HBL.out.trans (hb5.mono HBL.out.size)); clear hb5)
          go_roundw
          case rel =>
            refine ⟨k + 1, u, by omega, by go_num, rfl, by omega, hu2.2, fun i hi h => ?_, HB5.out⟩
            by_cases e : i = k
            · subst e; rw [← H0.out]; exact hu2.1
            · exact HSM.out i hi (by omega)
          case measure => simp [intOf]; omega
      · have hke : k = l.length := by omega
        subst hke
        go_wp2
        go_ret
        refine ⟨x, rfl, by omega, by omega, fun _ => ⟨by have := HY.out; omega, fun e he => ?_⟩, HBL.out⟩
        obtain ⟨i, hi, rfl⟩ := List.getElem_of_mem he
        exact HSM.out i hi hi

/-- marked, as long as it is -/
def MarkedG (K0 base g n c : Nat) (w : World) (e : Ending) (w' : World) : Prop :=
  e = .returned (.int .i64 ((K0 + 4 * n : Nat) : Int)) ∧ (∃ cs, w'.ownsRow base 33 4 (.slice (some ⟨g, 0, none⟩) n c) n cs) ∧ w.grownBy w' (some g)

set_option maxHeartbeats 8000000 in
set_option maxRecDepth 100000 in
theorem markEG (w : World) (base g n c : Nat) (cs : List Value) (ho : w.ownsRow base 33 4 (.slice (some ⟨g, 0, none⟩) n c) n cs) (hn : n ≤ 1048576) (K0 : Nat) (hK1 : 1 ≤ K0) (hK : K0 ≤ 1000000000) :
    Calls Try.prog 49 #[.slice (some ⟨g, 0, none⟩) n c, .int .i64 ((K0 : Nat) : Int)] w (MarkedG K0 base g n c w) := by
  have HO := Lib.hid ho
  clear ho
  go_enter Try.func49, Try.ntmps49
  go_wp2_with fail
  go_loopw [1, 5] (fun kv i wr => ∃ (k : Nat) (z : Int) (cs : List Value), k ≤ n ∧ i = .int .i64 (k : Nat) ∧ kv = .int .i64 z ∧ z = ((K0 + 4 * k : Nat) : Int) ∧ wr.ownsRow base 33 4 (.slice (some ⟨g, 0, none⟩) n c) n cs ∧ w.grownBy wr (some g)) (fun _ i _ => n - (intOf i).toNat)
  case atStart => exact ⟨0, ((K0 : Nat) : Int), cs, Nat.zero_le _, rfl, rfl, rfl, HO.out, World.grownBy.refl _ _⟩
  case round =>
    obtain ⟨k, z, cs, hk, rfl, rfl, hz, hor, hgr⟩ := hrel
    have HGR := Lib.hid hgr
    have HOR := Lib.hid hor
    clear hor hgr HO
    by_cases hlt : k < n
    · have z0 : (0 : Int) ≤ (k : Int) := by omega
      have z1 : (k : Int) < (n : Int) := by omega
      have HMT := Lib.hid (show ∀ W : World, Calls Try.prog 86 #[.int .i64 z] W fun e w' => e = .returned (.string (markB (K0 + 4 * k))) ∧ Below W.heap.size W w' from fun W => by rw [hz]; exact markT (K0 + 4 * k) W (by omega) (by omega))
      have HZ := Lib.hid hz
      obtain ⟨u1, hu1⟩ : ∃ u : Int, u = z + 1 := ⟨_, rfl⟩
      obtain ⟨u2, hu2⟩ : ∃ u : Int, u = z + 2 := ⟨_, rfl⟩
      obtain ⟨u3, hu3⟩ : ∃ u : Int, u = z + 3 := ⟨_, rfl⟩
      obtain ⟨u4, hu4⟩ : ∃ u : Int, u = z + 4 := ⟨_, rfl⟩
      have e1 : IntKind.i64.wrap (z + 1) = u1 := by rw [hu1]; exact i64_z _ (by omega) (by omega)
      have e2 : IntKind.i64.wrap (u1 + 1) = u2 := by rw [show u1 + 1 = u2 by omega]; exact i64_z _ (by omega) (by omega)
      have e3 : IntKind.i64.wrap (u2 + 1) = u3 := by rw [show u2 + 1 = u3 by omega]; exact i64_z _ (by omega) (by omega)
      have e4 : IntKind.i64.wrap (u3 + 1) = u4 := by rw [show u3 + 1 = u4 by omega]; exact i64_z _ (by omega) (by omega)
      have HU4 := Lib.hid (show u4 = ((K0 + 4 * (k + 1) : Nat) : Int) by omega)
      clear hz hu1 hu2 hu3 hu4
      go_wp2_with fail
      go_at_call 86
      refine Calls.mono (HMT.out _) ?_
      rintro e w2 ⟨rfl, hb2⟩
      have HO2 := Lib.hid (rowBelow HOR.out hb2)
      have HG2 := Lib.hid (grown_below_row HGR.out hb2)
      have hcl : cs.length = n * 4 := HOR.out.1
      obtain ⟨v0, a0⟩ := rowSome (cs := cs) (i := k * 4) (by omega)
      obtain ⟨v1, a1⟩ := rowSome (cs := cs) (i := k * 4 + 1) (by omega)
      obtain ⟨v2, a2⟩ := rowSome (cs := cs) (i := k * 4 + 2) (by omega)
      obtain ⟨v3, a3⟩ := rowSome (cs := cs) (i := k * 4 + 3) (by omega)
      have q0 := rowGet HO2.out a0
      have q1 := rowGet HO2.out a1
      have q2 := rowGet HO2.out a2
      have q3 := rowGet HO2.out a3
      have f0 := rowFree HO2.out (k * 4)
      have f1 := rowFree HO2.out (k * 4 + 1)
      have f2 := rowFree HO2.out (k * 4 + 2)
      have f3 := rowFree HO2.out (k * 4 + 3)
      clear hb2 a0 a1 a2 a3
      go_wp2
      go_roundw
      case rel =>
        exact ⟨k + 1, u4, _, by omega, by go_num, rfl, HU4.out, rowSet (rowSet (rowSet (rowSet HO2.out (k * 4) _) (k * 4 + 1) _) (k * 4 + 2) _) (k * 4 + 3) _, grown_set (grown_set (grown_set (grown_set HG2.out _ _) _ _) _ _) _ _⟩
      case measure => simp [intOf]; omega
    · have hke : k = n := by omega
      subst hke
      go_wp2
      go_ret
      exact ⟨by rw [← hz]; rfl, ⟨cs, HOR.out⟩, HGR.out⟩

/-- the mark of an entry by its place -/
def markEnG (K0 i : Nat) : En := ⟨markB (K0 + 4 * i), ((K0 + 1 + 4 * i : Nat) : Int), decide ((K0 + 2 + 4 * i) % 3 = 0), ((K0 + 3 + 4 * i : Nat) : Int)⟩
def marksG (K0 n : Nat) : List En := (List.range n).map (markEnG K0)
theorem marksG_len (K0 n : Nat) : (marksG K0 n).length = n := by simp [marksG]
theorem marksG_get (K0 n i : Nat) (h : i < (marksG K0 n).length) : (marksG K0 n)[i] = markEnG K0 i := by simp [marksG]
theorem markG_step {K0 : Nat} {l : List En} {k : Nat} (h : k < l.length) : (marksG K0 k ++ l.drop k).set k (markEnG K0 k) = marksG K0 (k + 1) ++ l.drop (k + 1) := by
  rw [List.set_append_right _ _ (by rw [marksG_len]; exact Nat.le_refl _), marksG_len, Nat.sub_self, List.drop_eq_getElem_cons h, List.set_cons_zero]
  unfold marksG
  rw [List.range_succ, List.map_append, List.append_assoc]
  rfl
/-- marked; nothing else has turned -/
def Marked2G (K0 base n c : Nat) (A : Option Addr) (w : World) (e : Ending) (w' : World) : Prop :=
  e = .returned (.int .i64 ((K0 + 4 * n : Nat) : Int)) ∧ OwnE w' base (.slice A n c) (marksG K0 n) ∧ w.grownBy w' (Value.slice A n c).ownBlock

set_option maxHeartbeats 8000000 in
set_option maxRecDepth 100000 in
theorem markE2G (w : World) (base c : Nat) (A : Option Addr) (l : List En) (ho : OwnE w base (.slice A l.length c) l) (hn : l.length ≤ 1048576) (K0 : Nat) (hK1 : 1 ≤ K0) (hK : K0 ≤ 1000000000) :
    Calls Try.prog 49 #[.slice A l.length c, .int .i64 ((K0 : Nat) : Int)] w (Marked2G K0 base l.length c A w) := by
  have HO := Lib.hid ho
  clear ho
  go_enter Try.func49, Try.ntmps49
  go_wp2_with fail
  go_loopw [1, 5] (fun kv i wr => ∃ (k : Nat) (z : Int), k ≤ l.length ∧ i = .int .i64 (k : Nat) ∧ kv = .int .i64 z ∧ z = ((K0 + 4 * k : Nat) : Int) ∧ OwnE wr base (.slice A l.length c) (marksG K0 k ++ l.drop k) ∧ w.grownBy wr (Value.slice A l.length c).ownBlock) (fun _ i _ => l.length - (intOf i).toNat)
  case atStart => exact ⟨0, ((K0 : Nat) : Int), Nat.zero_le _, rfl, rfl, rfl, by simpa [marksG] using HO.out, World.grownBy.refl _ _⟩
  case round =>
    obtain ⟨k, z, hk, rfl, rfl, hz, hor, hgr⟩ := hrel
    have HGR := Lib.hid hgr
    have HOR := Lib.hid hor
    clear hor hgr HO
    have hll : (marksG K0 k ++ l.drop k).length = l.length := by rw [List.length_append, marksG_len, List.length_drop]; omega
    by_cases hlt : k < l.length
    · obtain ⟨g, hA, hbg, hgl⟩ := ownE_block HOR.out (by omega)
      subst hA
      have z0 : (0 : Int) ≤ (k : Int) := by omega
      have z1 : (k : Int) < (l.length : Int) := by omega
      have HMT := Lib.hid (show ∀ W : World, Calls Try.prog 86 #[.int .i64 z] W fun e w' => e = .returned (.string (markB (K0 + 4 * k))) ∧ Below W.heap.size W w' from fun W => by rw [hz]; exact markT (K0 + 4 * k) W (by omega) (by omega))
      have HZ := Lib.hid hz
      obtain ⟨u1, hu1⟩ : ∃ u : Int, u = z + 1 := ⟨_, rfl⟩
      obtain ⟨u2, hu2⟩ : ∃ u : Int, u = z + 2 := ⟨_, rfl⟩
      obtain ⟨u3, hu3⟩ : ∃ u : Int, u = z + 3 := ⟨_, rfl⟩
      obtain ⟨u4, hu4⟩ : ∃ u : Int, u = z + 4 := ⟨_, rfl⟩
      have e1 : IntKind.i64.wrap (z + 1) = u1 := by rw [hu1]; exact i64_z _ (by omega) (by omega)
      have e2 : IntKind.i64.wrap (u1 + 1) = u2 := by rw [show u1 + 1 = u2 by omega]; exact i64_z _ (by omega) (by omega)
      have e3 : IntKind.i64.wrap (u2 + 1) = u3 := by rw [show u2 + 1 = u3 by omega]; exact i64_z _ (by omega) (by omega)
      have e4 : IntKind.i64.wrap (u3 + 1) = u4 := by rw [show u3 + 1 = u4 by omega]; exact i64_z _ (by omega) (by omega)
      have HU4 := Lib.hid (show u4 = ((K0 + 4 * (k + 1) : Nat) : Int) by omega)
      obtain ⟨gb, hgb⟩ : ∃ gb : Bool, gb = decide ((K0 + 2 + 4 * k) % 3 = 0) := ⟨_, rfl⟩
      have em : u2.tmod 3 = u2 % 3 := Int.tmod_eq_emod_of_nonneg (by omega)
      have eg : (u2 % 3 == 0) = gb := by
        rw [hgb, hu2, hz, Bool.eq_iff_iff]
        simp only [beq_iff_eq, decide_eq_true_eq]
        omega
      have HE := Lib.hid (show markEnG K0 k = ⟨markB (K0 + 4 * k), u1, gb, u3⟩ by unfold markEnG; rw [hgb, show u1 = ((K0 + 1 + 4 * k : Nat) : Int) by omega, show u3 = ((K0 + 3 + 4 * k : Nat) : Int) by omega])
      clear hz hu1 hu2 hu3 hu4 hgb
      go_wp2_with fail
      go_at_call 86
      refine Calls.mono (HMT.out _) ?_
      rintro e w2 ⟨rfl, hb2⟩
      have HO2 := Lib.hid (rowBelow HOR.out hb2)
      rw [hll] at HO2
      have HG2 := Lib.hid (grown_below_row HGR.out hb2)
      have hkl : k < (marksG K0 k ++ l.drop k).length := by omega
      have q0 := rowGet HO2.out (i := k * 4) (by rw [show k * 4 = k * 4 + 0 from rfl, cellsE_at hkl 0 (by omega)]; rfl)
      have q1 := rowGet HO2.out (i := k * 4 + 1) (by rw [cellsE_at hkl 1 (by omega)]; rfl)
      have q2 := rowGet HO2.out (i := k * 4 + 2) (by rw [cellsE_at hkl 2 (by omega)]; rfl)
      have q3 := rowGet HO2.out (i := k * 4 + 3) (by rw [cellsE_at hkl 3 (by omega)]; rfl)
      have f0 := rowFree HO2.out (k * 4)
      have f1 := rowFree HO2.out (k * 4 + 1)
      have f2 := rowFree HO2.out (k * 4 + 2)
      have f3 := rowFree HO2.out (k * 4 + 3)
      have hst := cellsE_set hkl ⟨markB (K0 + 4 * k), u1, gb, u3⟩
      rw [← HE.out, markG_step hlt, HE.out] at hst
      have HST := Lib.hid hst
      clear hst hb2
      go_wp2
      go_roundw
      case rel =>
        refine ⟨k + 1, u4, by omega, by go_num, rfl, HU4.out, ?_, grown_set (grown_set (grown_set (grown_set HG2.out _ _) _ _) _ _) _ _⟩
        unfold OwnE
        rw [← HST.out, show (marksG K0 (k + 1) ++ l.drop (k + 1)).length = l.length by rw [List.length_append, marksG_len, List.length_drop]; omega]
        exact rowSet (rowSet (rowSet (rowSet HO2.out (k * 4) _) (k * 4 + 1) _) (k * 4 + 2) _) (k * 4 + 3) _
      case measure => simp [intOf]; omega
    · have hke : k = l.length := by omega
      subst hke
      go_wp2
      go_ret
      refine ⟨by rw [← hz]; rfl, ?_, HGR.out⟩
      have h := HOR.out
      rw [List.drop_length, List.append_nil] at h
      exact h

set_option maxHeartbeats 8000000 in
set_option maxRecDepth 100000 in
theorem heldEG (w : World) (B n c : Nat) (A : Option Addr) (K0 : Nat) (hr : Ents w B A n (marksG K0 n)) (hB : B ≤ w.heap.size) (hn : n ≤ 1048576) (hK1 : 1 ≤ K0) (hK : K0 ≤ 1000000000) :
    Calls Try.prog 50 #[.slice A n c, .int .i64 ((K0 : Nat) : Int)] w fun e w' => e = .returned (.int .i64 ((K0 + 4 * n : Nat) : Int)) ∧ Below w.heap.size w w' := by
  have HR := Lib.hid hr
  clear hr
  go_enter Try.func50, Try.ntmps50
  go_wp2_with fail
  go_loopw [1, 5] (fun kv i wr => ∃ (k : Nat) (z : Int), k ≤ n ∧ i = .int .i64 (k : Nat) ∧ kv = .int .i64 z ∧ z = ((K0 + 4 * k : Nat) : Int) ∧ Below w.heap.size w wr) (fun _ i _ => n - (intOf i).toNat)
  case atStart => exact ⟨0, ((K0 : Nat) : Int), Nat.zero_le _, rfl, rfl, rfl, Below.refl _ _⟩
  case round =>
    obtain ⟨k, z, hk, rfl, rfl, hz, hb⟩ := hrel
    have HBL := Lib.hid hb
    have hsz := hb.size
    clear hb
    by_cases hlt : k < n
    · obtain ⟨kb, ko, hA, hkb, c0, c1, c2, c3⟩ := (HR.out.below HBL.out hB).cell k (by rw [marksG_len]; exact hlt)
      rw [marksG_get] at c0 c1 c2 c3
      subst hA
      have z0 : (0 : Int) ≤ (k : Int) := by omega
      have z1 : (k : Int) < (n : Int) := by omega
      have HMT := Lib.hid (show ∀ W : World, Calls Try.prog 86 #[.int .i64 z] W fun e w' => e = .returned (.string (markB (K0 + 4 * k))) ∧ Below W.heap.size W w' from fun W => by rw [hz]; exact markT (K0 + 4 * k) W (by omega) (by omega))
      obtain ⟨u1, hu1⟩ : ∃ u : Int, u = z + 1 := ⟨_, rfl⟩
      obtain ⟨u2, hu2⟩ : ∃ u : Int, u = z + 2 := ⟨_, rfl⟩
      obtain ⟨u3, hu3⟩ : ∃ u : Int, u = z + 3 := ⟨_, rfl⟩
      obtain ⟨u4, hu4⟩ : ∃ u : Int, u = z + 4 := ⟨_, rfl⟩
      have e1 : IntKind.i64.wrap (z + 1) = u1 := by rw [hu1]; exact i64_z _ (by omega) (by omega)
      have e2 : IntKind.i64.wrap (u1 + 1) = u2 := by rw [show u1 + 1 = u2 by omega]; exact i64_z _ (by omega) (by omega)
      have e3 : IntKind.i64.wrap (u2 + 1) = u3 := by rw [show u2 + 1 = u3 by omega]; exact i64_z _ (by omega) (by omega)
      have e4 : IntKind.i64.wrap (u3 + 1) = u4 := by rw [show u3 + 1 = u4 by omega]; exact i64_z _ (by omega) (by omega)
      have HU4 := Lib.hid (show u4 = ((K0 + 4 * (k + 1) : Nat) : Int) by omega)
      obtain ⟨gb, hgb⟩ : ∃ gb : Bool, gb = decide ((K0 + 2 + 4 * k) % 3 = 0) := ⟨_, rfl⟩
      have em : u2.tmod 3 = u2 % 3 := Int.tmod_eq_emod_of_nonneg (by omega)
      have eg : (u2 % 3 == 0) = gb := by
        rw [hgb, hu2, hz, Bool.eq_iff_iff]
        simp only [beq_iff_eq, decide_eq_true_eq]
        omega
      have HE := show markEnG K0 k = ⟨markB (K0 + 4 * k), u1, gb, u3⟩ by unfold markEnG; rw [hgb, show u1 = ((K0 + 1 + 4 * k : Nat) : Int) by omega, show u3 = ((K0 + 3 + 4 * k : Nat) : Int) by omega]
      rw [HE] at c0 c1 c2 c3
      have hbw : kb < wr.heap.size := by omega
      have HC0 := Lib.hid c0
      have HC1 := Lib.hid c1
      have HC2 := Lib.hid c2
      have HC3 := Lib.hid c3
      clear hz hu1 hu2 hu3 hu4 hgb HE c1 c2 c3
      have es : ((markB (K0 + 4 * k)).toList == (markB (K0 + 4 * k)).toList) = true := by simp
      go_wp2_with fail
      go_region_with ((go_at_call 86; refine Calls.mono (HMT.out _) ?_; rintro e w2 ⟨rfl, hb2⟩; have d0 : w2.cell? ⟨kb, ko + k * 4, none⟩ = some (.string (markB (K0 + 4 * k))) := (hb2.cell (p := ⟨kb, ko + k * 4, none⟩) hbw).trans HC0.out))
      all_goals
        have d1 : w2.cell? ⟨kb, ko + k * 4 + 1, none⟩ = some (.int .i64 u1) := (hb2.cell (p := ⟨kb, ko + k * 4 + 1, none⟩) hbw).trans HC1.out
        have d2 : w2.cell? ⟨kb, ko + k * 4 + 2, none⟩ = some (.bool gb) := (hb2.cell (p := ⟨kb, ko + k * 4 + 2, none⟩) hbw).trans HC2.out
        have d3 : w2.cell? ⟨kb, ko + k * 4 + 3, none⟩ = some (.int .i64 u3) := (hb2.cell (p := ⟨kb, ko + k * 4 + 3, none⟩) hbw).trans HC3.out
        have HB2 := Lib.hid (HBL.out.trans (Below.mono (Below.of_drew hb2) hsz))
        clear hb2
        cases gb
        all_goals
          go_wp2
          go_roundw
          case rel => exact ⟨k + 1, u4, by omega, by go_num, rfl, HU4.out, HB2.out⟩
          case measure => simp [intOf]; omega
    · have hke : k = n := by omega
      subst hke
      go_wp2
      go_ret
      exact ⟨by rw [← hz]; rfl, HBL.out⟩

end Go.Proofs.Ytfpgjkanmanajaa.W
