/-
  The model's StoreOk.
-/
import Derived.Test.YtfhpkcamigkmdaaGreatDoorZAA
import Derived.Test.YtfhpkcamigkmdaaGreatDoorQH
import Derived.Test.YtfhpkcamigkmdaaGreatDoorQK
namespace Go.Proofs.YtfhpkcamigkmdaaGreatDoor.W
open Go.RowKit K R

/-- a store is one -/
structure StP (s : Sto) : Prop where
  nl : s.levels.length = 3
  ns : s.sieves.length = 3
  keep : inB s.keep 0 5 = true
  time : inB s.time 0 999 = true
  times : timesB s.times s.time = true
  top : runB s.top = true
  four : s.top.length ≤ 4
  lvl : ∀ i (h : i < s.levels.length) (h2 : i < s.sieves.length), lvlB s.keep i s.levels[i] s.sieves[i] = true
  new : newestIn s.time (s.top :: s.levels) = true
/-- whether a store is one -/
def Tells (s : Sto) (w : World) (e : Ending) (w' : World) : Prop := ∃ b, e = .returned (.bool b) ∧ (b = true ↔ StP s) ∧ Below w.heap.size w w'
theorem Svs.more {w : World} {B B' n : Nat} {A : Option Addr} {ss : List Sf} (h : Svs w B A n ss) (hB : B ≤ B') : Svs w B' A n ss :=
  ⟨h.len, fun i hi => by
    obtain ⟨b, off, A', c', hA, hlt, c0, c1, c2, c3, c4, he, h1, h2⟩ := h.cell i hi
    exact ⟨b, off, A', c', hA, Nat.lt_of_lt_of_le hlt hB, c0, c1, c2, c3, c4, he.more hB, h1, h2⟩⟩
theorem StM.more {w : World} {B B' : Nat} {A0 A1 A2 A5 : Option Addr} {c0 c1 c2 c5 : Nat} {s : Sto} (h : StM w B A0 A1 A2 A5 c0 c1 c2 c5 s) (hB : B ≤ B') : StM w B' A0 A1 A2 A5 c0 c1 c2 c5 s :=
  ⟨h.top.more hB, h.levels.more hB, h.sieves.more hB, h.times.more hB, h.b0, h.b1, h.b2, h.b5⟩

set_option maxHeartbeats 16000000 in
set_option maxRecDepth 100000 in
theorem okSt (w : World) (A0 A1 A2 A5 : Option Addr) (c0 c1 c2 c5 : Nat) (s : Sto) (hr : StM w w.heap.size A0 A1 A2 A5 c0 c1 c2 c5 s) (hsm : smallSt s) :
    Calls Tryz.prog 39 #[stV A0 A1 A2 A5 c0 c1 c2 c5 s] w (Tells s w) := by
  obtain ⟨top, levels, sieves, keep, time, times⟩ := s
  have HR := Lib.hid hr
  have HSM := Lib.hid hsm
  simp only [stV] at *
  obtain ⟨W0, hW0⟩ : ∃ W0, W0 = w.alloc (.cells #[.slice A0 top.length c0, .slice A1 levels.length c1, .slice A2 sieves.length c2, .int .i64 keep, .int .i64 time, .slice A5 times.length c5] 33) := ⟨_, rfl⟩
  have hbw : Below w.heap.size w W0 := by rw [hW0]; exact (Below.refl _ _).alloc (Nat.le_refl _) _
  have hs0 : W0.heap.size = w.heap.size + 1 := by rw [hW0]; simp
  have x0 : W0.heap[w.heap.size]? = some (.cells #[.slice A0 top.length c0, .slice A1 levels.length c1, .slice A2 sieves.length c2, .int .i64 keep, .int .i64 time, .slice A5 times.length c5] 33 (0, 0)) := by rw [hW0]; exact heap_alloc_new _ _
  have HB := Lib.hid hbw
  have HBX := Lib.hid (show ∀ W, Below W0.heap.size W0 W → _ from fun W hW => st_cells ((hW.block w.heap.size (by omega)).trans x0))
  have HRW := Lib.hid (show ∀ W, Below W0.heap.size W0 W → StM W W.heap.size A0 A1 A2 A5 c0 c1 c2 c5 ⟨top, levels, sieves, keep, time, times⟩ ∧ w.heap.size ≤ W.heap.size from fun W hW => by
    have hz := Nat.le_trans hbw.size hW.size
    exact ⟨((HR.out.below hbw (Nat.le_refl _)).below (hW.mono hbw.size) (Nat.le_refl _)).more hz, hz⟩)
  have hb0 : top.length ≤ maxLen := Nat.le_trans HR.out.b0.1 HR.out.b0.2
  have hfr : ∀ e ∈ top, e.key.size ≤ maxLen := fun e he => by have := HSM.out.1.2 e he; unfold maxLen; omega
  have HTM := Lib.hid (timesS W0 W0.heap.size times.length c5 A5 times time (HRW.out W0 (Below.refl _ _)).1.times (Nat.le_refl _) (by have := HSM.out.2.2.2; unfold maxLen; simp at this; omega))
  have HRT := Lib.hid (show ∀ W, Below W0.heap.size W0 W → Calls Tryz.prog 93 #[.slice A0 top.length c0] W fun e w' => e = .returned (.bool (runB top)) ∧ Below W0.heap.size W0 w' from fun W hW =>
    (runS W W.heap.size top.length c0 A0 top (HRW.out W hW).1.top (Nat.le_refl _) hb0 hfr).mono fun _ _ ⟨x, y⟩ => ⟨x, hW.trans (y.mono hW.size)⟩)
  have HW0 := Lib.hid hW0
  clear hr hsm hbw hs0 x0 hb0 hfr hW0
  by_cases g1 : levels.length = 3
  case neg =>
    have n1 : ((levels.length : Int) != 3) = true := by simp; omega
    go_enter Tryz.func39, Tryz.ntmps39
    go_wp2_with (first | (go_at_call 61; refine (inS _ _ _ _).mono ?_; rintro e w' ⟨rfl, rfl⟩) | (rw [← HW0.out]; go_at_call 41; refine Calls.mono HTM.out ?_; rintro e w3 ⟨rfl, m3, rfl⟩; have HB3 := Lib.hid (below_drewN (Below.refl W0.heap.size W0) m3); obtain ⟨b0, b1, b2, b3, b4, b5⟩ := HBX.out _ HB3.out) | (go_at_call 93; refine Calls.mono (HRT.out _ HB3.out) ?_; rintro e w4 ⟨rfl, hb4⟩; have HB4 := Lib.hid hb4; clear hb4; obtain ⟨d0, d1, d2, d3, d4, d5⟩ := HBX.out _ HB4.out))
    go_ret
    exact ⟨false, rfl, ⟨fun h => (by cases h), fun h => absurd h.nl (by exact g1)⟩, (by have h := HB.out; rwa [HW0.out] at h)⟩
  have n1 : ((levels.length : Int) != 3) = false := by simp; omega
  have G1 := Lib.hid g1
  clear g1
  by_cases g2 : sieves.length = 3
  case neg =>
    have n2 : ((sieves.length : Int) != 3) = true := by simp; omega
    go_enter Tryz.func39, Tryz.ntmps39
    go_wp2_with (first | (go_at_call 61; refine (inS _ _ _ _).mono ?_; rintro e w' ⟨rfl, rfl⟩) | (rw [← HW0.out]; go_at_call 41; refine Calls.mono HTM.out ?_; rintro e w3 ⟨rfl, m3, rfl⟩; have HB3 := Lib.hid (below_drewN (Below.refl W0.heap.size W0) m3); obtain ⟨b0, b1, b2, b3, b4, b5⟩ := HBX.out _ HB3.out) | (go_at_call 93; refine Calls.mono (HRT.out _ HB3.out) ?_; rintro e w4 ⟨rfl, hb4⟩; have HB4 := Lib.hid hb4; clear hb4; obtain ⟨d0, d1, d2, d3, d4, d5⟩ := HBX.out _ HB4.out))
    go_ret
    exact ⟨false, rfl, ⟨fun h => (by cases h), fun h => absurd h.ns (by exact g2)⟩, (by have h := HB.out; rwa [HW0.out] at h)⟩
  have n2 : ((sieves.length : Int) != 3) = false := by simp; omega
  have G2 := Lib.hid g2
  clear g2
  by_cases g3 : inB keep 0 5 = true
  case neg =>
    have g3 : inB keep 0 5 = false := by simpa using g3
    go_enter Tryz.func39, Tryz.ntmps39
    go_wp2_with (first | (go_at_call 61; refine (inS _ _ _ _).mono ?_; rintro e w' ⟨rfl, rfl⟩) | (rw [← HW0.out]; go_at_call 41; refine Calls.mono HTM.out ?_; rintro e w3 ⟨rfl, m3, rfl⟩; have HB3 := Lib.hid (below_drewN (Below.refl W0.heap.size W0) m3); obtain ⟨b0, b1, b2, b3, b4, b5⟩ := HBX.out _ HB3.out) | (go_at_call 93; refine Calls.mono (HRT.out _ HB3.out) ?_; rintro e w4 ⟨rfl, hb4⟩; have HB4 := Lib.hid hb4; clear hb4; obtain ⟨d0, d1, d2, d3, d4, d5⟩ := HBX.out _ HB4.out))
    go_ret
    exact ⟨false, rfl, ⟨fun h => (by cases h), fun h => absurd h.keep (by rw [g3]; simp)⟩, (by have h := HB.out; rwa [HW0.out] at h)⟩
  by_cases g4 : inB time 0 999 = true
  case neg =>
    have g4 : inB time 0 999 = false := by simpa using g4
    go_enter Tryz.func39, Tryz.ntmps39
    go_wp2_with (first | (go_at_call 61; refine (inS _ _ _ _).mono ?_; rintro e w' ⟨rfl, rfl⟩) | (rw [← HW0.out]; go_at_call 41; refine Calls.mono HTM.out ?_; rintro e w3 ⟨rfl, m3, rfl⟩; have HB3 := Lib.hid (below_drewN (Below.refl W0.heap.size W0) m3); obtain ⟨b0, b1, b2, b3, b4, b5⟩ := HBX.out _ HB3.out) | (go_at_call 93; refine Calls.mono (HRT.out _ HB3.out) ?_; rintro e w4 ⟨rfl, hb4⟩; have HB4 := Lib.hid hb4; clear hb4; obtain ⟨d0, d1, d2, d3, d4, d5⟩ := HBX.out _ HB4.out))
    go_ret
    exact ⟨false, rfl, ⟨fun h => (by cases h), fun h => absurd h.time (by rw [g4]; simp)⟩, (by have h := HB.out; rwa [HW0.out] at h)⟩
  by_cases g5 : timesB times time = true
  case neg =>
    have g5 : timesB times time = false := by simpa using g5
    go_enter Tryz.func39, Tryz.ntmps39
    go_wp2_with (first | (go_at_call 61; refine (inS _ _ _ _).mono ?_; rintro e w' ⟨rfl, rfl⟩) | (rw [← HW0.out]; go_at_call 41; refine Calls.mono HTM.out ?_; rintro e w3 ⟨rfl, m3, rfl⟩; have HB3 := Lib.hid (below_drewN (Below.refl W0.heap.size W0) m3); obtain ⟨b0, b1, b2, b3, b4, b5⟩ := HBX.out _ HB3.out) | (go_at_call 93; refine Calls.mono (HRT.out _ HB3.out) ?_; rintro e w4 ⟨rfl, hb4⟩; have HB4 := Lib.hid hb4; clear hb4; obtain ⟨d0, d1, d2, d3, d4, d5⟩ := HBX.out _ HB4.out))
    go_ret
    exact ⟨false, rfl, ⟨fun h => (by cases h), fun h => absurd h.times (by rw [g5]; simp)⟩, HB.out.trans (HB3.out.mono HB.out.size)⟩
  by_cases g6 : runB top = true
  case neg =>
    have g6 : runB top = false := by simpa using g6
    go_enter Tryz.func39, Tryz.ntmps39
    go_wp2_with (first | (go_at_call 61; refine (inS _ _ _ _).mono ?_; rintro e w' ⟨rfl, rfl⟩) | (rw [← HW0.out]; go_at_call 41; refine Calls.mono HTM.out ?_; rintro e w3 ⟨rfl, m3, rfl⟩; have HB3 := Lib.hid (below_drewN (Below.refl W0.heap.size W0) m3); obtain ⟨b0, b1, b2, b3, b4, b5⟩ := HBX.out _ HB3.out) | (go_at_call 93; refine Calls.mono (HRT.out _ HB3.out) ?_; rintro e w4 ⟨rfl, hb4⟩; have HB4 := Lib.hid hb4; clear hb4; obtain ⟨d0, d1, d2, d3, d4, d5⟩ := HBX.out _ HB4.out))
    go_ret
    exact ⟨false, rfl, ⟨fun h => (by cases h), fun h => absurd h.top (by rw [g6]; simp)⟩, HB.out.trans (HB4.out.mono HB.out.size)⟩
  by_cases g7 : top.length ≤ 4
  case neg =>
    have n7 : (4 : Int) < (top.length : Int) := by omega
    go_enter Tryz.func39, Tryz.ntmps39
    go_wp2_with (first | (go_at_call 61; refine (inS _ _ _ _).mono ?_; rintro e w' ⟨rfl, rfl⟩) | (rw [← HW0.out]; go_at_call 41; refine Calls.mono HTM.out ?_; rintro e w3 ⟨rfl, m3, rfl⟩; have HB3 := Lib.hid (below_drewN (Below.refl W0.heap.size W0) m3); obtain ⟨b0, b1, b2, b3, b4, b5⟩ := HBX.out _ HB3.out) | (go_at_call 93; refine Calls.mono (HRT.out _ HB3.out) ?_; rintro e w4 ⟨rfl, hb4⟩; have HB4 := Lib.hid hb4; clear hb4; obtain ⟨d0, d1, d2, d3, d4, d5⟩ := HBX.out _ HB4.out))
    go_ret
    exact ⟨false, rfl, ⟨fun h => (by cases h), fun h => absurd h.four (by exact g7)⟩, HB.out.trans (HB4.out.mono HB.out.size)⟩
  have n7 : ¬ (4 : Int) < (top.length : Int) := by omega
  go_enter Tryz.func39, Tryz.ntmps39
  go_wp2_with (first | (go_at_call 61; refine (inS _ _ _ _).mono ?_; rintro e w' ⟨rfl, rfl⟩) | (rw [← HW0.out]; go_at_call 41; refine Calls.mono HTM.out ?_; rintro e w3 ⟨rfl, m3, rfl⟩; have HB3 := Lib.hid (below_drewN (Below.refl W0.heap.size W0) m3); obtain ⟨b0, b1, b2, b3, b4, b5⟩ := HBX.out _ HB3.out) | (go_at_call 93; refine Calls.mono (HRT.out _ HB3.out) ?_; rintro e w4 ⟨rfl, hb4⟩; have HB4 := Lib.hid hb4; clear hb4; obtain ⟨d0, d1, d2, d3, d4, d5⟩ := HBX.out _ HB4.out))
  go_loopw [3] (fun i wr => ∃ k : Nat, k ≤ 3 ∧ i = .int .i64 (k : Nat) ∧ Hid (∀ j (h : j < levels.length) (h2 : j < sieves.length), j < k → lvlB keep j levels[j] sieves[j] = true) ∧ Hid (oldTo time top levels k) ∧ Below W0.heap.size W0 wr) (fun i _ => 3 - (intOf i).toNat)
  case atStart => exact ⟨0, by omega, rfl, Lib.hid (fun j _ _ h => by omega), Lib.hid (fun j _ h => by omega), HB4.out⟩
  case round =>
    obtain ⟨k, hk, rfl, hl, hn, hb⟩ := hrel
    have HBL := Lib.hid hb
    have hg1 := G1.out
    have hg2 := G2.out
    by_cases hlt : k < 3
    · have hkl : k < levels.length := by omega
      have hks : k < sieves.length := by omega
      have z0 : (0 : Int) ≤ (k : Int) := by omega
      have z1 : (k : Int) < (levels.length : Int) := by omega
      obtain ⟨lb, lo, A', c', hA, hlb, d0', he, e1, e2⟩ := (HRW.out W0 (Below.refl _ _)).1.levels.cell k hkl
      obtain ⟨r, h0⟩ : ∃ r, r = levels[k] := ⟨_, rfl⟩
      rw [← h0] at d0' he e1
      have HS8 := Lib.hid (show ∀ W, Below W0.heap.size W0 W → (fun W : World => (W.cell? ⟨w.heap.size, 0, none⟩ = some (.slice A0 top.length c0) ∧ W.cell? ⟨w.heap.size, 1, none⟩ = some (.slice A1 levels.length c1) ∧ W.cell? ⟨w.heap.size, 2, none⟩ = some (.slice A2 sieves.length c2) ∧ W.cell? ⟨w.heap.size, 3, none⟩ = some (.int .i64 keep) ∧ W.cell? ⟨w.heap.size, 4, none⟩ = some (.int .i64 time) ∧ W.cell? ⟨w.heap.size, 5, none⟩ = some (.slice A5 times.length c5)) ∧ W.cell? ⟨lb, lo + k, none⟩ = some (.slice A' r.length c')) W from fun W hW => ⟨HBX.out W hW, (hW.cell (p := ⟨lb, lo + k, none⟩) hlb).trans d0'⟩)
      obtain ⟨vb1, hb1⟩ : ∃ b, b = lvlB keep k levels[k] sieves[k] := ⟨_, rfl⟩
      have HLV := Lib.hid (show ∀ W, Below W0.heap.size W0 W → Calls Tryz.prog 94 #[.agg #[.slice A0 top.length c0, .slice A1 levels.length c1, .slice A2 sieves.length c2, .int .i64 keep, .int .i64 time, .slice A5 times.length c5], .int .i64 (k : Nat)] W fun e w' => e = .returned (.bool vb1) ∧ Below W0.heap.size W0 w' from fun W hW => by
        rw [hb1]
        exact (lvlS W A0 A1 A2 A5 c0 c1 c2 c5 k ⟨top, levels, sieves, keep, time, times⟩ (HRW.out W hW).1 HSM.out hkl hks (by omega)).mono fun _ _ ⟨x, y⟩ => ⟨x, hW.trans (y.mono hW.size)⟩)
      obtain ⟨vb2, hb2⟩ : ∃ b, b = newestB top r time := ⟨_, rfl⟩
      have HNT := Lib.hid (show ∀ W, Below W0.heap.size W0 W → Calls Tryz.prog 95 #[.slice A0 top.length c0, .slice A' r.length c', .int .i64 time] W fun e w' => e = .returned (.bool vb2) ∧ Below W0.heap.size W0 w' from fun W hW => by
        rw [hb2]
        exact (newestS W W.heap.size top.length c0 W0.heap.size r.length c' A0 A' top r time (HRW.out W hW).1.top (he.below hW (Nat.le_refl _)) (Nat.le_refl _) hW.size (Nat.le_trans HR.out.b0.1 HR.out.b0.2) (Nat.le_trans e1 e2)).mono fun _ _ ⟨x, y⟩ => ⟨x, hW.trans (y.mono hW.size)⟩)
      have H0 := Lib.hid h0
      have HB1 := Lib.hid hb1
      have HB2 := Lib.hid hb2
      have HE := Lib.hid he
      clear hg1 hg2 hb h0 hb1 hb2 he d0' b0 b1 b2 b3 b4 b5 d0 d1 d2 d3 d4 d5
      subst hA
      cases vb1 with
      | false =>
        go_upto_region 8 with fail
        refine wp_region_held_drew (S := (fun W : World => (W.cell? ⟨w.heap.size, 0, none⟩ = some (.slice A0 top.length c0) ∧ W.cell? ⟨w.heap.size, 1, none⟩ = some (.slice (some ⟨lb, lo, none⟩) levels.length c1) ∧ W.cell? ⟨w.heap.size, 2, none⟩ = some (.slice A2 sieves.length c2) ∧ W.cell? ⟨w.heap.size, 3, none⟩ = some (.int .i64 keep) ∧ W.cell? ⟨w.heap.size, 4, none⟩ = some (.int .i64 time) ∧ W.cell? ⟨w.heap.size, 5, none⟩ = some (.slice A5 times.length c5)) ∧ W.cell? ⟨lb, lo + k, none⟩ = some (.slice A' r.length c'))) (by kernel_rfl) (HS8.out _ (by exact bel2 HBL.out (by rfl) (by rfl) (by rfl) (by rfl))) (fun hHeld => ?_)
        refine wpAnyH_takes (a' := ?a1_) [0, 1] (k := 2) rfl (by kernel_rfl) (by kernel_rfl) (fun _ _ _ _ _ h => h) ?t1_ (by assumption) ?r1_
        case t1_ =>
          iterate 2
            apply takes_cons rfl
            · first | (refine Or.inl ⟨by rfl, fun w9 hSw => ?_⟩; clear hSw; go_simp; (first | done | with_reducible rfl)) | (refine Or.inl ⟨by rfl, fun w9 hSw => ?_⟩; obtain ⟨⟨f0, f1, f2, f3, f4, f5⟩, f6⟩ := hSw; go_simp; (first | done | with_reducible rfl))
            (try simp only [Act.put]); (try simp only [List.setIfInBounds_toArray]); (try simp only [List.set_cons_succ]); (try simp only [List.set_cons_zero])
          exact takes_nil
        refine wpAnyH_ready (rs := [2]) (by kernel_rfl) (by simp) ?_
        refine AllReadyH.cons (o := { dst := Option.some 51, op := Go.Op.call { callee := Go.Callee.value (Go.Operand.func 94), args := #[Go.Operand.tmp 49, Go.Operand.tmp 50], argTypes := #[33, 3] }, type := 4, pos := "l12_store.go:66", after := #[{ on := 0, ground := Go.Ground.data }, { on := 1, ground := Go.Ground.data }], guard := Option.none }) rfl (fun K hK => ?_) AllReadyH.nil
        go_simp
        (go_at_call 94; refine Calls.mono (HLV.out _ (by exact bel2 HBL.out (by rfl) (by rfl) (by rfl) (by rfl))) ?_; rintro e w9 ⟨rfl, hb9⟩; have HB9 := Lib.hid hb9; clear hb9)
        (try go_wp2_with fail)
        refine hK.out _ _ (HS8.out _ HB9.out) (fun hHeld => ?_)
        clear hK K
        (try simp only [Act.put]); (try simp only [List.setIfInBounds_toArray]); (try simp only [List.set_cons_succ]); (try simp only [List.set_cons_zero])
        refine wpAnyH_takes (a' := ?a2_) [3, 4, 5, 6, 7, 8, 9, 10, 11, 12, 13, 14, 15, 16] (k := 14) rfl (by kernel_rfl) (by kernel_rfl) (fun _ _ _ _ _ h => h) ?t2_ (by assumption) ?r2_
        case t2_ =>
          iterate 14
            apply takes_cons rfl
            · first | (refine Or.inl ⟨by rfl, fun w9 hSw => ?_⟩; clear hSw; go_simp; (first | done | with_reducible rfl)) | exact Or.inr ⟨by rfl, rfl⟩
            (try simp only [Act.put]); (try simp only [List.setIfInBounds_toArray]); (try simp only [List.set_cons_succ]); (try simp only [List.set_cons_zero])
          exact takes_nil
        refine wpAnyH_done (by kernel_rfl) ?_ _
        go_wp2
        go_ret
        exact ⟨false, rfl, ⟨fun h => (by cases h), fun h => absurd (h.lvl k hkl hks) (by show ¬ lvlB keep k levels[k] sieves[k] = true; rw [← HB1.out]; simp)⟩, HB.out.trans (HB9.out.mono HB.out.size)⟩
      | true =>
        cases vb2 with
        | false =>
          go_upto_region 8 with fail
          refine wp_region_held_drew (S := (fun W : World => (W.cell? ⟨w.heap.size, 0, none⟩ = some (.slice A0 top.length c0) ∧ W.cell? ⟨w.heap.size, 1, none⟩ = some (.slice (some ⟨lb, lo, none⟩) levels.length c1) ∧ W.cell? ⟨w.heap.size, 2, none⟩ = some (.slice A2 sieves.length c2) ∧ W.cell? ⟨w.heap.size, 3, none⟩ = some (.int .i64 keep) ∧ W.cell? ⟨w.heap.size, 4, none⟩ = some (.int .i64 time) ∧ W.cell? ⟨w.heap.size, 5, none⟩ = some (.slice A5 times.length c5)) ∧ W.cell? ⟨lb, lo + k, none⟩ = some (.slice A' r.length c'))) (by kernel_rfl) (HS8.out _ (by exact bel2 HBL.out (by rfl) (by rfl) (by rfl) (by rfl))) (fun hHeld => ?_)
          refine wpAnyH_takes (a' := ?a3_) [0, 1] (k := 2) rfl (by kernel_rfl) (by kernel_rfl) (fun _ _ _ _ _ h => h) ?t3_ (by assumption) ?r3_
          case t3_ =>
            iterate 2
              apply takes_cons rfl
              · first | (refine Or.inl ⟨by rfl, fun w9 hSw => ?_⟩; clear hSw; go_simp; (first | done | with_reducible rfl)) | (refine Or.inl ⟨by rfl, fun w9 hSw => ?_⟩; obtain ⟨⟨f0, f1, f2, f3, f4, f5⟩, f6⟩ := hSw; go_simp; (first | done | with_reducible rfl))
              (try simp only [Act.put]); (try simp only [List.setIfInBounds_toArray]); (try simp only [List.set_cons_succ]); (try simp only [List.set_cons_zero])
            exact takes_nil
          refine wpAnyH_ready (rs := [2]) (by kernel_rfl) (by simp) ?_
          refine AllReadyH.cons (o := { dst := Option.some 51, op := Go.Op.call { callee := Go.Callee.value (Go.Operand.func 94), args := #[Go.Operand.tmp 49, Go.Operand.tmp 50], argTypes := #[33, 3] }, type := 4, pos := "l12_store.go:66", after := #[{ on := 0, ground := Go.Ground.data }, { on := 1, ground := Go.Ground.data }], guard := Option.none }) rfl (fun K hK => ?_) AllReadyH.nil
          go_simp
          (go_at_call 94; refine Calls.mono (HLV.out _ (by exact bel2 HBL.out (by rfl) (by rfl) (by rfl) (by rfl))) ?_; rintro e w9 ⟨rfl, hb9⟩; have HB9 := Lib.hid hb9; clear hb9)
          (try go_wp2_with fail)
          refine hK.out _ _ (HS8.out _ HB9.out) (fun hHeld => ?_)
          clear hK K
          (try simp only [Act.put]); (try simp only [List.setIfInBounds_toArray]); (try simp only [List.set_cons_succ]); (try simp only [List.set_cons_zero])
          refine wpAnyH_takes (a' := ?a4_) [3, 4, 5, 6, 7, 8, 9, 10, 11, 12, 13] (k := 11) rfl (by kernel_rfl) (by kernel_rfl) (fun _ _ _ _ _ h => h) ?t4_ (by assumption) ?r4_
          case t4_ =>
            iterate 11
              apply takes_cons rfl
              · first | (refine Or.inl ⟨by rfl, fun w9 hSw => ?_⟩; clear hSw; go_simp; (first | done | with_reducible rfl)) | (refine Or.inl ⟨by rfl, fun w9 hSw => ?_⟩; obtain ⟨⟨f0, f1, f2, f3, f4, f5⟩, f6⟩ := hSw; go_simp; (first | done | with_reducible rfl))
              (try simp only [Act.put]); (try simp only [List.setIfInBounds_toArray]); (try simp only [List.set_cons_succ]); (try simp only [List.set_cons_zero])
            exact takes_nil
          refine wpAnyH_ready (rs := [14]) (by kernel_rfl) (by simp) ?_
          refine AllReadyH.cons (o := { dst := Option.some 63, op := Go.Op.call { callee := Go.Callee.value (Go.Operand.func 95), args := #[Go.Operand.tmp 55, Go.Operand.tmp 60, Go.Operand.tmp 62], argTypes := #[29, 29, 3] }, type := 4, pos := "l12_store.go:66", after := #[{ on := 6, ground := Go.Ground.data }, { on := 11, ground := Go.Ground.data }, { on := 13, ground := Go.Ground.data }, { on := 4, ground := Go.Ground.chain }, { on := 4, ground := Go.Ground.guard }], guard := Option.some (4, Bool.false) }) rfl (fun K hK => ?_) AllReadyH.nil
          go_simp
          (go_at_call 95; refine Calls.mono (HNT.out _ HB9.out) ?_; rintro e w8 ⟨rfl, hb8⟩; have HB8 := Lib.hid hb8; clear hb8)
          (try go_wp2_with fail)
          refine hK.out _ _ (HS8.out _ HB8.out) (fun hHeld => ?_)
          clear hK K
          (try simp only [Act.put]); (try simp only [List.setIfInBounds_toArray]); (try simp only [List.set_cons_succ]); (try simp only [List.set_cons_zero])
          refine wpAnyH_takes (a' := ?a5_) [15, 16] (k := 2) rfl (by kernel_rfl) (by kernel_rfl) (fun _ _ _ _ _ h => h) ?t5_ (by assumption) ?r5_
          case t5_ =>
            iterate 2
              apply takes_cons rfl
              · first | (refine Or.inl ⟨by rfl, fun w9 hSw => ?_⟩; clear hSw; go_simp; (first | done | with_reducible rfl))
              (try simp only [Act.put]); (try simp only [List.setIfInBounds_toArray]); (try simp only [List.set_cons_succ]); (try simp only [List.set_cons_zero])
            exact takes_nil
          refine wpAnyH_done (by kernel_rfl) ?_ _
          go_wp2
          go_ret
          exact ⟨false, rfl, ⟨fun h => (by cases h), fun h => absurd h.new (oldTo_no_top hkl (by rw [← H0.out]; exact HB2.out.symm))⟩, HB.out.trans (HB8.out.mono HB.out.size)⟩
        | true =>
          go_upto_region 8 with fail
          refine wp_region_held_drew (S := (fun W : World => (W.cell? ⟨w.heap.size, 0, none⟩ = some (.slice A0 top.length c0) ∧ W.cell? ⟨w.heap.size, 1, none⟩ = some (.slice (some ⟨lb, lo, none⟩) levels.length c1) ∧ W.cell? ⟨w.heap.size, 2, none⟩ = some (.slice A2 sieves.length c2) ∧ W.cell? ⟨w.heap.size, 3, none⟩ = some (.int .i64 keep) ∧ W.cell? ⟨w.heap.size, 4, none⟩ = some (.int .i64 time) ∧ W.cell? ⟨w.heap.size, 5, none⟩ = some (.slice A5 times.length c5)) ∧ W.cell? ⟨lb, lo + k, none⟩ = some (.slice A' r.length c'))) (by kernel_rfl) (HS8.out _ (by exact bel2 HBL.out (by rfl) (by rfl) (by rfl) (by rfl))) (fun hHeld => ?_)
          refine wpAnyH_takes (a' := ?a6_) [0, 1] (k := 2) rfl (by kernel_rfl) (by kernel_rfl) (fun _ _ _ _ _ h => h) ?t6_ (by assumption) ?r6_
          case t6_ =>
            iterate 2
              apply takes_cons rfl
              · first | (refine Or.inl ⟨by rfl, fun w9 hSw => ?_⟩; clear hSw; go_simp; (first | done | with_reducible rfl)) | (refine Or.inl ⟨by rfl, fun w9 hSw => ?_⟩; obtain ⟨⟨f0, f1, f2, f3, f4, f5⟩, f6⟩ := hSw; go_simp; (first | done | with_reducible rfl))
              (try simp only [Act.put]); (try simp only [List.setIfInBounds_toArray]); (try simp only [List.set_cons_succ]); (try simp only [List.set_cons_zero])
            exact takes_nil
          refine wpAnyH_ready (rs := [2]) (by kernel_rfl) (by simp) ?_
          refine AllReadyH.cons (o := { dst := Option.some 51, op := Go.Op.call { callee := Go.Callee.value (Go.Operand.func 94), args := #[Go.Operand.tmp 49, Go.Operand.tmp 50], argTypes := #[33, 3] }, type := 4, pos := "l12_store.go:66", after := #[{ on := 0, ground := Go.Ground.data }, { on := 1, ground := Go.Ground.data }], guard := Option.none }) rfl (fun K hK => ?_) AllReadyH.nil
          go_simp
          (go_at_call 94; refine Calls.mono (HLV.out _ (by exact bel2 HBL.out (by rfl) (by rfl) (by rfl) (by rfl))) ?_; rintro e w9 ⟨rfl, hb9⟩; have HB9 := Lib.hid hb9; clear hb9)
          (try go_wp2_with fail)
          refine hK.out _ _ (HS8.out _ HB9.out) (fun hHeld => ?_)
          clear hK K
          (try simp only [Act.put]); (try simp only [List.setIfInBounds_toArray]); (try simp only [List.set_cons_succ]); (try simp only [List.set_cons_zero])
          refine wpAnyH_takes (a' := ?a7_) [3, 4, 5, 6, 7, 8, 9, 10, 11, 12, 13] (k := 11) rfl (by kernel_rfl) (by kernel_rfl) (fun _ _ _ _ _ h => h) ?t7_ (by assumption) ?r7_
          case t7_ =>
            iterate 11
              apply takes_cons rfl
              · first | (refine Or.inl ⟨by rfl, fun w9 hSw => ?_⟩; clear hSw; go_simp; (first | done | with_reducible rfl)) | (refine Or.inl ⟨by rfl, fun w9 hSw => ?_⟩; obtain ⟨⟨f0, f1, f2, f3, f4, f5⟩, f6⟩ := hSw; go_simp; (first | done | with_reducible rfl))
              (try simp only [Act.put]); (try simp only [List.setIfInBounds_toArray]); (try simp only [List.set_cons_succ]); (try simp only [List.set_cons_zero])
            exact takes_nil
          refine wpAnyH_ready (rs := [14]) (by kernel_rfl) (by simp) ?_
          refine AllReadyH.cons (o := { dst := Option.some 63, op := Go.Op.call { callee := Go.Callee.value (Go.Operand.func 95), args := #[Go.Operand.tmp 55, Go.Operand.tmp 60, Go.Operand.tmp 62], argTypes := #[29, 29, 3] }, type := 4, pos := "l12_store.go:66", after := #[{ on := 6, ground := Go.Ground.data }, { on := 11, ground := Go.Ground.data }, { on := 13, ground := Go.Ground.data }, { on := 4, ground := Go.Ground.chain }, { on := 4, ground := Go.Ground.guard }], guard := Option.some (4, Bool.false) }) rfl (fun K hK => ?_) AllReadyH.nil
          go_simp
          (go_at_call 95; refine Calls.mono (HNT.out _ HB9.out) ?_; rintro e w8 ⟨rfl, hb8⟩; have HB8 := Lib.hid hb8; clear hb8)
          (try go_wp2_with fail)
          refine hK.out _ _ (HS8.out _ HB8.out) (fun hHeld => ?_)
          clear hK K
          (try simp only [Act.put]); (try simp only [List.setIfInBounds_toArray]); (try simp only [List.set_cons_succ]); (try simp only [List.set_cons_zero])
          refine wpAnyH_takes (a' := ?a8_) [15, 16] (k := 2) rfl (by kernel_rfl) (by kernel_rfl) (fun _ _ _ _ _ h => h) ?t8_ (by assumption) ?r8_
          case t8_ =>
            iterate 2
              apply takes_cons rfl
              · first | (refine Or.inl ⟨by rfl, fun w9 hSw => ?_⟩; clear hSw; go_simp; (first | done | with_reducible rfl))
              (try simp only [Act.put]); (try simp only [List.setIfInBounds_toArray]); (try simp only [List.set_cons_succ]); (try simp only [List.set_cons_zero])
            exact takes_nil
          refine wpAnyH_done (by kernel_rfl) ?_ _
          go_wp2_with fail
          go_loopw [4] (fun m wi => ∃ q : Nat, k + 1 ≤ q ∧ q ≤ 3 ∧ m = .int .i64 (q : Nat) ∧ Hid (∀ j (h : j < levels.length), k < j → j < q → newestB r levels[j] time = true) ∧ Below W0.heap.size W0 wi) (fun m _ => 3 - (intOf m).toNat)
          case atStart => exact ⟨k + 1, Nat.le_refl _, by omega, by go_num, Lib.hid (fun j _ h1 h2 => by omega), HB8.out⟩
          case round =>
            obtain ⟨q, hq1, hq3, rfl, hj, hbi⟩ := hrel
            have HBI := Lib.hid hbi
            clear hbi
            have hg1 := G1.out
            by_cases hqt : q < 3
            · have hql : q < levels.length := by omega
              have y0 : (0 : Int) ≤ (q : Int) := by omega
              have y1 : (q : Int) < (levels.length : Int) := by omega
              obtain ⟨qb, qo, A3, c3, hA3, hqb, g0, he3, e3, e4⟩ := (HRW.out W0 (Below.refl _ _)).1.levels.cell q hql
              simp only [Option.some.injEq, Addr.mk.injEq, and_true] at hA3
              obtain ⟨rfl, rfl⟩ := hA3
              obtain ⟨r2, h2⟩ : ∃ r, r = levels[q] := ⟨_, rfl⟩
              rw [← h2] at g0 he3 e3
              have HS13 := Lib.hid (show ∀ W, Below W0.heap.size W0 W → (fun W : World => (W.cell? ⟨w.heap.size, 0, none⟩ = some (.slice A0 top.length c0) ∧ W.cell? ⟨w.heap.size, 1, none⟩ = some (.slice (some ⟨lb, lo, none⟩) levels.length c1) ∧ W.cell? ⟨w.heap.size, 2, none⟩ = some (.slice A2 sieves.length c2) ∧ W.cell? ⟨w.heap.size, 3, none⟩ = some (.int .i64 keep) ∧ W.cell? ⟨w.heap.size, 4, none⟩ = some (.int .i64 time) ∧ W.cell? ⟨w.heap.size, 5, none⟩ = some (.slice A5 times.length c5)) ∧ W.cell? ⟨lb, lo + k, none⟩ = some (.slice A' r.length c') ∧ W.cell? ⟨lb, lo + q, none⟩ = some (.slice A3 r2.length c3)) W from fun W hW => ⟨(HS8.out W hW).1, (HS8.out W hW).2, (hW.cell (p := ⟨lb, lo + q, none⟩) hqb).trans g0⟩)
              obtain ⟨vb3, hb3⟩ : ∃ b, b = newestB r r2 time := ⟨_, rfl⟩
              have HNW := Lib.hid (show ∀ W, Below W0.heap.size W0 W → Calls Tryz.prog 95 #[.slice A' r.length c', .slice A3 r2.length c3, .int .i64 time] W fun e w' => e = .returned (.bool vb3) ∧ Below W0.heap.size W0 w' from fun W hW => by
                rw [hb3]
                exact (newestS W W0.heap.size r.length c' W0.heap.size r2.length c3 A' A3 r r2 time (HE.out.below hW (Nat.le_refl _)) (he3.below hW (Nat.le_refl _)) hW.size hW.size (Nat.le_trans e1 e2) (Nat.le_trans e3 e4)).mono fun _ _ ⟨x, y⟩ => ⟨x, hW.trans (y.mono hW.size)⟩)
              have H2 := Lib.hid h2
              have HB3' := Lib.hid hb3
              clear hg1 h2 hb3 he3 g0
              cases vb3 with
              | false =>
                go_upto_region 13 with fail
                refine wp_region_held_drew (S := (fun W : World => (W.cell? ⟨w.heap.size, 0, none⟩ = some (.slice A0 top.length c0) ∧ W.cell? ⟨w.heap.size, 1, none⟩ = some (.slice (some ⟨lb, lo, none⟩) levels.length c1) ∧ W.cell? ⟨w.heap.size, 2, none⟩ = some (.slice A2 sieves.length c2) ∧ W.cell? ⟨w.heap.size, 3, none⟩ = some (.int .i64 keep) ∧ W.cell? ⟨w.heap.size, 4, none⟩ = some (.int .i64 time) ∧ W.cell? ⟨w.heap.size, 5, none⟩ = some (.slice A5 times.length c5)) ∧ W.cell? ⟨lb, lo + k, none⟩ = some (.slice A' r.length c') ∧ W.cell? ⟨lb, lo + q, none⟩ = some (.slice A3 r2.length c3))) (by kernel_rfl) (HS13.out _ (by exact bel2 HBI.out (by rfl) (by rfl) (by rfl) (by rfl))) (fun hHeld => ?_)
                refine wpAnyH_takes (a' := ?a9_) [0, 1, 2, 3, 4, 5, 6, 7, 8, 9, 10, 11] (k := 12) rfl (by kernel_rfl) (by kernel_rfl) (fun _ _ _ _ _ h => h) ?t9_ (by assumption) ?r9_
                case t9_ =>
                  iterate 12
                    apply takes_cons rfl
                    · first | (refine Or.inl ⟨by rfl, fun w9 hSw => ?_⟩; clear hSw; go_simp; (first | done | with_reducible rfl)) | (refine Or.inl ⟨by rfl, fun w9 hSw => ?_⟩; obtain ⟨⟨f0, f1, f2, f3, f4, f5⟩, f6, f7⟩ := hSw; go_simp; (first | done | with_reducible rfl))
                    (try simp only [Act.put]); (try simp only [List.setIfInBounds_toArray]); (try simp only [List.set_cons_succ]); (try simp only [List.set_cons_zero])
                  exact takes_nil
                refine wpAnyH_ready (rs := [12]) (by kernel_rfl) (by simp) ?_
                refine AllReadyH.cons (o := { dst := Option.some 84, op := Go.Op.call { callee := Go.Callee.value (Go.Operand.func 95), args := #[Go.Operand.tmp 76, Go.Operand.tmp 81, Go.Operand.tmp 83], argTypes := #[29, 29, 3] }, type := 4, pos := "l12_store.go:70", after := #[{ on := 4, ground := Go.Ground.data }, { on := 9, ground := Go.Ground.data }, { on := 11, ground := Go.Ground.data }], guard := Option.none }) rfl (fun K hK => ?_) AllReadyH.nil
                go_simp
                (go_at_call 95; refine Calls.mono (HNW.out _ (by exact bel2 HBI.out (by rfl) (by rfl) (by rfl) (by rfl))) ?_; rintro e w9 ⟨rfl, hb9⟩; have HB9 := Lib.hid hb9; clear hb9)
                (try go_wp2_with fail)
                refine hK.out _ _ (HS13.out _ HB9.out) (fun hHeld => ?_)
                clear hK K
                (try simp only [Act.put]); (try simp only [List.setIfInBounds_toArray]); (try simp only [List.set_cons_succ]); (try simp only [List.set_cons_zero])
                refine wpAnyH_takes (a' := ?a10_) [13] (k := 1) rfl (by kernel_rfl) (by kernel_rfl) (fun _ _ _ _ _ h => h) ?t10_ (by assumption) ?r10_
                case t10_ =>
                  iterate 1
                    apply takes_cons rfl
                    · first | (refine Or.inl ⟨by rfl, fun w9 hSw => ?_⟩; clear hSw; go_simp; (first | done | with_reducible rfl))
                    (try simp only [Act.put]); (try simp only [List.setIfInBounds_toArray]); (try simp only [List.set_cons_succ]); (try simp only [List.set_cons_zero])
                  exact takes_nil
                refine wpAnyH_done (by kernel_rfl) ?_ _
                go_wp2
                go_ret
                exact ⟨false, rfl, ⟨fun h => (by cases h), fun h => absurd h.new (oldTo_no hkl hql (by omega) (by rw [← H0.out, ← H2.out]; exact HB3'.out.symm))⟩, HB.out.trans (HB9.out.mono HB.out.size)⟩
              | true =>
                go_upto_region 13 with fail
                refine wp_region_held_drew (S := (fun W : World => (W.cell? ⟨w.heap.size, 0, none⟩ = some (.slice A0 top.length c0) ∧ W.cell? ⟨w.heap.size, 1, none⟩ = some (.slice (some ⟨lb, lo, none⟩) levels.length c1) ∧ W.cell? ⟨w.heap.size, 2, none⟩ = some (.slice A2 sieves.length c2) ∧ W.cell? ⟨w.heap.size, 3, none⟩ = some (.int .i64 keep) ∧ W.cell? ⟨w.heap.size, 4, none⟩ = some (.int .i64 time) ∧ W.cell? ⟨w.heap.size, 5, none⟩ = some (.slice A5 times.length c5)) ∧ W.cell? ⟨lb, lo + k, none⟩ = some (.slice A' r.length c') ∧ W.cell? ⟨lb, lo + q, none⟩ = some (.slice A3 r2.length c3))) (by kernel_rfl) (HS13.out _ (by exact bel2 HBI.out (by rfl) (by rfl) (by rfl) (by rfl))) (fun hHeld => ?_)
                refine wpAnyH_takes (a' := ?a11_) [0, 1, 2, 3, 4, 5, 6, 7, 8, 9, 10, 11] (k := 12) rfl (by kernel_rfl) (by kernel_rfl) (fun _ _ _ _ _ h => h) ?t11_ (by assumption) ?r11_
                case t11_ =>
                  iterate 12
                    apply takes_cons rfl
                    · first | (refine Or.inl ⟨by rfl, fun w9 hSw => ?_⟩; clear hSw; go_simp; (first | done | with_reducible rfl)) | (refine Or.inl ⟨by rfl, fun w9 hSw => ?_⟩; obtain ⟨⟨f0, f1, f2, f3, f4, f5⟩, f6, f7⟩ := hSw; go_simp; (first | done | with_reducible rfl))
                    (try simp only [Act.put]); (try simp only [List.setIfInBounds_toArray]); (try simp only [List.set_cons_succ]); (try simp only [List.set_cons_zero])
                  exact takes_nil
                refine wpAnyH_ready (rs := [12]) (by kernel_rfl) (by simp) ?_
                refine AllReadyH.cons (o := { dst := Option.some 84, op := Go.Op.call { callee := Go.Callee.value (Go.Operand.func 95), args := #[Go.Operand.tmp 76, Go.Operand.tmp 81, Go.Operand.tmp 83], argTypes := #[29, 29, 3] }, type := 4, pos := "l12_store.go:70", after := #[{ on := 4, ground := Go.Ground.data }, { on := 9, ground := Go.Ground.data }, { on := 11, ground := Go.Ground.data }], guard := Option.none }) rfl (fun K hK => ?_) AllReadyH.nil
                go_simp
                (go_at_call 95; refine Calls.mono (HNW.out _ (by exact bel2 HBI.out (by rfl) (by rfl) (by rfl) (by rfl))) ?_; rintro e w9 ⟨rfl, hb9⟩; have HB9 := Lib.hid hb9; clear hb9)
                (try go_wp2_with fail)
                refine hK.out _ _ (HS13.out _ HB9.out) (fun hHeld => ?_)
                clear hK K
                (try simp only [Act.put]); (try simp only [List.setIfInBounds_toArray]); (try simp only [List.set_cons_succ]); (try simp only [List.set_cons_zero])
                refine wpAnyH_takes (a' := ?a12_) [13] (k := 1) rfl (by kernel_rfl) (by kernel_rfl) (fun _ _ _ _ _ h => h) ?t12_ (by assumption) ?r12_
                case t12_ =>
                  iterate 1
                    apply takes_cons rfl
                    · first | (refine Or.inl ⟨by rfl, fun w9 hSw => ?_⟩; clear hSw; go_simp; (first | done | with_reducible rfl))
                    (try simp only [Act.put]); (try simp only [List.setIfInBounds_toArray]); (try simp only [List.set_cons_succ]); (try simp only [List.set_cons_zero])
                  exact takes_nil
                refine wpAnyH_done (by kernel_rfl) ?_ _
                go_wp2
                go_roundw
                case rel =>
                  refine ⟨q + 1, by omega, by omega, by go_num, Lib.hid (fun j h h1 h2 => ?_), HB9.out⟩
                  by_cases e : j = q
                  · subst e; rw [← H2.out]; exact HB3'.out.symm
                  · exact hj.out j h h1 (by omega)
                case measure => simp [intOf]; omega
            · have hq : q = 3 := by omega
              subst hq
              clear hg1
              go_wp2
              go_roundw
              case rel =>
                refine ⟨k + 1, by omega, by go_num, Lib.hid (fun j h h2 hjk => ?_), Lib.hid (fun j h hjk => ?_), HBI.out⟩
                · by_cases e : j = k
                  · subst e; exact HB1.out.symm
                  · exact hl.out j h h2 (by omega)
                · by_cases e : j = k
                  · subst e
                    refine ⟨by rw [← H0.out]; exact HB2.out.symm, fun m hm hjm => ?_⟩
                    rw [← H0.out]
                    exact hj.out m hm hjm (by have := G1.out; omega)
                  · exact hn.out j h (by omega)
              case measure => simp [intOf]; omega
    · have hke : k = 3 := by omega
      subst hke
      have HOK := Lib.hid (show StP ⟨top, levels, sieves, keep, time, times⟩ from ⟨hg1, hg2, g3, g4, g5, g6, g7, fun i h h2 => hl.out i h h2 (by show i < 3; simp at h; omega), oldTo_all.mp (by have := hn.out; rw [← hg1] at this; exact this)⟩)
      clear hg1 hg2
      go_wp2
      go_ret
      exact ⟨true, rfl, ⟨fun _ => HOK.out, fun _ => rfl⟩, HB.out.trans (HBL.out.mono HB.out.size)⟩

end Go.Proofs.YtfhpkcamigkmdaaGreatDoor.W
