/-
  The model's StoreOk.
-/
import Derived.Test.YtfhpkcamigkmdaaDoorQH
import Derived.Test.YtfhpkcamigkmdaaDoorQK
namespace Go.Proofs.YtfhpkcamigkmdaaDoor.W
open Go.RowKit K R

/-- a store is one -/
structure StP (s : Sto) : Prop where
  nl : s.levels.length = 3
  ns : s.sieves.length = 3
  keep : inB s.keep 0 5 = true
  time : inB s.time 0 999 = true
  times : timesB s.times s.time = true
  top : runB s.top = true
  four : s.top.length ≤ 4
  lvl : ∀ i (h : i < s.levels.length) (h2 : i < s.sieves.length), lvlB s.keep i s.levels[i] s.sieves[i] = true
  new : newestIn s.time (s.top :: s.levels) = true
/-- whether a store is one -/
def Tells (s : Sto) (w : World) (e : Ending) (w' : World) : Prop := ∃ b, e = .returned (.bool b) ∧ (b = true ↔ StP s) ∧ Below w.heap.size w w'
theorem Svs.more {w : World} {B B' n : Nat} {A : Option Addr} {ss : List Sf} (h : Svs w B A n ss) (hB : B ≤ B') : Svs w B' A n ss :=
  ⟨h.len, fun i hi => by
    obtain ⟨b, off, A', c', hA, hlt, c0, c1, c2, c3, c4, he, h1, h2⟩ := h.cell i hi
    exact ⟨b, off, A', c', hA, Nat.lt_of_lt_of_le hlt hB, c0, c1, c2, c3, c4, he.more hB, h1, h2⟩⟩
theorem StM.more {w : World} {B B' : Nat} {A0 A1 A2 A5 : Option Addr} {c0 c1 c2 c5 : Nat} {s : Sto} (h : StM w B A0 A1 A2 A5 c0 c1 c2 c5 s) (hB : B ≤ B') : StM w B' A0 A1 A2 A5 c0 c1 c2 c5 s :=
  ⟨h.top.more hB, h.levels.more hB, h.sieves.more hB, h.times.more hB, h.b0, h.b1, h.b2, h.b5⟩

set_option maxHeartbeats 16000000 in
set_option maxRecDepth 100000 in
theorem okSt (w : World) (A0 A1 A2 A5 : Option Addr) (c0 c1 c2 c5 : Nat) (s : Sto) (hr : StM w w.heap.size A0 A1 A2 A5 c0 c1 c2 c5 s) (hsm : smallSt s) :
    Calls Tryd.prog 11 #[stV A0 A1 A2 A5 c0 c1 c2 c5 s] w (Tells s w) := by
  obtain ⟨top, levels, sieves, keep, time, times⟩ := s
  have HR := Lib.hid hr
  have HSM := Lib.hid hsm
  simp only [stV] at *
  obtain ⟨W0, hW0⟩ : ∃ W0, W0 = w.alloc (.cells #[.slice A0 top.length c0, .slice A1 levels.length c1, .slice A2 sieves.length c2, .int .i64 keep, .int .i64 time, .slice A5 times.length c5] 27) := ⟨_, rfl⟩
  have hbw : Below w.heap.size w W0 := by rw [hW0]; exact (Below.refl _ _).alloc (Nat.le_refl _) _
  have hs0 : W0.heap.size = w.heap.size + 1 := by rw [hW0]; simp
  have x0 : W0.heap[w.heap.size]? = some (.cells #[.slice A0 top.length c0, .slice A1 levels.length c1, .slice A2 sieves.length c2, .int .i64 keep, .int .i64 time, .slice A5 times.length c5] 27 (0, 0)) := by rw [hW0]; exact heap_alloc_new _ _
  have HB := Lib.hid hbw
  have HBX := Lib.hid (show ∀ W, Below W0.heap.size W0 W → _ from fun W hW => st_cells ((hW.block w.heap.size (by omega)).trans x0))
  have HRW := Lib.hid (show ∀ W, Below W0.heap.size W0 W → StM W W.heap.size A0 A1 A2 A5 c0 c1 c2 c5 ⟨top, levels, sieves, keep, time, times⟩ ∧ w.heap.size ≤ W.heap.size from fun W hW => by
    have hz := Nat.le_trans hbw.size hW.size
    exact ⟨((HR.out.below hbw (Nat.le_refl _)).below (hW.mono hbw.size) (Nat.le_refl _)).more hz, hz⟩)
  have hb0 : top.length ≤ maxLen := Nat.le_trans HR.out.b0.1 HR.out.b0.2
  have hfr : ∀ e ∈ top, e.key.size ≤ maxLen := fun e he => by have := HSM.out.1.2 e he; unfold maxLen; omega
  have HTM := Lib.hid (timesS W0 W0.heap.size times.length c5 A5 times time (HRW.out W0 (Below.refl _ _)).1.times (Nat.le_refl _) (by have := HSM.out.2.2.2; unfold maxLen; simp at this; omega))
  have HRT := Lib.hid (show ∀ W, Below W0.heap.size W0 W → Calls Tryd.prog 34 #[.slice A0 top.length c0] W fun e w' => e = .returned (.bool (runB top)) ∧ Below W0.heap.size W0 w' from fun W hW =>
    (runS W W.heap.size top.length c0 A0 top (HRW.out W hW).1.top (Nat.le_refl _) hb0 hfr).mono fun _ _ ⟨x, y⟩ => ⟨x, hW.trans (y.mono hW.size)⟩)
  have HW0 := Lib.hid hW0
  clear hr hsm hbw hs0 x0 hb0 hfr hW0
  by_cases g1 : levels.length = 3
  case neg =>
    have n1 : ((levels.length : Int) != 3) = true := by simp; omega
    go_enter Tryd.func11, Tryd.ntmps11
    go_wp2_with (first | (go_at_call 14; refine (inS _ _ _ _).mono ?_; rintro e w' ⟨rfl, rfl⟩) | (rw [← HW0.out]; go_at_call 33; refine Calls.mono HTM.out ?_; rintro e w3 ⟨rfl, m3, rfl⟩; have HB3 := Lib.hid (below_drewN (Below.refl W0.heap.size W0) m3); obtain ⟨b0, b1, b2, b3, b4, b5⟩ := HBX.out _ HB3.out) | (go_at_call 34; refine Calls.mono (HRT.out _ HB3.out) ?_; rintro e w4 ⟨rfl, hb4⟩; have HB4 := Lib.hid hb4; clear hb4; obtain ⟨d0, d1, d2, d3, d4, d5⟩ := HBX.out _ HB4.out))
    go_ret
    exact ⟨false, rfl, ⟨fun h => (by cases h), fun h => absurd h.nl (by exact g1)⟩, (by have h := HB.out; rwa [HW0.out] at h)⟩
  have n1 : ((levels.length : Int) != 3) = false := by simp; omega
  have G1 := Lib.hid g1
  clear g1
  by_cases g2 : sieves.length = 3
  case neg =>
    have n2 : ((sieves.length : Int) != 3) = true := by simp; omega
    go_enter Tryd.func11, Tryd.ntmps11
    go_wp2_with (first | (go_at_call 14; refine (inS _ _ _ _).mono ?_; rintro e w' ⟨rfl, rfl⟩) | (rw [← HW0.out]; go_at_call 33; refine Calls.mono HTM.out ?_; rintro e w3 ⟨rfl, m3, rfl⟩; have HB3 := Lib.hid (below_drewN (Below.refl W0.heap.size W0) m3); obtain ⟨b0, b1, b2, b3, b4, b5⟩ := HBX.out _ HB3.out) | (go_at_call 34; refine Calls.mono (HRT.out _ HB3.out) ?_; rintro e w4 ⟨rfl, hb4⟩; have HB4 := Lib.hid hb4; clear hb4; obtain ⟨d0, d1, d2, d3, d4, d5⟩ := HBX.out _ HB4.out))
    go_ret
    exact ⟨false, rfl, ⟨fun h => (by cases h), fun h => absurd h.ns (by exact g2)⟩, (by have h := HB.out; rwa [HW0.out] at h)⟩
  have n2 : ((sieves.length : Int) != 3) = false := by simp; omega
  have G2 := Lib.hid g2
  clear g2
  by_cases g3 : inB keep 0 5 = true
  case neg =>
    have g3 : inB keep 0 5 = false := by simpa using g3
    go_enter Tryd.func11, Tryd.ntmps11
    go_wp2_with (first | (go_at_call 14; refine (inS _ _ _ _).mono ?_; rintro e w' ⟨rfl, rfl⟩) | (rw [← HW0.out]; go_at_call 33; refine Calls.mono HTM.out ?_; rintro e w3 ⟨rfl, m3, rfl⟩; have HB3 := Lib.hid (below_drewN (Below.refl W0.heap.size W0) m3); obtain ⟨b0, b1, b2, b3, b4, b5⟩ := HBX.out _ HB3.out) | (go_at_call 34; refine Calls.mono (HRT.out _ HB3.out) ?_; rintro e w4 ⟨rfl, hb4⟩; have HB4 := Lib.hid hb4; clear hb4; obtain ⟨d0, d1, d2, d3, d4, d5⟩ := HBX.out _ HB4.out))
    go_ret
    exact ⟨false, rfl, ⟨fun h => (by cases h), fun h => absurd h.keep (by rw [g3]; simp)⟩, (by have h := HB.out; rwa [HW0.out] at h)⟩
  by_cases g4 : inB time 0 999 = true
  case neg =>
    have g4 : inB time 0 999 = false := by simpa using g4
    go_enter Tryd.func11, Tryd.ntmps11
    go_wp2_with (first | (go_at_call 14; refine (inS _ _ _ _).mono ?_; rintro e w' ⟨rfl, rfl⟩) | (rw [← HW0.out]; go_at_call 33; refine Calls.mono HTM.out ?_; rintro e w3 ⟨rfl, m3, rfl⟩; have HB3 := Lib.hid (below_drewN (Below.refl W0.heap.size W0) m3); obtain ⟨b0, b1, b2, b3, b4, b5⟩ := HBX.out _ HB3.out) | (go_at_call 34; refine Calls.mono (HRT.out _ HB3.out) ?_; rintro e w4 ⟨rfl, hb4⟩; have HB4 := Lib.hid hb4; clear hb4; obtain ⟨d0, d1, d2, d3, d4, d5⟩ := HBX.out _ HB4.out))
    go_ret
    exact ⟨false, rfl, ⟨fun h => (by cases h), fun h => absurd h.time (by rw [g4]; simp)⟩, (by have h := HB.out; rwa [HW0.out] at h)⟩
  by_cases g5 : timesB times time = true
  case neg =>
    have g5 : timesB times time = false := by simpa using g5
    go_enter Tryd.func11, Tryd.ntmps11
    go_wp2_with (first | (go_at_call 14; refine (inS _ _ _ _).mono ?_; rintro e w' ⟨rfl, rfl⟩) | (rw [← HW0.out]; go_at_call 33; refine Calls.mono HTM.out ?_; rintro e w3 ⟨rfl, m3, rfl⟩; have HB3 := Lib.hid (below_drewN (Below.refl W0.heap.size W0) m3); obtain ⟨b0, b1, b2, b3, b4, b5⟩ := HBX.out _ HB3.out) | (go_at_call 34; refine Calls.mono (HRT.out _ HB3.out) ?_; rintro e w4 ⟨rfl, hb4⟩; have HB4 := Lib.hid hb4; clear hb4; obtain ⟨d0, d1, d2, d3, d4, d5⟩ := HBX.out _ HB4.out))
    go_ret
    exact ⟨false, rfl, ⟨fun h => (by cases h), fun h => absurd h.times (by rw [g5]; simp)⟩, HB.out.trans (HB3.out.mono HB.out.size)⟩
  by_cases g6 : runB top = true
  case neg =>
    have g6 : runB top = false := by simpa using g6
    go_enter Tryd.func11, Tryd.ntmps11
    go_wp2_with (first | (go_at_call 14; refine (inS _ _ _ _).mono ?_; rintro e w' ⟨rfl, rfl⟩) | (rw [← HW0.out]; go_at_call 33; refine Calls.mono HTM.out ?_; rintro e w3 ⟨rfl, m3, rfl⟩; have HB3 := Lib.hid (below_drewN (Below.refl W0.heap.size W0) m3); obtain ⟨b0, b1, b2, b3, b4, b5⟩ := HBX.out _ HB3.out) | (go_at_call 34; refine Calls.mono (HRT.out _ HB3.out) ?_; rintro e w4 ⟨rfl, hb4⟩; have HB4 := Lib.hid hb4; clear hb4; obtain ⟨d0, d1, d2, d3, d4, d5⟩ := HBX.out _ HB4.out))
    go_ret
    exact ⟨false, rfl, ⟨fun h => (by cases h), fun h => absurd h.top (by rw [g6]; simp)⟩, HB.out.trans (HB4.out.mono HB.out.size)⟩
  by_cases g7 : top.length ≤ 4
  case neg =>
    have n7 : (4 : Int) < (top.length : Int) := by omega
    go_enter Tryd.func11, Tryd.ntmps11
    go_wp2_with (first | (go_at_call 14; refine (inS _ _ _ _).mono ?_; rintro e w' ⟨rfl, rfl⟩) | (rw [← HW0.out]; go_at_call 33; refine Calls.mono HTM.out ?_; rintro e w3 ⟨rfl, m3, rfl⟩; have HB3 := Lib.hid (below_drewN (Below.refl W0.heap.size W0) m3); obtain ⟨b0, b1, b2, b3, b4, b5⟩ := HBX.out _ HB3.out) | (go_at_call 34; refine Calls.mono (HRT.out _ HB3.out) ?_; rintro e w4 ⟨rfl, hb4⟩; have HB4 := Lib.hid hb4; clear hb4; obtain ⟨d0, d1, d2, d3, d4, d5⟩ := HBX.out _ HB4.out))
    go_ret
    exact ⟨false, rfl, ⟨fun h => (by cases h), fun h => absurd h.four (by exact g7)⟩, HB.out.trans (HB4.out.mono HB.out.size)⟩
  have n7 : ¬ (4 : Int) < (top.length : Int) := by omega
  go_enter Tryd.func11, Tryd.ntmps11
  go_wp2_with (first | (go_at_call 14; refine (inS _ _ _ _).mono ?_; rintro e w' ⟨rfl, rfl⟩) | (rw [← HW0.out]; go_at_call 33; refine Calls.mono HTM.out ?_; rintro e w3 ⟨rfl, m3, rfl⟩; have HB3 := Lib.hid (below_drewN (Below.refl W0.heap.size W0) m3); obtain ⟨b0, b1, b2, b3, b4, b5⟩ := HBX.out _ HB3.out) | (go_at_call 34; refine Calls.mono (HRT.out _ HB3.out) ?_; rintro e w4 ⟨rfl, hb4⟩; have HB4 := Lib.hid hb4; clear hb4; obtain ⟨d0, d1, d2, d3, d4, d5⟩ := HBX.out _ HB4.out))
  go_loopw [3] (fun i wr => ∃ k : Nat, k ≤ 3 ∧ i = .int .i64 (k : Nat) ∧ Hid (∀ j (h : j < levels.length) (h2 : j < sieves.length), j < k → lvlB keep j levels[j] sieves[j] = true) ∧ Hid (oldTo time top levels k) ∧ Below W0.heap.size W0 wr) (fun i _ => 3 - (intOf i).toNat)
  case atStart => exact ⟨0, by omega, rfl, Lib.hid (fun j _ _ h => by omega), Lib.hid (fun j _ h => by omega), HB4.out⟩
  case round =>
    obtain ⟨k, hk, rfl, hl, hn, hb⟩ := hrel
    have HBL := Lib.hid hb
    have hg1 := G1.out
    have hg2 := G2.out
    by_cases hlt : k < 3
    · have hkl : k < levels.length := by omega
      have hks : k < sieves.length := by omega
      have z0 : (0 : Int) ≤ (k : Int) := by omega
      have z1 : (k : Int) < (levels.length : Int) := by omega
      obtain ⟨lb, lo, A', c', hA, hlb, d0', he, e1, e2⟩ := (HRW.out W0 (Below.refl _ _)).1.levels.cell k hkl
      obtain ⟨r, h0⟩ : ∃ r, r = levels[k] := ⟨_, rfl⟩
      rw [← h0] at d0' he e1
      have HS8 := Lib.hid (show ∀ W, Below W0.heap.size W0 W → (fun W : World => (W.cell? ⟨w.heap.size, 0, none⟩ = some (.slice A0 top.length c0) ∧ W.cell? ⟨w.heap.size, 1, none⟩ = some (.slice A1 levels.length c1) ∧ W.cell? ⟨w.heap.size, 2, none⟩ = some (.slice A2 sieves.length c2) ∧ W.cell? ⟨w.heap.size, 3, none⟩ = some (.int .i64 keep) ∧ W.cell? ⟨w.heap.size, 4, none⟩ = some (.int .i64 time) ∧ W.cell? ⟨w.heap.size, 5, none⟩ = some (.slice A5 times.length c5)) ∧ W.cell? ⟨lb, lo + k, none⟩ = some (.slice A' r.length c')) W from fun W hW => ⟨HBX.out W hW, (hW.cell (p := ⟨lb, lo + k, none⟩) hlb).trans d0'⟩)
      obtain ⟨vb1, hb1⟩ : ∃ b, b = lvlB keep k levels[k] sieves[k] := ⟨_, rfl⟩
      have HLV := Lib.hid (show ∀ W, Below W0.heap.size W0 W → Calls Tryd.prog 35 #[.agg #[.slice A0 top.length c0, .slice A1 levels.length c1, .slice A2 sieves.length c2, .int .i64 keep, .int .i64 time, .slice A5 times.length c5], .int .i64 (k : Nat)] W fun e w' => e = .returned (.bool vb1) ∧ Below W0.heap.size W0 w' from fun W hW => by
        rw [hb1]
        exact (lvlS W A0 A1 A2 A5 c0 c1 c2 c5 k ⟨top, levels, sieves, keep, time, times⟩ (HRW.out W hW).1 HSM.out hkl hks (by omega)).mono fun _ _ ⟨x, y⟩ => ⟨x, hW.trans (y.mono hW.size)⟩)
      obtain ⟨vb2, hb2⟩ : ∃ b, b = newestB top r time := ⟨_, rfl⟩
      have HNT := Lib.hid (show ∀ W, Below W0.heap.size W0 W → Calls Tryd.prog 36 #[.slice A0 top.length c0, .slice A' r.length c', .int .i64 time] W fun e w' => e = .returned (.bool vb2) ∧ Below W0.heap.size W0 w' from fun W hW => by
        rw [hb2]
        exact (newestS W W.heap.size top.length c0 W0.heap.size r.length c' A0 A' top r time (HRW.out W hW).1.top (he.below hW (Nat.le_refl _)) (Nat.le_refl _) hW.size (Nat.le_trans HR.out.b0.1 HR.out.b0.2) (Nat.le_trans e1 e2)).mono fun _ _ ⟨x, y⟩ => ⟨x, hW.trans (y.mono hW.size)⟩)
      have H0 := Lib.hid h0
      have HB1 := Lib.hid hb1
      have HB2 := Lib.hid hb2
      have HE := Lib.hid he
      clear hg1 hg2 hb h0 hb1 hb2 he d0' b0 b1 b2 b3 b4 b5 d0 d1 d2 d3 d4 d5
      subst hA
      cases vb1 with
      | false =>
        go_upto_region 8 with fail
        refine wp_region_held_drew (S := (fun W : World => (W.cell? ⟨w.heap.size, 0, none⟩ = some (.slice A0 top.length c0) ∧ W.cell? ⟨w.heap.size, 1, none⟩ = some (.slice (some ⟨lb, lo, none⟩) levels.length c1) ∧ W.cell? ⟨w.heap.size, 2, none⟩ = some (.slice A2 sieves.length c2) ∧ W.cell? ⟨w.heap.size, 3, none⟩ = some (.int .i64 keep) ∧ W.cell? ⟨w.heap.size, 4, none⟩ = some (.int .i64 time) ∧ W.cell? ⟨w.heap.size, 5, none⟩ = some (.slice A5 times.length c5)) ∧ W.cell? ⟨lb, lo + k, none⟩ = some (.slice A' r.length c'))) (by kernel_rfl) (HS8.out _ (by exact bel2 HBL.out (by rfl) (by rfl) (by rfl) (by rfl))) (fun hHeld => ?_)
        refine wpAnyH_take (i := 0) (oi := { dst := Option.some 49, op := Go.Op.load 27 (Go.Operand.tmp 1), type := 27, pos := "l12_store.go:66", after := #[], guard := Option.none }) (v := ?v1) rfl (by kernel_rfl) (by kernel_rfl) (by kernel_rfl) (fun _ _ _ h => h) (Or.inl ⟨by rfl, ?hy1⟩) (by assumption) ?rest1
        case hy1 =>
          intro w9 hSw
          obtain ⟨⟨f0, f1, f2, f3, f4, f5⟩, f6⟩ := hSw
          go_simp
          first | done | with_reducible rfl
        (try simp only [Act.put]); (try simp only [List.setIfInBounds_toArray]); (try simp only [List.set_cons_succ]); (try simp only [List.set_cons_zero])
        refine wpAnyH_take (i := 1) (oi := { dst := Option.some 50, op := Go.Op.move (Go.Operand.tmp 3), type := 3, pos := "l12_store.go:66", after := #[], guard := Option.none }) (v := ?v2) rfl (by kernel_rfl) (by kernel_rfl) (by kernel_rfl) (fun _ _ _ h => h) (Or.inl ⟨by rfl, ?hy2⟩) (by assumption) ?rest2
        case hy2 =>
          intro w9 hSw
          clear hSw
          go_simp
          first | done | with_reducible rfl
        (try simp only [Act.put]); (try simp only [List.setIfInBounds_toArray]); (try simp only [List.set_cons_succ]); (try simp only [List.set_cons_zero])
        refine wpAnyH_ready (rs := [2]) (by kernel_rfl) (by simp) ?_
        refine AllReadyH.cons (o := { dst := Option.some 51, op := Go.Op.call { callee := Go.Callee.value (Go.Operand.func 35), args := #[Go.Operand.tmp 49, Go.Operand.tmp 50], argTypes := #[27, 3] }, type := 4, pos := "l12_store.go:66", after := #[{ on := 0, ground := Go.Ground.data }, { on := 1, ground := Go.Ground.data }], guard := Option.none }) rfl (fun K hK => ?_) AllReadyH.nil
        go_simp
        (go_at_call 35; refine Calls.mono (HLV.out _ (by exact bel2 HBL.out (by rfl) (by rfl) (by rfl) (by rfl))) ?_; rintro e w9 ⟨rfl, hb9⟩; have HB9 := Lib.hid hb9; clear hb9)
        (try go_wp2_with fail)
        refine hK.out _ _ (HS8.out _ HB9.out) (fun hHeld => ?_)
        clear hK K
        (try simp only [Act.put]); (try simp only [List.setIfInBounds_toArray]); (try simp only [List.set_cons_succ]); (try simp only [List.set_cons_zero])
        refine wpAnyH_take (i := 3) (oi := { dst := Option.some 52, op := Go.Op.unOp Go.UnOp.not 4 (Go.Operand.tmp 51), type := 4, pos := "l12_store.go:66", after := #[{ on := 2, ground := Go.Ground.data }], guard := Option.none }) (v := ?v3) rfl (by kernel_rfl) (by kernel_rfl) (by kernel_rfl) (fun _ _ _ h => h) (Or.inl ⟨by rfl, ?hy3⟩) (by assumption) ?rest3
        case hy3 =>
          intro w9 hSw
          clear hSw
          go_simp
          first | done | with_reducible rfl
        (try simp only [Act.put]); (try simp only [List.setIfInBounds_toArray]); (try simp only [List.set_cons_succ]); (try simp only [List.set_cons_zero])
        refine wpAnyH_take (i := 4) (oi := { dst := Option.some 53, op := Go.Op.move (Go.Operand.tmp 52), type := 4, pos := "l12_store.go:66", after := #[{ on := 3, ground := Go.Ground.data }, { on := 2, ground := Go.Ground.chain }], guard := Option.none }) (v := ?v4) rfl (by kernel_rfl) (by kernel_rfl) (by kernel_rfl) (fun _ _ _ h => h) (Or.inl ⟨by rfl, ?hy4⟩) (by assumption) ?rest4
        case hy4 =>
          intro w9 hSw
          clear hSw
          go_simp
          first | done | with_reducible rfl
        (try simp only [Act.put]); (try simp only [List.setIfInBounds_toArray]); (try simp only [List.set_cons_succ]); (try simp only [List.set_cons_zero])
        refine wpAnyH_take (i := 5) (oi := { dst := Option.some 54, op := Go.Op.fieldAddr 27 (Go.Operand.tmp 1) 0, type := 0, pos := "l12_store.go:66", after := #[{ on := 4, ground := Go.Ground.guard }], guard := Option.some (4, Bool.false) }) (v := undef) rfl (by kernel_rfl) (by kernel_rfl) (by kernel_rfl) (fun _ _ _ h => h) (Or.inr ⟨by rfl, rfl⟩) (by assumption) ?_
        (try simp only [Act.put]); (try simp only [List.setIfInBounds_toArray]); (try simp only [List.set_cons_succ]); (try simp only [List.set_cons_zero])
        refine wpAnyH_take (i := 6) (oi := { dst := Option.some 55, op := Go.Op.load 22 (Go.Operand.tmp 54), type := 22, pos := "l12_store.go:66", after := #[{ on := 5, ground := Go.Ground.data }, { on := 4, ground := Go.Ground.guard }], guard := Option.some (4, Bool.false) }) (v := undef) rfl (by kernel_rfl) (by kernel_rfl) (by kernel_rfl) (fun _ _ _ h => h) (Or.inr ⟨by rfl, rfl⟩) (by assumption) ?_
        (try simp only [Act.put]); (try simp only [List.setIfInBounds_toArray]); (try simp only [List.set_cons_succ]); (try simp only [List.set_cons_zero])
        refine wpAnyH_take (i := 7) (oi := { dst := Option.some 56, op := Go.Op.fieldAddr 27 (Go.Operand.tmp 1) 1, type := 0, pos := "l12_store.go:66", after := #[{ on := 4, ground := Go.Ground.guard }], guard := Option.some (4, Bool.false) }) (v := undef) rfl (by kernel_rfl) (by kernel_rfl) (by kernel_rfl) (fun _ _ _ h => h) (Or.inr ⟨by rfl, rfl⟩) (by assumption) ?_
        (try simp only [Act.put]); (try simp only [List.setIfInBounds_toArray]); (try simp only [List.set_cons_succ]); (try simp only [List.set_cons_zero])
        refine wpAnyH_take (i := 8) (oi := { dst := Option.some 57, op := Go.Op.load 23 (Go.Operand.tmp 56), type := 23, pos := "l12_store.go:66", after := #[{ on := 7, ground := Go.Ground.data }, { on := 4, ground := Go.Ground.guard }], guard := Option.some (4, Bool.false) }) (v := undef) rfl (by kernel_rfl) (by kernel_rfl) (by kernel_rfl) (fun _ _ _ h => h) (Or.inr ⟨by rfl, rfl⟩) (by assumption) ?_
        (try simp only [Act.put]); (try simp only [List.setIfInBounds_toArray]); (try simp only [List.set_cons_succ]); (try simp only [List.set_cons_zero])
        refine wpAnyH_take (i := 9) (oi := { dst := Option.some 58, op := Go.Op.move (Go.Operand.tmp 3), type := 3, pos := "l12_store.go:66", after := #[{ on := 4, ground := Go.Ground.guard }], guard := Option.some (4, Bool.false) }) (v := undef) rfl (by kernel_rfl) (by kernel_rfl) (by kernel_rfl) (fun _ _ _ h => h) (Or.inr ⟨by rfl, rfl⟩) (by assumption) ?_
        (try simp only [Act.put]); (try simp only [List.setIfInBounds_toArray]); (try simp only [List.set_cons_succ]); (try simp only [List.set_cons_zero])
        refine wpAnyH_take (i := 10) (oi := { dst := Option.some 59, op := Go.Op.indexAddr 23 (Go.Operand.tmp 57) (Go.Operand.tmp 58), type := 0, pos := "l12_store.go:66", after := #[{ on := 8, ground := Go.Ground.data }, { on := 9, ground := Go.Ground.data }, { on := 4, ground := Go.Ground.guard }], guard := Option.some (4, Bool.false) }) (v := undef) rfl (by kernel_rfl) (by kernel_rfl) (by kernel_rfl) (fun _ _ _ h => h) (Or.inr ⟨by rfl, rfl⟩) (by assumption) ?_
        (try simp only [Act.put]); (try simp only [List.setIfInBounds_toArray]); (try simp only [List.set_cons_succ]); (try simp only [List.set_cons_zero])
        refine wpAnyH_take (i := 11) (oi := { dst := Option.some 60, op := Go.Op.load 22 (Go.Operand.tmp 59), type := 22, pos := "l12_store.go:66", after := #[{ on := 10, ground := Go.Ground.data }, { on := 4, ground := Go.Ground.guard }], guard := Option.some (4, Bool.false) }) (v := undef) rfl (by kernel_rfl) (by kernel_rfl) (by kernel_rfl) (fun _ _ _ h => h) (Or.inr ⟨by rfl, rfl⟩) (by assumption) ?_
        (try simp only [Act.put]); (try simp only [List.setIfInBounds_toArray]); (try simp only [List.set_cons_succ]); (try simp only [List.set_cons_zero])
        refine wpAnyH_take (i := 12) (oi := { dst := Option.some 61, op := Go.Op.fieldAddr 27 (Go.Operand.tmp 1) 4, type := 0, pos := "l12_store.go:66", after := #[{ on := 4, ground := Go.Ground.guard }], guard := Option.some (4, Bool.false) }) (v := undef) rfl (by kernel_rfl) (by kernel_rfl) (by kernel_rfl) (fun _ _ _ h => h) (Or.inr ⟨by rfl, rfl⟩) (by assumption) ?_
        (try simp only [Act.put]); (try simp only [List.setIfInBounds_toArray]); (try simp only [List.set_cons_succ]); (try simp only [List.set_cons_zero])
        refine wpAnyH_take (i := 13) (oi := { dst := Option.some 62, op := Go.Op.load 3 (Go.Operand.tmp 61), type := 3, pos := "l12_store.go:66", after := #[{ on := 12, ground := Go.Ground.data }, { on := 4, ground := Go.Ground.guard }], guard := Option.some (4, Bool.false) }) (v := undef) rfl (by kernel_rfl) (by kernel_rfl) (by kernel_rfl) (fun _ _ _ h => h) (Or.inr ⟨by rfl, rfl⟩) (by assumption) ?_
        (try simp only [Act.put]); (try simp only [List.setIfInBounds_toArray]); (try simp only [List.set_cons_succ]); (try simp only [List.set_cons_zero])
        refine wpAnyH_take (i := 14) (oi := { dst := Option.some 63, op := Go.Op.call { callee := Go.Callee.value (Go.Operand.func 36), args := #[Go.Operand.tmp 55, Go.Operand.tmp 60, Go.Operand.tmp 62], argTypes := #[22, 22, 3] }, type := 4, pos := "l12_store.go:66", after := #[{ on := 6, ground := Go.Ground.data }, { on := 11, ground := Go.Ground.data }, { on := 13, ground := Go.Ground.data }, { on := 4, ground := Go.Ground.chain }, { on := 4, ground := Go.Ground.guard }], guard := Option.some (4, Bool.false) }) (v := undef) rfl (by kernel_rfl) (by kernel_rfl) (by kernel_rfl) (fun _ _ _ h => h) (Or.inr ⟨by rfl, rfl⟩) (by assumption) ?_
        (try simp only [Act.put]); (try simp only [List.setIfInBounds_toArray]); (try simp only [List.set_cons_succ]); (try simp only [List.set_cons_zero])
        refine wpAnyH_take (i := 15) (oi := { dst := Option.some 64, op := Go.Op.unOp Go.UnOp.not 4 (Go.Operand.tmp 63), type := 4, pos := "l12_store.go:66", after := #[{ on := 14, ground := Go.Ground.data }, { on := 4, ground := Go.Ground.guard }], guard := Option.some (4, Bool.false) }) (v := undef) rfl (by kernel_rfl) (by kernel_rfl) (by kernel_rfl) (fun _ _ _ h => h) (Or.inr ⟨by rfl, rfl⟩) (by assumption) ?_
        (try simp only [Act.put]); (try simp only [List.setIfInBounds_toArray]); (try simp only [List.set_cons_succ]); (try simp only [List.set_cons_zero])
        refine wpAnyH_take (i := 16) (oi := { dst := Option.some 65, op := Go.Op.pick (Go.Operand.tmp 53) (Go.Operand.const (Go.Value.bool Bool.true)) (Go.Operand.tmp 64), type := 4, pos := "l12_store.go:66", after := #[{ on := 4, ground := Go.Ground.data }, { on := 15, ground := Go.Ground.data }], guard := Option.none }) (v := ?v5) rfl (by kernel_rfl) (by kernel_rfl) (by kernel_rfl) (fun _ _ _ h => h) (Or.inl ⟨by rfl, ?hy5⟩) (by assumption) ?rest5
        case hy5 =>
          intro w9 hSw
          clear hSw
          go_simp
          first | done | with_reducible rfl
        (try simp only [Act.put]); (try simp only [List.setIfInBounds_toArray]); (try simp only [List.set_cons_succ]); (try simp only [List.set_cons_zero])
        refine wpAnyH_done (by kernel_rfl) ?_ _
        go_wp2
        go_ret
        exact ⟨false, rfl, ⟨fun h => (by cases h), fun h => absurd (h.lvl k hkl hks) (by show ¬ lvlB keep k levels[k] sieves[k] = true; rw [← HB1.out]; simp)⟩, HB.out.trans (HB9.out.mono HB.out.size)⟩
      | true =>
        cases vb2 with
        | false =>
          go_upto_region 8 with fail
          refine wp_region_held_drew (S := (fun W : World => (W.cell? ⟨w.heap.size, 0, none⟩ = some (.slice A0 top.length c0) ∧ W.cell? ⟨w.heap.size, 1, none⟩ = some (.slice (some ⟨lb, lo, none⟩) levels.length c1) ∧ W.cell? ⟨w.heap.size, 2, none⟩ = some (.slice A2 sieves.length c2) ∧ W.cell? ⟨w.heap.size, 3, none⟩ = some (.int .i64 keep) ∧ W.cell? ⟨w.heap.size, 4, none⟩ = some (.int .i64 time) ∧ W.cell? ⟨w.heap.size, 5, none⟩ = some (.slice A5 times.length c5)) ∧ W.cell? ⟨lb, lo + k, none⟩ = some (.slice A' r.length c'))) (by kernel_rfl) (HS8.out _ (by exact bel2 HBL.out (by rfl) (by rfl) (by rfl) (by rfl))) (fun hHeld => ?_)
          refine wpAnyH_take (i := 0) (oi := { dst := Option.some 49, op := Go.Op.load 27 (Go.Operand.tmp 1), type := 27, pos := "l12_store.go:66", after := #[], guard := Option.none }) (v := ?v6) rfl (by kernel_rfl) (by kernel_rfl) (by kernel_rfl) (fun _ _ _ h => h) (Or.inl ⟨by rfl, ?hy6⟩) (by assumption) ?rest6
          case hy6 =>
            intro w9 hSw
            obtain ⟨⟨f0, f1, f2, f3, f4, f5⟩, f6⟩ := hSw
            go_simp
            first | done | with_reducible rfl
          (try simp only [Act.put]); (try simp only [List.setIfInBounds_toArray]); (try simp only [List.set_cons_succ]); (try simp only [List.set_cons_zero])
          refine wpAnyH_take (i := 1) (oi := { dst := Option.some 50, op := Go.Op.move (Go.Operand.tmp 3), type := 3, pos := "l12_store.go:66", after := #[], guard := Option.none }) (v := ?v7) rfl (by kernel_rfl) (by kernel_rfl) (by kernel_rfl) (fun _ _ _ h => h) (Or.inl ⟨by rfl, ?hy7⟩) (by assumption) ?rest7
          case hy7 =>
            intro w9 hSw
            clear hSw
            go_simp
            first | done | with_reducible rfl
          (try simp only [Act.put]); (try simp only [List.setIfInBounds_toArray]); (try simp only [List.set_cons_succ]); (try simp only [List.set_cons_zero])
          refine wpAnyH_ready (rs := [2]) (by kernel_rfl) (by simp) ?_
          refine AllReadyH.cons (o := { dst := Option.some 51, op := Go.Op.call { callee := Go.Callee.value (Go.Operand.func 35), args := #[Go.Operand.tmp 49, Go.Operand.tmp 50], argTypes := #[27, 3] }, type := 4, pos := "l12_store.go:66", after := #[{ on := 0, ground := Go.Ground.data }, { on := 1, ground := Go.Ground.data }], guard := Option.none }) rfl (fun K hK => ?_) AllReadyH.nil
          go_simp
          (go_at_call 35; refine Calls.mono (HLV.out _ (by exact bel2 HBL.out (by rfl) (by rfl) (by rfl) (by rfl))) ?_; rintro e w9 ⟨rfl, hb9⟩; have HB9 := Lib.hid hb9; clear hb9)
          (try go_wp2_with fail)
          refine hK.out _ _ (HS8.out _ HB9.out) (fun hHeld => ?_)
          clear hK K
          (try simp only [Act.put]); (try simp only [List.setIfInBounds_toArray]); (try simp only [List.set_cons_succ]); (try simp only [List.set_cons_zero])
          refine wpAnyH_take (i := 3) (oi := { dst := Option.some 52, op := Go.Op.unOp Go.UnOp.not 4 (Go.Operand.tmp 51), type := 4, pos := "l12_store.go:66", after := #[{ on := 2, ground := Go.Ground.data }], guard := Option.none }) (v := ?v8) rfl (by kernel_rfl) (by kernel_rfl) (by kernel_rfl) (fun _ _ _ h => h) (Or.inl ⟨by rfl, ?hy8⟩) (by assumption) ?rest8
          case hy8 =>
            intro w9 hSw
            clear hSw
            go_simp
            first | done | with_reducible rfl
          (try simp only [Act.put]); (try simp only [List.setIfInBounds_toArray]); (try simp only [List.set_cons_succ]); (try simp only [List.set_cons_zero])
          refine wpAnyH_take (i := 4) (oi := { dst := Option.some 53, op := Go.Op.move (Go.Operand.tmp 52), type := 4, pos := "l12_store.go:66", after := #[{ on := 3, ground := Go.Ground.data }, { on := 2, ground := Go.Ground.chain }], guard := Option.none }) (v := ?v9) rfl (by kernel_rfl) (by kernel_rfl) (by kernel_rfl) (fun _ _ _ h => h) (Or.inl ⟨by rfl, ?hy9⟩) (by assumption) ?rest9
          case hy9 =>
            intro w9 hSw
            clear hSw
            go_simp
            first | done | with_reducible rfl
          (try simp only [Act.put]); (try simp only [List.setIfInBounds_toArray]); (try simp only [List.set_cons_succ]); (try simp only [List.set_cons_zero])
          refine wpAnyH_take (i := 5) (oi := { dst := Option.some 54, op := Go.Op.fieldAddr 27 (Go.Operand.tmp 1) 0, type := 0, pos := "l12_store.go:66", after := #[{ on := 4, ground := Go.Ground.guard }], guard := Option.some (4, Bool.false) }) (v := ?v10) rfl (by kernel_rfl) (by kernel_rfl) (by kernel_rfl) (fun _ _ _ h => h) (Or.inl ⟨by rfl, ?hy10⟩) (by assumption) ?rest10
          case hy10 =>
            intro w9 hSw
            clear hSw
            go_simp
            first | done | with_reducible rfl
          (try simp only [Act.put]); (try simp only [List.setIfInBounds_toArray]); (try simp only [List.set_cons_succ]); (try simp only [List.set_cons_zero])
          refine wpAnyH_take (i := 6) (oi := { dst := Option.some 55, op := Go.Op.load 22 (Go.Operand.tmp 54), type := 22, pos := "l12_store.go:66", after := #[{ on := 5, ground := Go.Ground.data }, { on := 4, ground := Go.Ground.guard }], guard := Option.some (4, Bool.false) }) (v := ?v11) rfl (by kernel_rfl) (by kernel_rfl) (by kernel_rfl) (fun _ _ _ h => h) (Or.inl ⟨by rfl, ?hy11⟩) (by assumption) ?rest11
          case hy11 =>
            intro w9 hSw
            obtain ⟨⟨f0, f1, f2, f3, f4, f5⟩, f6⟩ := hSw
            go_simp
            first | done | with_reducible rfl
          (try simp only [Act.put]); (try simp only [List.setIfInBounds_toArray]); (try simp only [List.set_cons_succ]); (try simp only [List.set_cons_zero])
          refine wpAnyH_take (i := 7) (oi := { dst := Option.some 56, op := Go.Op.fieldAddr 27 (Go.Operand.tmp 1) 1, type := 0, pos := "l12_store.go:66", after := #[{ on := 4, ground := Go.Ground.guard }], guard := Option.some (4, Bool.false) }) (v := ?v12) rfl (by kernel_rfl) (by kernel_rfl) (by kernel_rfl) (fun _ _ _ h => h) (Or.inl ⟨by rfl, ?hy12⟩) (by assumption) ?rest12
          case hy12 =>
            intro w9 hSw
            clear hSw
            go_simp
            first | done | with_reducible rfl
          (try simp only [Act.put]); (try simp only [List.setIfInBounds_toArray]); (try simp only [List.set_cons_succ]); (try simp only [List.set_cons_zero])
          refine wpAnyH_take (i := 8) (oi := { dst := Option.some 57, op := Go.Op.load 23 (Go.Operand.tmp 56), type := 23, pos := "l12_store.go:66", after := #[{ on := 7, ground := Go.Ground.data }, { on := 4, ground := Go.Ground.guard }], guard := Option.some (4, Bool.false) }) (v := ?v13) rfl (by kernel_rfl) (by kernel_rfl) (by kernel_rfl) (fun _ _ _ h => h) (Or.inl ⟨by rfl, ?hy13⟩) (by assumption) ?rest13
          case hy13 =>
            intro w9 hSw
            obtain ⟨⟨f0, f1, f2, f3, f4, f5⟩, f6⟩ := hSw
            go_simp
            first | done | with_reducible rfl
          (try simp only [Act.put]); (try simp only [List.setIfInBounds_toArray]); (try simp only [List.set_cons_succ]); (try simp only [List.set_cons_zero])
          refine wpAnyH_take (i := 9) (oi := { dst := Option.some 58, op := Go.Op.move (Go.Operand.tmp 3), type := 3, pos := "l12_store.go:66", after := #[{ on := 4, ground := Go.Ground.guard }], guard := Option.some (4, Bool.false) }) (v := ?v14) rfl (by kernel_rfl) (by kernel_rfl) (by kernel_rfl) (fun _ _ _ h => h) (Or.inl ⟨by rfl, ?hy14⟩) (by assumption) ?rest14
          case hy14 =>
            intro w9 hSw
            clear hSw
            go_simp
            first | done | with_reducible rfl
          (try simp only [Act.put]); (try simp only [List.setIfInBounds_toArray]); (try simp only [List.set_cons_succ]); (try simp only [List.set_cons_zero])
          refine wpAnyH_take (i := 10) (oi := { dst := Option.some 59, op := Go.Op.indexAddr 23 (Go.Operand.tmp 57) (Go.Operand.tmp 58), type := 0, pos := "l12_store.go:66", after := #[{ on := 8, ground := Go.Ground.data }, { on := 9, ground := Go.Ground.data }, { on := 4, ground := Go.Ground.guard }], guard := Option.some (4, Bool.false) }) (v := ?v15) rfl (by kernel_rfl) (by kernel_rfl) (by kernel_rfl) (fun _ _ _ h => h) (Or.inl ⟨by rfl, ?hy15⟩) (by assumption) ?rest15
          case hy15 =>
            intro w9 hSw
            clear hSw
            go_simp
            first | done | with_reducible rfl
          (try simp only [Act.put]); (try simp only [List.setIfInBounds_toArray]); (try simp only [List.set_cons_succ]); (try simp only [List.set_cons_zero])
          refine wpAnyH_take (i := 11) (oi := { dst := Option.some 60, op := Go.Op.load 22 (Go.Operand.tmp 59), type := 22, pos := "l12_store.go:66", after := #[{ on := 10, ground := Go.Ground.data }, { on := 4, ground := Go.Ground.guard }], guard := Option.some (4, Bool.false) }) (v := ?v16) rfl (by kernel_rfl) (by kernel_rfl) (by kernel_rfl) (fun _ _ _ h => h) (Or.inl ⟨by rfl, ?hy16⟩) (by assumption) ?rest16
          case hy16 =>
            intro w9 hSw
            obtain ⟨⟨f0, f1, f2, f3, f4, f5⟩, f6⟩ := hSw
            go_simp
            first | done | with_reducible rfl
          (try simp only [Act.put]); (try simp only [List.setIfInBounds_toArray]); (try simp only [List.set_cons_succ]); (try simp only [List.set_cons_zero])
          refine wpAnyH_take (i := 12) (oi := { dst := Option.some 61, op := Go.Op.fieldAddr 27 (Go.Operand.tmp 1) 4, type := 0, pos := "l12_store.go:66", after := #[{ on := 4, ground := Go.Ground.guard }], guard := Option.some (4, Bool.false) }) (v := ?v17) rfl (by kernel_rfl) (by kernel_rfl) (by kernel_rfl) (fun _ _ _ h => h) (Or.inl ⟨by rfl, ?hy17⟩) (by assumption) ?rest17
          case hy17 =>
            intro w9 hSw
            clear hSw
            go_simp
            first | done | with_reducible rfl
          (try simp only [Act.put]); (try simp only [List.setIfInBounds_toArray]); (try simp only [List.set_cons_succ]); (try simp only [List.set_cons_zero])
          refine wpAnyH_take (i := 13) (oi := { dst := Option.some 62, op := Go.Op.load 3 (Go.Operand.tmp 61), type := 3, pos := "l12_store.go:66", after := #[{ on := 12, ground := Go.Ground.data }, { on := 4, ground := Go.Ground.guard }], guard := Option.some (4, Bool.false) }) (v := ?v18) rfl (by kernel_rfl) (by kernel_rfl) (by kernel_rfl) (fun _ _ _ h => h) (Or.inl ⟨by rfl, ?hy18⟩) (by assumption) ?rest18
          case hy18 =>
            intro w9 hSw
            obtain ⟨⟨f0, f1, f2, f3, f4, f5⟩, f6⟩ := hSw
            go_simp
            first | done | with_reducible rfl
          (try simp only [Act.put]); (try simp only [List.setIfInBounds_toArray]); (try simp only [List.set_cons_succ]); (try simp only [List.set_cons_zero])
          refine wpAnyH_ready (rs := [14]) (by kernel_rfl) (by simp) ?_
          refine AllReadyH.cons (o := { dst := Option.some 63, op := Go.Op.call { callee := Go.Callee.value (Go.Operand.func 36), args := #[Go.Operand.tmp 55, Go.Operand.tmp 60, Go.Operand.tmp 62], argTypes := #[22, 22, 3] }, type := 4, pos := "l12_store.go:66", after := #[{ on := 6, ground := Go.Ground.data }, { on := 11, ground := Go.Ground.data }, { on := 13, ground := Go.Ground.data }, { on := 4, ground := Go.Ground.chain }, { on := 4, ground := Go.Ground.guard }], guard := Option.some (4, Bool.false) }) rfl (fun K hK => ?_) AllReadyH.nil
          go_simp
          (go_at_call 36; refine Calls.mono (HNT.out _ HB9.out) ?_; rintro e w8 ⟨rfl, hb8⟩; have HB8 := Lib.hid hb8; clear hb8)
          (try go_wp2_with fail)
          refine hK.out _ _ (HS8.out _ HB8.out) (fun hHeld => ?_)
          clear hK K
          (try simp only [Act.put]); (try simp only [List.setIfInBounds_toArray]); (try simp only [List.set_cons_succ]); (try simp only [List.set_cons_zero])
          refine wpAnyH_take (i := 15) (oi := { dst := Option.some 64, op := Go.Op.unOp Go.UnOp.not 4 (Go.Operand.tmp 63), type := 4, pos := "l12_store.go:66", after := #[{ on := 14, ground := Go.Ground.data }, { on := 4, ground := Go.Ground.guard }], guard := Option.some (4, Bool.false) }) (v := ?v19) rfl (by kernel_rfl) (by kernel_rfl) (by kernel_rfl) (fun _ _ _ h => h) (Or.inl ⟨by rfl, ?hy19⟩) (by assumption) ?rest19
          case hy19 =>
            intro w9 hSw
            clear hSw
            go_simp
            first | done | with_reducible rfl
          (try simp only [Act.put]); (try simp only [List.setIfInBounds_toArray]); (try simp only [List.set_cons_succ]); (try simp only [List.set_cons_zero])
          refine wpAnyH_take (i := 16) (oi := { dst := Option.some 65, op := Go.Op.pick (Go.Operand.tmp 53) (Go.Operand.const (Go.Value.bool Bool.true)) (Go.Operand.tmp 64), type := 4, pos := "l12_store.go:66", after := #[{ on := 4, ground := Go.Ground.data }, { on := 15, ground := Go.Ground.data }], guard := Option.none }) (v := ?v20) rfl (by kernel_rfl) (by kernel_rfl) (by kernel_rfl) (fun _ _ _ h => h) (Or.inl ⟨by rfl, ?hy20⟩) (by assumption) ?rest20
          case hy20 =>
            intro w9 hSw
            clear hSw
            go_simp
            first | done | with_reducible rfl
          (try simp only [Act.put]); (try simp only [List.setIfInBounds_toArray]); (try simp only [List.set_cons_succ]); (try simp only [List.set_cons_zero])
          refine wpAnyH_done (by kernel_rfl) ?_ _
          go_wp2
          go_ret
          exact ⟨false, rfl, ⟨fun h => (by cases h), fun h => absurd h.new (oldTo_no_top hkl (by rw [← H0.out]; exact HB2.out.symm))⟩, HB.out.trans (HB8.out.mono HB.out.size)⟩
        | true =>
          go_upto_region 8 with fail
          refine wp_region_held_drew (S := (fun W : World => (W.cell? ⟨w.heap.size, 0, none⟩ = some (.slice A0 top.length c0) ∧ W.cell? ⟨w.heap.size, 1, none⟩ = some (.slice (some ⟨lb, lo, none⟩) levels.length c1) ∧ W.cell? ⟨w.heap.size, 2, none⟩ = some (.slice A2 sieves.length c2) ∧ W.cell? ⟨w.heap.size, 3, none⟩ = some (.int .i64 keep) ∧ W.cell? ⟨w.heap.size, 4, none⟩ = some (.int .i64 time) ∧ W.cell? ⟨w.heap.size, 5, none⟩ = some (.slice A5 times.length c5)) ∧ W.cell? ⟨lb, lo + k, none⟩ = some (.slice A' r.length c'))) (by kernel_rfl) (HS8.out _ (by exact bel2 HBL.out (by rfl) (by rfl) (by rfl) (by rfl))) (fun hHeld => ?_)
          refine wpAnyH_take (i := 0) (oi := { dst := Option.some 49, op := Go.Op.load 27 (Go.Operand.tmp 1), type := 27, pos := "l12_store.go:66", after := #[], guard := Option.none }) (v := ?v21) rfl (by kernel_rfl) (by kernel_rfl) (by kernel_rfl) (fun _ _ _ h => h) (Or.inl ⟨by rfl, ?hy21⟩) (by assumption) ?rest21
          case hy21 =>
            intro w9 hSw
            obtain ⟨⟨f0, f1, f2, f3, f4, f5⟩, f6⟩ := hSw
            go_simp
            first | done | with_reducible rfl
          (try simp only [Act.put]); (try simp only [List.setIfInBounds_toArray]); (try simp only [List.set_cons_succ]); (try simp only [List.set_cons_zero])
          refine wpAnyH_take (i := 1) (oi := { dst := Option.some 50, op := Go.Op.move (Go.Operand.tmp 3), type := 3, pos := "l12_store.go:66", after := #[], guard := Option.none }) (v := ?v22) rfl (by kernel_rfl) (by kernel_rfl) (by kernel_rfl) (fun _ _ _ h => h) (Or.inl ⟨by rfl, ?hy22⟩) (by assumption) ?rest22
          case hy22 =>
            intro w9 hSw
            clear hSw
            go_simp
            first | done | with_reducible rfl
          (try simp only [Act.put]); (try simp only [List.setIfInBounds_toArray]); (try simp only [List.set_cons_succ]); (try simp only [List.set_cons_zero])
          refine wpAnyH_ready (rs := [2]) (by kernel_rfl) (by simp) ?_
          refine AllReadyH.cons (o := { dst := Option.some 51, op := Go.Op.call { callee := Go.Callee.value (Go.Operand.func 35), args := #[Go.Operand.tmp 49, Go.Operand.tmp 50], argTypes := #[27, 3] }, type := 4, pos := "l12_store.go:66", after := #[{ on := 0, ground := Go.Ground.data }, { on := 1, ground := Go.Ground.data }], guard := Option.none }) rfl (fun K hK => ?_) AllReadyH.nil
          go_simp
          (go_at_call 35; refine Calls.mono (HLV.out _ (by exact bel2 HBL.out (by rfl) (by rfl) (by rfl) (by rfl))) ?_; rintro e w9 ⟨rfl, hb9⟩; have HB9 := Lib.hid hb9; clear hb9)
          (try go_wp2_with fail)
          refine hK.out _ _ (HS8.out _ HB9.out) (fun hHeld => ?_)
          clear hK K
          (try simp only [Act.put]); (try simp only [List.setIfInBounds_toArray]); (try simp only [List.set_cons_succ]); (try simp only [List.set_cons_zero])
          refine wpAnyH_take (i := 3) (oi := { dst := Option.some 52, op := Go.Op.unOp Go.UnOp.not 4 (Go.Operand.tmp 51), type := 4, pos := "l12_store.go:66", after := #[{ on := 2, ground := Go.Ground.data }], guard := Option.none }) (v := ?v23) rfl (by kernel_rfl) (by kernel_rfl) (by kernel_rfl) (fun _ _ _ h => h) (Or.inl ⟨by rfl, ?hy23⟩) (by assumption) ?rest23
          case hy23 =>
            intro w9 hSw
            clear hSw
            go_simp
            first | done | with_reducible rfl
          (try simp only [Act.put]); (try simp only [List.setIfInBounds_toArray]); (try simp only [List.set_cons_succ]); (try simp only [List.set_cons_zero])
          refine wpAnyH_take (i := 4) (oi := { dst := Option.some 53, op := Go.Op.move (Go.Operand.tmp 52), type := 4, pos := "l12_store.go:66", after := #[{ on := 3, ground := Go.Ground.data }, { on := 2, ground := Go.Ground.chain }], guard := Option.none }) (v := ?v24) rfl (by kernel_rfl) (by kernel_rfl) (by kernel_rfl) (fun _ _ _ h => h) (Or.inl ⟨by rfl, ?hy24⟩) (by assumption) ?rest24
          case hy24 =>
            intro w9 hSw
            clear hSw
            go_simp
            first | done | with_reducible rfl
          (try simp only [Act.put]); (try simp only [List.setIfInBounds_toArray]); (try simp only [List.set_cons_succ]); (try simp only [List.set_cons_zero])
          refine wpAnyH_take (i := 5) (oi := { dst := Option.some 54, op := Go.Op.fieldAddr 27 (Go.Operand.tmp 1) 0, type := 0, pos := "l12_store.go:66", after := #[{ on := 4, ground := Go.Ground.guard }], guard := Option.some (4, Bool.false) }) (v := ?v25) rfl (by kernel_rfl) (by kernel_rfl) (by kernel_rfl) (fun _ _ _ h => h) (Or.inl ⟨by rfl, ?hy25⟩) (by assumption) ?rest25
          case hy25 =>
            intro w9 hSw
            clear hSw
            go_simp
            first | done | with_reducible rfl
          (try simp only [Act.put]); (try simp only [List.setIfInBounds_toArray]); (try simp only [List.set_cons_succ]); (try simp only [List.set_cons_zero])
          refine wpAnyH_take (i := 6) (oi := { dst := Option.some 55, op := Go.Op.load 22 (Go.Operand.tmp 54), type := 22, pos := "l12_store.go:66", after := #[{ on := 5, ground := Go.Ground.data }, { on := 4, ground := Go.Ground.guard }], guard := Option.some (4, Bool.false) }) (v := ?v26) rfl (by kernel_rfl) (by kernel_rfl) (by kernel_rfl) (fun _ _ _ h => h) (Or.inl ⟨by rfl, ?hy26⟩) (by assumption) ?rest26
          case hy26 =>
            intro w9 hSw
            obtain ⟨⟨f0, f1, f2, f3, f4, f5⟩, f6⟩ := hSw
            go_simp
            first | done | with_reducible rfl
          (try simp only [Act.put]); (try simp only [List.setIfInBounds_toArray]); (try simp only [List.set_cons_succ]); (try simp only [List.set_cons_zero])
          refine wpAnyH_take (i := 7) (oi := { dst := Option.some 56, op := Go.Op.fieldAddr 27 (Go.Operand.tmp 1) 1, type := 0, pos := "l12_store.go:66", after := #[{ on := 4, ground := Go.Ground.guard }], guard := Option.some (4, Bool.false) }) (v := ?v27) rfl (by kernel_rfl) (by kernel_rfl) (by kernel_rfl) (fun _ _ _ h => h) (Or.inl ⟨by rfl, ?hy27⟩) (by assumption) ?rest27
          case hy27 =>
            intro w9 hSw
            clear hSw
            go_simp
            first | done | with_reducible rfl
          (try simp only [Act.put]); (try simp only [List.setIfInBounds_toArray]); (try simp only [List.set_cons_succ]); (try simp only [List.set_cons_zero])
          refine wpAnyH_take (i := 8) (oi := { dst := Option.some 57, op := Go.Op.load 23 (Go.Operand.tmp 56), type := 23, pos := "l12_store.go:66", after := #[{ on := 7, ground := Go.Ground.data }, { on := 4, ground := Go.Ground.guard }], guard := Option.some (4, Bool.false) }) (v := ?v28) rfl (by kernel_rfl) (by kernel_rfl) (by kernel_rfl) (fun _ _ _ h => h) (Or.inl ⟨by rfl, ?hy28⟩) (by assumption) ?rest28
          case hy28 =>
            intro w9 hSw
            obtain ⟨⟨f0, f1, f2, f3, f4, f5⟩, f6⟩ := hSw
            go_simp
            first | done | with_reducible rfl
          (try simp only [Act.put]); (try simp only [List.setIfInBounds_toArray]); (try simp only [List.set_cons_succ]); (try simp only [List.set_cons_zero])
          refine wpAnyH_take (i := 9) (oi := { dst := Option.some 58, op := Go.Op.move (Go.Operand.tmp 3), type := 3, pos := "l12_store.go:66", after := #[{ on := 4, ground := Go.Ground.guard }], guard := Option.some (4, Bool.false) }) (v := ?v29) rfl (by kernel_rfl) (by kernel_rfl) (by kernel_rfl) (fun _ _ _ h => h) (Or.inl ⟨by rfl, ?hy29⟩) (by assumption) ?rest29
          case hy29 =>
            intro w9 hSw
            clear hSw
            go_simp
            first | done | with_reducible rfl
          (try simp only [Act.put]); (try simp only [List.setIfInBounds_toArray]); (try simp only [List.set_cons_succ]); (try simp only [List.set_cons_zero])
          refine wpAnyH_take (i := 10) (oi := { dst := Option.some 59, op := Go.Op.indexAddr 23 (Go.Operand.tmp 57) (Go.Operand.tmp 58), type := 0, pos := "l12_store.go:66", after := #[{ on := 8, ground := Go.Ground.data }, { on := 9, ground := Go.Ground.data }, { on := 4, ground := Go.Ground.guard }], guard := Option.some (4, Bool.false) }) (v := ?v30) rfl (by kernel_rfl) (by kernel_rfl) (by kernel_rfl) (fun _ _ _ h => h) (Or.inl ⟨by rfl, ?hy30⟩) (by assumption) ?rest30
          case hy30 =>
            intro w9 hSw
            clear hSw
            go_simp
            first | done | with_reducible rfl
          (try simp only [Act.put]); (try simp only [List.setIfInBounds_toArray]); (try simp only [List.set_cons_succ]); (try simp only [List.set_cons_zero])
          refine wpAnyH_take (i := 11) (oi := { dst := Option.some 60, op := Go.Op.load 22 (Go.Operand.tmp 59), type := 22, pos := "l12_store.go:66", after := #[{ on := 10, ground := Go.Ground.data }, { on := 4, ground := Go.Ground.guard }], guard := Option.some (4, Bool.false) }) (v := ?v31) rfl (by kernel_rfl) (by kernel_rfl) (by kernel_rfl) (fun _ _ _ h => h) (Or.inl ⟨by rfl, ?hy31⟩) (by assumption) ?rest31
          case hy31 =>
            intro w9 hSw
            obtain ⟨⟨f0, f1, f2, f3, f4, f5⟩, f6⟩ := hSw
            go_simp
            first | done | with_reducible rfl
          (try simp only [Act.put]); (try simp only [List.setIfInBounds_toArray]); (try simp only [List.set_cons_succ]); (try simp only [List.set_cons_zero])
          refine wpAnyH_take (i := 12) (oi := { dst := Option.some 61, op := Go.Op.fieldAddr 27 (Go.Operand.tmp 1) 4, type := 0, pos := "l12_store.go:66", after := #[{ on := 4, ground := Go.Ground.guard }], guard := Option.some (4, Bool.false) }) (v := ?v32) rfl (by kernel_rfl) (by kernel_rfl) (by kernel_rfl) (fun _ _ _ h => h) (Or.inl ⟨by rfl, ?hy32⟩) (by assumption) ?rest32
          case hy32 =>
            intro w9 hSw
            clear hSw
            go_simp
            first | done | with_reducible rfl
          (try simp only [Act.put]); (try simp only [List.setIfInBounds_toArray]); (try simp only [List.set_cons_succ]); (try simp only [List.set_cons_zero])
          refine wpAnyH_take (i := 13) (oi := { dst := Option.some 62, op := Go.Op.load 3 (Go.Operand.tmp 61), type := 3, pos := "l12_store.go:66", after := #[{ on := 12, ground := Go.Ground.data }, { on := 4, ground := Go.Ground.guard }], guard := Option.some (4, Bool.false) }) (v := ?v33) rfl (by kernel_rfl) (by kernel_rfl) (by kernel_rfl) (fun _ _ _ h => h) (Or.inl ⟨by rfl, ?hy33⟩) (by assumption) ?rest33
          case hy33 =>
            intro w9 hSw
            obtain ⟨⟨f0, f1, f2, f3, f4, f5⟩, f6⟩ := hSw
            go_simp
            first | done | with_reducible rfl
          (try simp only [Act.put]); (try simp only [List.setIfInBounds_toArray]); (try simp only [List.set_cons_succ]); (try simp only [List.set_cons_zero])
          refine wpAnyH_ready (rs := [14]) (by kernel_rfl) (by simp) ?_
          refine AllReadyH.cons (o := { dst := Option.some 63, op := Go.Op.call { callee := Go.Callee.value (Go.Operand.func 36), args := #[Go.Operand.tmp 55, Go.Operand.tmp 60, Go.Operand.tmp 62], argTypes := #[22, 22, 3] }, type := 4, pos := "l12_store.go:66", after := #[{ on := 6, ground := Go.Ground.data }, { on := 11, ground := Go.Ground.data }, { on := 13, ground := Go.Ground.data }, { on := 4, ground := Go.Ground.chain }, { on := 4, ground := Go.Ground.guard }], guard := Option.some (4, Bool.false) }) rfl (fun K hK => ?_) AllReadyH.nil
          go_simp
          (go_at_call 36; refine Calls.mono (HNT.out _ HB9.out) ?_; rintro e w8 ⟨rfl, hb8⟩; have HB8 := Lib.hid hb8; clear hb8)
          (try go_wp2_with fail)
          refine hK.out _ _ (HS8.out _ HB8.out) (fun hHeld => ?_)
          clear hK K
          (try simp only [Act.put]); (try simp only [List.setIfInBounds_toArray]); (try simp only [List.set_cons_succ]); (try simp only [List.set_cons_zero])
          refine wpAnyH_take (i := 15) (oi := { dst := Option.some 64, op := Go.Op.unOp Go.UnOp.not 4 (Go.Operand.tmp 63), type := 4, pos := "l12_store.go:66", after := #[{ on := 14, ground := Go.Ground.data }, { on := 4, ground := Go.Ground.guard }], guard := Option.some (4, Bool.false) }) (v := ?v34) rfl (by kernel_rfl) (by kernel_rfl) (by kernel_rfl) (fun _ _ _ h => h) (Or.inl ⟨by rfl, ?hy34⟩) (by assumption) ?rest34
          case hy34 =>
            intro w9 hSw
            clear hSw
            go_simp
            first | done | with_reducible rfl
          (try simp only [Act.put]); (try simp only [List.setIfInBounds_toArray]); (try simp only [List.set_cons_succ]); (try simp only [List.set_cons_zero])
          refine wpAnyH_take (i := 16) (oi := { dst := Option.some 65, op := Go.Op.pick (Go.Operand.tmp 53) (Go.Operand.const (Go.Value.bool Bool.true)) (Go.Operand.tmp 64), type := 4, pos := "l12_store.go:66", after := #[{ on := 4, ground := Go.Ground.data }, { on := 15, ground := Go.Ground.data }], guard := Option.none }) (v := ?v35) rfl (by kernel_rfl) (by kernel_rfl) (by kernel_rfl) (fun _ _ _ h => h) (Or.inl ⟨by rfl, ?hy35⟩) (by assumption) ?rest35
          case hy35 =>
            intro w9 hSw
            clear hSw
            go_simp
            first | done | with_reducible rfl
          (try simp only [Act.put]); (try simp only [List.setIfInBounds_toArray]); (try simp only [List.set_cons_succ]); (try simp only [List.set_cons_zero])
          refine wpAnyH_done (by kernel_rfl) ?_ _
          go_wp2_with fail
          go_loopw [4] (fun m wi => ∃ q : Nat, k + 1 ≤ q ∧ q ≤ 3 ∧ m = .int .i64 (q : Nat) ∧ Hid (∀ j (h : j < levels.length), k < j → j < q → newestB r levels[j] time = true) ∧ Below W0.heap.size W0 wi) (fun m _ => 3 - (intOf m).toNat)
          case atStart => exact ⟨k + 1, Nat.le_refl _, by omega, by go_num, Lib.hid (fun j _ h1 h2 => by omega), HB8.out⟩
          case round =>
            obtain ⟨q, hq1, hq3, rfl, hj, hbi⟩ := hrel
            have HBI := Lib.hid hbi
            clear hbi
            have hg1 := G1.out
            by_cases hqt : q < 3
            · have hql : q < levels.length := by omega
              have y0 : (0 : Int) ≤ (q : Int) := by omega
              have y1 : (q : Int) < (levels.length : Int) := by omega
              obtain ⟨qb, qo, A3, c3, hA3, hqb, g0, he3, e3, e4⟩ := (HRW.out W0 (Below.refl _ _)).1.levels.cell q hql
              simp only [Option.some.injEq, Addr.mk.injEq, and_true] at hA3
              obtain ⟨rfl, rfl⟩ := hA3
              obtain ⟨r2, h2⟩ : ∃ r, r = levels[q] := ⟨_, rfl⟩
              rw [← h2] at g0 he3 e3
              have HS13 := Lib.hid (show ∀ W, Below W0.heap.size W0 W → (fun W : World => (W.cell? ⟨w.heap.size, 0, none⟩ = some (.slice A0 top.length c0) ∧ W.cell? ⟨w.heap.size, 1, none⟩ = some (.slice (some ⟨lb, lo, none⟩) levels.length c1) ∧ W.cell? ⟨w.heap.size, 2, none⟩ = some (.slice A2 sieves.length c2) ∧ W.cell? ⟨w.heap.size, 3, none⟩ = some (.int .i64 keep) ∧ W.cell? ⟨w.heap.size, 4, none⟩ = some (.int .i64 time) ∧ W.cell? ⟨w.heap.size, 5, none⟩ = some (.slice A5 times.length c5)) ∧ W.cell? ⟨lb, lo + k, none⟩ = some (.slice A' r.length c') ∧ W.cell? ⟨lb, lo + q, none⟩ = some (.slice A3 r2.length c3)) W from fun W hW => ⟨(HS8.out W hW).1, (HS8.out W hW).2, (hW.cell (p := ⟨lb, lo + q, none⟩) hqb).trans g0⟩)
              obtain ⟨vb3, hb3⟩ : ∃ b, b = newestB r r2 time := ⟨_, rfl⟩
              have HNW := Lib.hid (show ∀ W, Below W0.heap.size W0 W → Calls Tryd.prog 36 #[.slice A' r.length c', .slice A3 r2.length c3, .int .i64 time] W fun e w' => e = .returned (.bool vb3) ∧ Below W0.heap.size W0 w' from fun W hW => by
                rw [hb3]
                exact (newestS W W0.heap.size r.length c' W0.heap.size r2.length c3 A' A3 r r2 time (HE.out.below hW (Nat.le_refl _)) (he3.below hW (Nat.le_refl _)) hW.size hW.size (Nat.le_trans e1 e2) (Nat.le_trans e3 e4)).mono fun _ _ ⟨x, y⟩ => ⟨x, hW.trans (y.mono hW.size)⟩)
              have H2 := Lib.hid h2
              have HB3' := Lib.hid hb3
              clear hg1 h2 hb3 he3 g0
              cases vb3 with
              | false =>
                go_upto_region 13 with fail
                refine wp_region_held_drew (S := (fun W : World => (W.cell? ⟨w.heap.size, 0, none⟩ = some (.slice A0 top.length c0) ∧ W.cell? ⟨w.heap.size, 1, none⟩ = some (.slice (some ⟨lb, lo, none⟩) levels.length c1) ∧ W.cell? ⟨w.heap.size, 2, none⟩ = some (.slice A2 sieves.length c2) ∧ W.cell? ⟨w.heap.size, 3, none⟩ = some (.int .i64 keep) ∧ W.cell? ⟨w.heap.size, 4, none⟩ = some (.int .i64 time) ∧ W.cell? ⟨w.heap.size, 5, none⟩ = some (.slice A5 times.length c5)) ∧ W.cell? ⟨lb, lo + k, none⟩ = some (.slice A' r.length c') ∧ W.cell? ⟨lb, lo + q, none⟩ = some (.slice A3 r2.length c3))) (by kernel_rfl) (HS13.out _ (by exact bel2 HBI.out (by rfl) (by rfl) (by rfl) (by rfl))) (fun hHeld => ?_)
                refine wpAnyH_take (i := 0) (oi := { dst := Option.some 72, op := Go.Op.fieldAddr 27 (Go.Operand.tmp 1) 1, type := 0, pos := "l12_store.go:70", after := #[], guard := Option.none }) (v := ?v36) rfl (by kernel_rfl) (by kernel_rfl) (by kernel_rfl) (fun _ _ _ h => h) (Or.inl ⟨by rfl, ?hy36⟩) (by assumption) ?rest36
                case hy36 =>
                  intro w9 hSw
                  clear hSw
                  go_simp
                  first | done | with_reducible rfl
                (try simp only [Act.put]); (try simp only [List.setIfInBounds_toArray]); (try simp only [List.set_cons_succ]); (try simp only [List.set_cons_zero])
                refine wpAnyH_take (i := 1) (oi := { dst := Option.some 73, op := Go.Op.load 23 (Go.Operand.tmp 72), type := 23, pos := "l12_store.go:70", after := #[{ on := 0, ground := Go.Ground.data }], guard := Option.none }) (v := ?v37) rfl (by kernel_rfl) (by kernel_rfl) (by kernel_rfl) (fun _ _ _ h => h) (Or.inl ⟨by rfl, ?hy37⟩) (by assumption) ?rest37
                case hy37 =>
                  intro w9 hSw
                  obtain ⟨⟨f0, f1, f2, f3, f4, f5⟩, f6, f7⟩ := hSw
                  go_simp
                  first | done | with_reducible rfl
                (try simp only [Act.put]); (try simp only [List.setIfInBounds_toArray]); (try simp only [List.set_cons_succ]); (try simp only [List.set_cons_zero])
                refine wpAnyH_take (i := 2) (oi := { dst := Option.some 74, op := Go.Op.move (Go.Operand.tmp 3), type := 3, pos := "l12_store.go:70", after := #[], guard := Option.none }) (v := ?v38) rfl (by kernel_rfl) (by kernel_rfl) (by kernel_rfl) (fun _ _ _ h => h) (Or.inl ⟨by rfl, ?hy38⟩) (by assumption) ?rest38
                case hy38 =>
                  intro w9 hSw
                  clear hSw
                  go_simp
                  first | done | with_reducible rfl
                (try simp only [Act.put]); (try simp only [List.setIfInBounds_toArray]); (try simp only [List.set_cons_succ]); (try simp only [List.set_cons_zero])
                refine wpAnyH_take (i := 3) (oi := { dst := Option.some 75, op := Go.Op.indexAddr 23 (Go.Operand.tmp 73) (Go.Operand.tmp 74), type := 0, pos := "l12_store.go:70", after := #[{ on := 1, ground := Go.Ground.data }, { on := 2, ground := Go.Ground.data }], guard := Option.none }) (v := ?v39) rfl (by kernel_rfl) (by kernel_rfl) (by kernel_rfl) (fun _ _ _ h => h) (Or.inl ⟨by rfl, ?hy39⟩) (by assumption) ?rest39
                case hy39 =>
                  intro w9 hSw
                  clear hSw
                  go_simp
                  first | done | with_reducible rfl
                (try simp only [Act.put]); (try simp only [List.setIfInBounds_toArray]); (try simp only [List.set_cons_succ]); (try simp only [List.set_cons_zero])
                refine wpAnyH_take (i := 4) (oi := { dst := Option.some 76, op := Go.Op.load 22 (Go.Operand.tmp 75), type := 22, pos := "l12_store.go:70", after := #[{ on := 3, ground := Go.Ground.data }], guard := Option.none }) (v := ?v40) rfl (by kernel_rfl) (by kernel_rfl) (by kernel_rfl) (fun _ _ _ h => h) (Or.inl ⟨by rfl, ?hy40⟩) (by assumption) ?rest40
                case hy40 =>
                  intro w9 hSw
                  obtain ⟨⟨f0, f1, f2, f3, f4, f5⟩, f6, f7⟩ := hSw
                  go_simp
                  first | done | with_reducible rfl
                (try simp only [Act.put]); (try simp only [List.setIfInBounds_toArray]); (try simp only [List.set_cons_succ]); (try simp only [List.set_cons_zero])
                refine wpAnyH_take (i := 5) (oi := { dst := Option.some 77, op := Go.Op.fieldAddr 27 (Go.Operand.tmp 1) 1, type := 0, pos := "l12_store.go:70", after := #[], guard := Option.none }) (v := ?v41) rfl (by kernel_rfl) (by kernel_rfl) (by kernel_rfl) (fun _ _ _ h => h) (Or.inl ⟨by rfl, ?hy41⟩) (by assumption) ?rest41
                case hy41 =>
                  intro w9 hSw
                  clear hSw
                  go_simp
                  first | done | with_reducible rfl
                (try simp only [Act.put]); (try simp only [List.setIfInBounds_toArray]); (try simp only [List.set_cons_succ]); (try simp only [List.set_cons_zero])
                refine wpAnyH_take (i := 6) (oi := { dst := Option.some 78, op := Go.Op.load 23 (Go.Operand.tmp 77), type := 23, pos := "l12_store.go:70", after := #[{ on := 5, ground := Go.Ground.data }], guard := Option.none }) (v := ?v42) rfl (by kernel_rfl) (by kernel_rfl) (by kernel_rfl) (fun _ _ _ h => h) (Or.inl ⟨by rfl, ?hy42⟩) (by assumption) ?rest42
                case hy42 =>
                  intro w9 hSw
                  obtain ⟨⟨f0, f1, f2, f3, f4, f5⟩, f6, f7⟩ := hSw
                  go_simp
                  first | done | with_reducible rfl
                (try simp only [Act.put]); (try simp only [List.setIfInBounds_toArray]); (try simp only [List.set_cons_succ]); (try simp only [List.set_cons_zero])
                refine wpAnyH_take (i := 7) (oi := { dst := Option.some 79, op := Go.Op.move (Go.Operand.tmp 4), type := 3, pos := "l12_store.go:70", after := #[], guard := Option.none }) (v := ?v43) rfl (by kernel_rfl) (by kernel_rfl) (by kernel_rfl) (fun _ _ _ h => h) (Or.inl ⟨by rfl, ?hy43⟩) (by assumption) ?rest43
                case hy43 =>
                  intro w9 hSw
                  clear hSw
                  go_simp
                  first | done | with_reducible rfl
                (try simp only [Act.put]); (try simp only [List.setIfInBounds_toArray]); (try simp only [List.set_cons_succ]); (try simp only [List.set_cons_zero])
                refine wpAnyH_take (i := 8) (oi := { dst := Option.some 80, op := Go.Op.indexAddr 23 (Go.Operand.tmp 78) (Go.Operand.tmp 79), type := 0, pos := "l12_store.go:70", after := #[{ on := 6, ground := Go.Ground.data }, { on := 7, ground := Go.Ground.data }], guard := Option.none }) (v := ?v44) rfl (by kernel_rfl) (by kernel_rfl) (by kernel_rfl) (fun _ _ _ h => h) (Or.inl ⟨by rfl, ?hy44⟩) (by assumption) ?rest44
                case hy44 =>
                  intro w9 hSw
                  clear hSw
                  go_simp
                  first | done | with_reducible rfl
                (try simp only [Act.put]); (try simp only [List.setIfInBounds_toArray]); (try simp only [List.set_cons_succ]); (try simp only [List.set_cons_zero])
                refine wpAnyH_take (i := 9) (oi := { dst := Option.some 81, op := Go.Op.load 22 (Go.Operand.tmp 80), type := 22, pos := "l12_store.go:70", after := #[{ on := 8, ground := Go.Ground.data }], guard := Option.none }) (v := ?v45) rfl (by kernel_rfl) (by kernel_rfl) (by kernel_rfl) (fun _ _ _ h => h) (Or.inl ⟨by rfl, ?hy45⟩) (by assumption) ?rest45
                case hy45 =>
                  intro w9 hSw
                  obtain ⟨⟨f0, f1, f2, f3, f4, f5⟩, f6, f7⟩ := hSw
                  go_simp
                  first | done | with_reducible rfl
                (try simp only [Act.put]); (try simp only [List.setIfInBounds_toArray]); (try simp only [List.set_cons_succ]); (try simp only [List.set_cons_zero])
                refine wpAnyH_take (i := 10) (oi := { dst := Option.some 82, op := Go.Op.fieldAddr 27 (Go.Operand.tmp 1) 4, type := 0, pos := "l12_store.go:70", after := #[], guard := Option.none }) (v := ?v46) rfl (by kernel_rfl) (by kernel_rfl) (by kernel_rfl) (fun _ _ _ h => h) (Or.inl ⟨by rfl, ?hy46⟩) (by assumption) ?rest46
                case hy46 =>
                  intro w9 hSw
                  clear hSw
                  go_simp
                  first | done | with_reducible rfl
                (try simp only [Act.put]); (try simp only [List.setIfInBounds_toArray]); (try simp only [List.set_cons_succ]); (try simp only [List.set_cons_zero])
                refine wpAnyH_take (i := 11) (oi := { dst := Option.some 83, op := Go.Op.load 3 (Go.Operand.tmp 82), type := 3, pos := "l12_store.go:70", after := #[{ on := 10, ground := Go.Ground.data }], guard := Option.none }) (v := ?v47) rfl (by kernel_rfl) (by kernel_rfl) (by kernel_rfl) (fun _ _ _ h => h) (Or.inl ⟨by rfl, ?hy47⟩) (by assumption) ?rest47
                case hy47 =>
                  intro w9 hSw
                  obtain ⟨⟨f0, f1, f2, f3, f4, f5⟩, f6, f7⟩ := hSw
                  go_simp
                  first | done | with_reducible rfl
                (try simp only [Act.put]); (try simp only [List.setIfInBounds_toArray]); (try simp only [List.set_cons_succ]); (try simp only [List.set_cons_zero])
                refine wpAnyH_ready (rs := [12]) (by kernel_rfl) (by simp) ?_
                refine AllReadyH.cons (o := { dst := Option.some 84, op := Go.Op.call { callee := Go.Callee.value (Go.Operand.func 36), args := #[Go.Operand.tmp 76, Go.Operand.tmp 81, Go.Operand.tmp 83], argTypes := #[22, 22, 3] }, type := 4, pos := "l12_store.go:70", after := #[{ on := 4, ground := Go.Ground.data }, { on := 9, ground := Go.Ground.data }, { on := 11, ground := Go.Ground.data }], guard := Option.none }) rfl (fun K hK => ?_) AllReadyH.nil
                go_simp
                (go_at_call 36; refine Calls.mono (HNW.out _ (by exact bel2 HBI.out (by rfl) (by rfl) (by rfl) (by rfl))) ?_; rintro e w9 ⟨rfl, hb9⟩; have HB9 := Lib.hid hb9; clear hb9)
                (try go_wp2_with fail)
                refine hK.out _ _ (HS13.out _ HB9.out) (fun hHeld => ?_)
                clear hK K
                (try simp only [Act.put]); (try simp only [List.setIfInBounds_toArray]); (try simp only [List.set_cons_succ]); (try simp only [List.set_cons_zero])
                refine wpAnyH_take (i := 13) (oi := { dst := Option.some 85, op := Go.Op.unOp Go.UnOp.not 4 (Go.Operand.tmp 84), type := 4, pos := "l12_store.go:70", after := #[{ on := 12, ground := Go.Ground.data }], guard := Option.none }) (v := ?v48) rfl (by kernel_rfl) (by kernel_rfl) (by kernel_rfl) (fun _ _ _ h => h) (Or.inl ⟨by rfl, ?hy48⟩) (by assumption) ?rest48
                case hy48 =>
                  intro w9 hSw
                  clear hSw
                  go_simp
                  first | done | with_reducible rfl
                (try simp only [Act.put]); (try simp only [List.setIfInBounds_toArray]); (try simp only [List.set_cons_succ]); (try simp only [List.set_cons_zero])
                refine wpAnyH_done (by kernel_rfl) ?_ _
                go_wp2
                go_ret
                exact ⟨false, rfl, ⟨fun h => (by cases h), fun h => absurd h.new (oldTo_no hkl hql (by omega) (by rw [← H0.out, ← H2.out]; exact HB3'.out.symm))⟩, HB.out.trans (HB9.out.mono HB.out.size)⟩
              | true =>
                go_upto_region 13 with fail
                refine wp_region_held_drew (S := (fun W : World => (W.cell? ⟨w.heap.size, 0, none⟩ = some (.slice A0 top.length c0) ∧ W.cell? ⟨w.heap.size, 1, none⟩ = some (.slice (some ⟨lb, lo, none⟩) levels.length c1) ∧ W.cell? ⟨w.heap.size, 2, none⟩ = some (.slice A2 sieves.length c2) ∧ W.cell? ⟨w.heap.size, 3, none⟩ = some (.int .i64 keep) ∧ W.cell? ⟨w.heap.size, 4, none⟩ = some (.int .i64 time) ∧ W.cell? ⟨w.heap.size, 5, none⟩ = some (.slice A5 times.length c5)) ∧ W.cell? ⟨lb, lo + k, none⟩ = some (.slice A' r.length c') ∧ W.cell? ⟨lb, lo + q, none⟩ = some (.slice A3 r2.length c3))) (by kernel_rfl) (HS13.out _ (by exact bel2 HBI.out (by rfl) (by rfl) (by rfl) (by rfl))) (fun hHeld => ?_)
                refine wpAnyH_take (i := 0) (oi := { dst := Option.some 72, op := Go.Op.fieldAddr 27 (Go.Operand.tmp 1) 1, type := 0, pos := "l12_store.go:70", after := #[], guard := Option.none }) (v := ?v49) rfl (by kernel_rfl) (by kernel_rfl) (by kernel_rfl) (fun _ _ _ h => h) (Or.inl ⟨by rfl, ?hy49⟩) (by assumption) ?rest49
                case hy49 =>
                  intro w9 hSw
                  clear hSw
                  go_simp
                  first | done | with_reducible rfl
                (try simp only [Act.put]); (try simp only [List.setIfInBounds_toArray]); (try simp only [List.set_cons_succ]); (try simp only [List.set_cons_zero])
                refine wpAnyH_take (i := 1) (oi := { dst := Option.some 73, op := Go.Op.load 23 (Go.Operand.tmp 72), type := 23, pos := "l12_store.go:70", after := #[{ on := 0, ground := Go.Ground.data }], guard := Option.none }) (v := ?v50) rfl (by kernel_rfl) (by kernel_rfl) (by kernel_rfl) (fun _ _ _ h => h) (Or.inl ⟨by rfl, ?hy50⟩) (by assumption) ?rest50
                case hy50 =>
                  intro w9 hSw
                  obtain ⟨⟨f0, f1, f2, f3, f4, f5⟩, f6, f7⟩ := hSw
                  go_simp
                  first | done | with_reducible rfl
                (try simp only [Act.put]); (try simp only [List.setIfInBounds_toArray]); (try simp only [List.set_cons_succ]); (try simp only [List.set_cons_zero])
                refine wpAnyH_take (i := 2) (oi := { dst := Option.some 74, op := Go.Op.move (Go.Operand.tmp 3), type := 3, pos := "l12_store.go:70", after := #[], guard := Option.none }) (v := ?v51) rfl (by kernel_rfl) (by kernel_rfl) (by kernel_rfl) (fun _ _ _ h => h) (Or.inl ⟨by rfl, ?hy51⟩) (by assumption) ?rest51
                case hy51 =>
                  intro w9 hSw
                  clear hSw
                  go_simp
                  first | done | with_reducible rfl
                (try simp only [Act.put]); (try simp only [List.setIfInBounds_toArray]); (try simp only [List.set_cons_succ]); (try simp only [List.set_cons_zero])
                refine wpAnyH_take (i := 3) (oi := { dst := Option.some 75, op := Go.Op.indexAddr 23 (Go.Operand.tmp 73) (Go.Operand.tmp 74), type := 0, pos := "l12_store.go:70", after := #[{ on := 1, ground := Go.Ground.data }, { on := 2, ground := Go.Ground.data }], guard := Option.none }) (v := ?v52) rfl (by kernel_rfl) (by kernel_rfl) (by kernel_rfl) (fun _ _ _ h => h) (Or.inl ⟨by rfl, ?hy52⟩) (by assumption) ?rest52
                case hy52 =>
                  intro w9 hSw
                  clear hSw
                  go_simp
                  first | done | with_reducible rfl
                (try simp only [Act.put]); (try simp only [List.setIfInBounds_toArray]); (try simp only [List.set_cons_succ]); (try simp only [List.set_cons_zero])
                refine wpAnyH_take (i := 4) (oi := { dst := Option.some 76, op := Go.Op.load 22 (Go.Operand.tmp 75), type := 22, pos := "l12_store.go:70", after := #[{ on := 3, ground := Go.Ground.data }], guard := Option.none }) (v := ?v53) rfl (by kernel_rfl) (by kernel_rfl) (by kernel_rfl) (fun _ _ _ h => h) (Or.inl ⟨by rfl, ?hy53⟩) (by assumption) ?rest53
                case hy53 =>
                  intro w9 hSw
                  obtain ⟨⟨f0, f1, f2, f3, f4, f5⟩, f6, f7⟩ := hSw
                  go_simp
                  first | done | with_reducible rfl
                (try simp only [Act.put]); (try simp only [List.setIfInBounds_toArray]); (try simp only [List.set_cons_succ]); (try simp only [List.set_cons_zero])
                refine wpAnyH_take (i := 5) (oi := { dst := Option.some 77, op := Go.Op.fieldAddr 27 (Go.Operand.tmp 1) 1, type := 0, pos := "l12_store.go:70", after := #[], guard := Option.none }) (v := ?v54) rfl (by kernel_rfl) (by kernel_rfl) (by kernel_rfl) (fun _ _ _ h => h) (Or.inl ⟨by rfl, ?hy54⟩) (by assumption) ?rest54
                case hy54 =>
                  intro w9 hSw
                  clear hSw
                  go_simp
                  first | done | with_reducible rfl
                (try simp only [Act.put]); (try simp only [List.setIfInBounds_toArray]); (try simp only [List.set_cons_succ]); (try simp only [List.set_cons_zero])
                refine wpAnyH_take (i := 6) (oi := { dst := Option.some 78, op := Go.Op.load 23 (Go.Operand.tmp 77), type := 23, pos := "l12_store.go:70", after := #[{ on := 5, ground := Go.Ground.data }], guard := Option.none }) (v := ?v55) rfl (by kernel_rfl) (by kernel_rfl) (by kernel_rfl) (fun _ _ _ h => h) (Or.inl ⟨by rfl, ?hy55⟩) (by assumption) ?rest55
                case hy55 =>
                  intro w9 hSw
                  obtain ⟨⟨f0, f1, f2, f3, f4, f5⟩, f6, f7⟩ := hSw
                  go_simp
                  first | done | with_reducible rfl
                (try simp only [Act.put]); (try simp only [List.setIfInBounds_toArray]); (try simp only [List.set_cons_succ]); (try simp only [List.set_cons_zero])
                refine wpAnyH_take (i := 7) (oi := { dst := Option.some 79, op := Go.Op.move (Go.Operand.tmp 4), type := 3, pos := "l12_store.go:70", after := #[], guard := Option.none }) (v := ?v56) rfl (by kernel_rfl) (by kernel_rfl) (by kernel_rfl) (fun _ _ _ h => h) (Or.inl ⟨by rfl, ?hy56⟩) (by assumption) ?rest56
                case hy56 =>
                  intro w9 hSw
                  clear hSw
                  go_simp
                  first | done | with_reducible rfl
                (try simp only [Act.put]); (try simp only [List.setIfInBounds_toArray]); (try simp only [List.set_cons_succ]); (try simp only [List.set_cons_zero])
                refine wpAnyH_take (i := 8) (oi := { dst := Option.some 80, op := Go.Op.indexAddr 23 (Go.Operand.tmp 78) (Go.Operand.tmp 79), type := 0, pos := "l12_store.go:70", after := #[{ on := 6, ground := Go.Ground.data }, { on := 7, ground := Go.Ground.data }], guard := Option.none }) (v := ?v57) rfl (by kernel_rfl) (by kernel_rfl) (by kernel_rfl) (fun _ _ _ h => h) (Or.inl ⟨by rfl, ?hy57⟩) (by assumption) ?rest57
                case hy57 =>
                  intro w9 hSw
                  clear hSw
                  go_simp
                  first | done | with_reducible rfl
                (try simp only [Act.put]); (try simp only [List.setIfInBounds_toArray]); (try simp only [List.set_cons_succ]); (try simp only [List.set_cons_zero])
                refine wpAnyH_take (i := 9) (oi := { dst := Option.some 81, op := Go.Op.load 22 (Go.Operand.tmp 80), type := 22, pos := "l12_store.go:70", after := #[{ on := 8, ground := Go.Ground.data }], guard := Option.none }) (v := ?v58) rfl (by kernel_rfl) (by kernel_rfl) (by kernel_rfl) (fun _ _ _ h => h) (Or.inl ⟨by rfl, ?hy58⟩) (by assumption) ?rest58
                case hy58 =>
                  intro w9 hSw
                  obtain ⟨⟨f0, f1, f2, f3, f4, f5⟩, f6, f7⟩ := hSw
                  go_simp
                  first | done | with_reducible rfl
                (try simp only [Act.put]); (try simp only [List.setIfInBounds_toArray]); (try simp only [List.set_cons_succ]); (try simp only [List.set_cons_zero])
                refine wpAnyH_take (i := 10) (oi := { dst := Option.some 82, op := Go.Op.fieldAddr 27 (Go.Operand.tmp 1) 4, type := 0, pos := "l12_store.go:70", after := #[], guard := Option.none }) (v := ?v59) rfl (by kernel_rfl) (by kernel_rfl) (by kernel_rfl) (fun _ _ _ h => h) (Or.inl ⟨by rfl, ?hy59⟩) (by assumption) ?rest59
                case hy59 =>
                  intro w9 hSw
                  clear hSw
                  go_simp
                  first | done | with_reducible rfl
                (try simp only [Act.put]); (try simp only [List.setIfInBounds_toArray]); (try simp only [List.set_cons_succ]); (try simp only [List.set_cons_zero])
                refine wpAnyH_take (i := 11) (oi := { dst := Option.some 83, op := Go.Op.load 3 (Go.Operand.tmp 82), type := 3, pos := "l12_store.go:70", after := #[{ on := 10, ground := Go.Ground.data }], guard := Option.none }) (v := ?v60) rfl (by kernel_rfl) (by kernel_rfl) (by kernel_rfl) (fun _ _ _ h => h) (Or.inl ⟨by rfl, ?hy60⟩) (by assumption) ?rest60
                case hy60 =>
                  intro w9 hSw
                  obtain ⟨⟨f0, f1, f2, f3, f4, f5⟩, f6, f7⟩ := hSw
                  go_simp
                  first | done | with_reducible rfl
                (try simp only [Act.put]); (try simp only [List.setIfInBounds_toArray]); (try simp only [List.set_cons_succ]); (try simp only [List.set_cons_zero])
                refine wpAnyH_ready (rs := [12]) (by kernel_rfl) (by simp) ?_
                refine AllReadyH.cons (o := { dst := Option.some 84, op := Go.Op.call { callee := Go.Callee.value (Go.Operand.func 36), args := #[Go.Operand.tmp 76, Go.Operand.tmp 81, Go.Operand.tmp 83], argTypes := #[22, 22, 3] }, type := 4, pos := "l12_store.go:70", after := #[{ on := 4, ground := Go.Ground.data }, { on := 9, ground := Go.Ground.data }, { on := 11, ground := Go.Ground.data }], guard := Option.none }) rfl (fun K hK => ?_) AllReadyH.nil
                go_simp
                (go_at_call 36; refine Calls.mono (HNW.out _ (by exact bel2 HBI.out (by rfl) (by rfl) (by rfl) (by rfl))) ?_; rintro e w9 ⟨rfl, hb9⟩; have HB9 := Lib.hid hb9; clear hb9)
                (try go_wp2_with fail)
                refine hK.out _ _ (HS13.out _ HB9.out) (fun hHeld => ?_)
                clear hK K
                (try simp only [Act.put]); (try simp only [List.setIfInBounds_toArray]); (try simp only [List.set_cons_succ]); (try simp only [List.set_cons_zero])
                refine wpAnyH_take (i := 13) (oi := { dst := Option.some 85, op := Go.Op.unOp Go.UnOp.not 4 (Go.Operand.tmp 84), type := 4, pos := "l12_store.go:70", after := #[{ on := 12, ground := Go.Ground.data }], guard := Option.none }) (v := ?v61) rfl (by kernel_rfl) (by kernel_rfl) (by kernel_rfl) (fun _ _ _ h => h) (Or.inl ⟨by rfl, ?hy61⟩) (by assumption) ?rest61
                case hy61 =>
                  intro w9 hSw
                  clear hSw
                  go_simp
                  first | done | with_reducible rfl
                (try simp only [Act.put]); (try simp only [List.setIfInBounds_toArray]); (try simp only [List.set_cons_succ]); (try simp only [List.set_cons_zero])
                refine wpAnyH_done (by kernel_rfl) ?_ _
                go_wp2
                go_roundw
                case rel =>
                  refine ⟨q + 1, by omega, by omega, by go_num, Lib.hid (fun j h h1 h2 => ?_), HB9.out⟩
                  by_cases e : j = q
                  · subst e; rw [← H2.out]; exact HB3'.out.symm
                  · exact hj.out j h h1 (by omega)
                case measure => simp [intOf]; omega
            · have hq : q = 3 := by omega
              subst hq
              clear hg1
              go_wp2
              go_roundw
              case rel =>
                refine ⟨k + 1, by omega, by go_num, Lib.hid (fun j h h2 hjk => ?_), Lib.hid (fun j h hjk => ?_), HBI.out⟩
                · by_cases e : j = k
                  · subst e; exact HB1.out.symm
                  · exact hl.out j h h2 (by omega)
                · by_cases e : j = k
                  · subst e
                    refine ⟨by rw [← H0.out]; exact HB2.out.symm, fun m hm hjm => ?_⟩
                    rw [← H0.out]
                    exact hj.out m hm hjm (by have := G1.out; omega)
                  · exact hn.out j h (by omega)
              case measure => simp [intOf]; omega
    · have hke : k = 3 := by omega
      subst hke
      have HOK := Lib.hid (show StP ⟨top, levels, sieves, keep, time, times⟩ from ⟨hg1, hg2, g3, g4, g5, g6, g7, fun i h h2 => hl.out i h h2 (by show i < 3; simp at h; omega), oldTo_all.mp (by have := hn.out; rw [← hg1] at this; exact this)⟩)
      clear hg1 hg2
      go_wp2
      go_ret
      exact ⟨true, rfl, ⟨fun _ => HOK.out, fun _ => rfl⟩, HB.out.trans (HBL.out.mono HB.out.size)⟩

end Go.Proofs.YtfhpkcamigkmdaaDoor.W
