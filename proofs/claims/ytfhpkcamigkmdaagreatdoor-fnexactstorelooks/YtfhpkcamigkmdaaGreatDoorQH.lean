/-
  The model's l12Level: whether a level is one, and its filter that of its keys.
-/
import Derived.Test.YtfhpkcamigkmdaaGreatDoorZAA
import Derived.Test.YtfhpkcamigkmdaaGreatDoorZAO
import Derived.Test.YtfhpkcamigkmdaaGreatDoorJ4
import Derived.Deep.CutRange
import Derived.Deep.RegionHeld
namespace Go.Proofs.YtfhpkcamigkmdaaGreatDoor.W
open Go.RowKit K R

/-- a filter is that of a run's keys -/
def sfB (keep : Int) (r : List En) (x : Sf) : Bool :=
  ((svL (keysL r) keep).toList == x.letters.toList) && (((svM (keysL r) keep).toList == x.more.toList) && (((svF (keysL r) keep).toList == x.first.toList) && (decide (svK (keysL r) keep = x.keep) && sameL (svR (keysL r) keep) x.rests)))
/-- a level is one -/
def lvlB (keep : Int) (i : Nat) (r : List En) (x : Sf) : Bool := runB r && (decide (r.length ≤ 8 * (i + 1)) && (svYes (keysL r) keep && sfB keep r x))
theorem lvl_run {keep : Int} {i : Nat} {r : List En} {x : Sf} (h : runB r = false) : lvlB keep i r x = false := by unfold lvlB; rw [h]; rfl
theorem lvl_long {keep : Int} {i : Nat} {r : List En} {x : Sf} (h : ¬ r.length ≤ 8 * (i + 1)) : lvlB keep i r x = false := by unfold lvlB; rw [decide_eq_false h, Bool.false_and, Bool.and_false]

theorem lvl_eq {keep : Int} {i : Nat} {r : List En} {X0 X1 X2 : ByteArray} {XR : List ByteArray} {XK : Int} {L M_ F : ByteArray} {SR : List ByteArray} {K : Int} {y : Bool} (h1 : runB r = true) (h2 : r.length ≤ 8 * (i + 1)) (h : SvOf keep (keysL r) L M_ F SR K y) :
    lvlB keep i r ⟨X0, X1, X2, XR, XK⟩ = (y && ((L.toList == X0.toList) && ((M_.toList == X1.toList) && ((F.toList == X2.toList) && (decide (K = XK) && sameL SR XR))))) := by
  obtain ⟨rfl, rfl, rfl, rfl, rfl, rfl⟩ := h
  unfold lvlB sfB
  rw [h1, decide_eq_true h2]
  simp

set_option maxHeartbeats 8000000 in
set_option maxRecDepth 100000 in
theorem lvlS (w : World) (A0 A1 A2 A5 : Option Addr) (c0 c1 c2 c5 i : Nat) (s : Sto) (hr : StM w w.heap.size A0 A1 A2 A5 c0 c1 c2 c5 s) (hsm : smallSt s) (hi1 : i < s.levels.length) (hi2 : i < s.sieves.length) (hi3 : i ≤ 100) :
    Calls Tryz.prog 94 #[stV A0 A1 A2 A5 c0 c1 c2 c5 s, .int .i64 (i : Nat)] w fun e w' => e = .returned (.bool (lvlB s.keep i s.levels[i] s.sieves[i])) ∧ Below w.heap.size w w' := by
  obtain ⟨top, levels, sieves, keep, time, times⟩ := s
  obtain ⟨-, h1, h2, -, -, b1, b2, -⟩ := hr
  obtain ⟨-, s1, s2, -⟩ := hsm
  simp only [stV] at *
  have hi1 : i < levels.length := hi1
  have hi2 : i < sieves.length := hi2
  obtain ⟨W0, hW0⟩ : ∃ W0, W0 = w.alloc (.cells #[.slice A0 top.length c0, .slice A1 levels.length c1, .slice A2 sieves.length c2, .int .i64 keep, .int .i64 time, .slice A5 times.length c5] 33) := ⟨_, rfl⟩
  have hbw : Below w.heap.size w W0 := by rw [hW0]; exact (Below.refl _ _).alloc (Nat.le_refl _) _
  have hs0 : W0.heap.size = w.heap.size + 1 := by rw [hW0]; simp
  have x0 : W0.heap[w.heap.size]? = some (.cells #[.slice A0 top.length c0, .slice A1 levels.length c1, .slice A2 sieves.length c2, .int .i64 keep, .int .i64 time, .slice A5 times.length c5] 33 (0, 0)) := by rw [hW0]; exact heap_alloc_new _ _
  obtain ⟨lb, lo, A', c', hA, hlb, d0, he, e1, e2⟩ := h1.cell i hi1
  obtain ⟨sb, so, A3, c3, hA2, hsb, g0, g1, g2, g3, g4, hst, e3, e4⟩ := h2.cell i hi2
  subst hA hA2
  obtain ⟨r, hr⟩ : ∃ r, r = levels[i] := ⟨_, rfl⟩
  obtain ⟨x, hx⟩ : ∃ x, x = sieves[i] := ⟨_, rfl⟩
  have hsr := s1.2 _ (List.getElem_mem hi1)
  have hsx := s2.2 _ (List.getElem_mem hi2)
  rw [← hr] at d0 he e1 hsr ⊢
  rw [← hx] at g0 g1 g2 g3 g4 hst e3 hsx ⊢
  obtain ⟨X0, X1, X2, XR, XK⟩ := x
  have z0 : (0 : Int) ≤ (i : Int) := by omega
  have z1 : (i : Int) < (levels.length : Int) := by omega
  have z2 : (i : Int) < (sieves.length : Int) := by omega
  have HB := Lib.hid hbw
  have HS0 := Lib.hid hs0
  have hlb0 : lb < W0.heap.size := by omega
  have hsb0 : sb < W0.heap.size := by omega
  have dd0 := (hbw.cell (p := ⟨lb, lo + i, none⟩) hlb).trans d0
  have HSS := Lib.hid (show ∀ W, Below W0.heap.size W0 W → (fun W : World => W.cell? ⟨w.heap.size, 1, none⟩ = some (.slice (some ⟨lb, lo, none⟩) levels.length c1) ∧ W.cell? ⟨w.heap.size, 3, none⟩ = some (.int .i64 keep) ∧ W.cell? ⟨lb, lo + i, none⟩ = some (.slice A' r.length c')) W from fun W hW => by
    obtain ⟨-, q1, q2, q3, -, -⟩ := st_cells ((hW.block w.heap.size (by omega)).trans x0)
    exact ⟨q1, q3, (hW.cell (p := ⟨lb, lo + i, none⟩) hlb0).trans dd0⟩)
  have HG := Lib.hid (show ∀ W, Below W0.heap.size W0 W → W.cell? ⟨sb, so + i * 5, none⟩ = some (.string X0) ∧ W.cell? ⟨sb, so + i * 5 + 1, none⟩ = some (.string X1) ∧ W.cell? ⟨sb, so + i * 5 + 2, none⟩ = some (.string X2) ∧ W.cell? ⟨sb, so + i * 5 + 3, none⟩ = some (.slice A3 XR.length c3) ∧ W.cell? ⟨sb, so + i * 5 + 4, none⟩ = some (.int .i64 XK) from fun W hW =>
    ⟨(hW.cell (p := ⟨sb, so + i * 5, none⟩) hsb0).trans ((hbw.cell (p := ⟨sb, so + i * 5, none⟩) hsb).trans g0), (hW.cell (p := ⟨sb, so + i * 5 + 1, none⟩) hsb0).trans ((hbw.cell (p := ⟨sb, so + i * 5 + 1, none⟩) hsb).trans g1), (hW.cell (p := ⟨sb, so + i * 5 + 2, none⟩) hsb0).trans ((hbw.cell (p := ⟨sb, so + i * 5 + 2, none⟩) hsb).trans g2), (hW.cell (p := ⟨sb, so + i * 5 + 3, none⟩) hsb0).trans ((hbw.cell (p := ⟨sb, so + i * 5 + 3, none⟩) hsb).trans g3), (hW.cell (p := ⟨sb, so + i * 5 + 4, none⟩) hsb0).trans ((hbw.cell (p := ⟨sb, so + i * 5 + 4, none⟩) hsb).trans g4)⟩)
  have HBC0 := Lib.hid (show ∀ W, Below W0.heap.size W0 W → _ from fun W hW => st_cells ((hW.block w.heap.size (by omega)).trans x0))
  have HST := Lib.hid (show ∀ W, Below W0.heap.size W0 W → Strs W w.heap.size A3 XR.length XR from fun W hW => (hst.below hbw (Nat.le_refl _)).below (hW.mono hbw.size) (Nat.le_refl _))
  have HXRL := Lib.hid (show XR.length ≤ maxLen by have := hsx.2.1; unfold maxLen; simp at this; omega)
  have hEn := he.below hbw (Nat.le_refl _)
  have hfr : ∀ e ∈ r, e.key.size ≤ maxLen := fun e he => by have := hsr.2 e he; unfold maxLen; omega
  obtain ⟨b, hb⟩ : ∃ b, b = runB r := ⟨_, rfl⟩
  have HRK := Lib.hid (show ∀ W, Below W0.heap.size W0 W → Calls Tryz.prog 93 #[.slice A' r.length c'] W fun e w' => e = .returned (.bool b) ∧ Below W0.heap.size W0 w' from fun W hW => by
    rw [hb]
    exact (runS W w.heap.size r.length c' A' r (hEn.below (hW.mono hbw.size) (Nat.le_refl _)) (Nat.le_trans hbw.size hW.size) (Nat.le_trans e1 e2) hfr).mono fun _ _ ⟨x, y⟩ => ⟨x, hW.trans (y.mono hW.size)⟩)
  have HSZ := Lib.hid (show ∀ W : World, Calls Tryz.prog 108 #[.int .i64 (i : Nat)] W fun e w' => e = .returned (.int .i64 (8 * ((i : Int) + 1))) ∧ W = w' from fun W => sizeL i W (by omega) (by omega))
  obtain ⟨ks, hks⟩ : ∃ ks, ks = keysL r := ⟨_, rfl⟩
  obtain ⟨L, hL⟩ : ∃ x, x = svL ks keep := ⟨_, rfl⟩
  obtain ⟨M_, hM⟩ : ∃ x, x = svM ks keep := ⟨_, rfl⟩
  obtain ⟨F, hF⟩ : ∃ x, x = svF ks keep := ⟨_, rfl⟩
  obtain ⟨SR, hSR⟩ : ∃ x, x = svR ks keep := ⟨_, rfl⟩
  obtain ⟨K, hK⟩ : ∃ x, x = svK ks keep := ⟨_, rfl⟩
  obtain ⟨y, hy⟩ : ∃ x, x = svYes ks keep := ⟨_, rfl⟩
  have HSO := Lib.hid (show SvOf keep (keysL r) L M_ F SR K y by rw [← hks]; exact ⟨hL, hM, hF, hSR, hK, hy⟩)
  have hkl : ∀ s ∈ ks, s.size ≤ maxLen := fun s hs => by
    rw [hks] at hs
    obtain ⟨e, he, rfl⟩ := mem_keysL.mp hs
    exact hfr e he
  have HSRL := Lib.hid (show SR.length ≤ maxLen by rw [hSR]; have := svR_len ks keep; unfold maxLen; omega)
  have HKY0 := Lib.hid (show ∀ W1, Below W0.heap.size W0 W1 → ∀ W, Below W1.heap.size W1 W → Calls Tryz.prog 76 #[.slice A' r.length c'] W fun e w' => ∃ A c, e = .returned (.slice A ks.length c) ∧ ks.length ≤ c ∧ c ≤ maxLen ∧ Strs w' w'.heap.size A ks.length ks ∧ Below W.heap.size W w' from fun W1 hW1 W hW => by
    have hWW := hW1.trans (hW.mono hW1.size)
    refine (keysOfS W w.heap.size r.length c' A' r (hEn.below (hWW.mono hbw.size) (Nat.le_refl _)) (Nat.le_trans hbw.size hWW.size) (by have := hsr.1; omega)).mono ?_
    rintro e w' ⟨v, rfl, ho, hb'⟩
    rw [← hks] at ho
    obtain ⟨A, c, rfl, p1, p2, p3⟩ := ho.parts
    exact ⟨A, c, rfl, p1, p2, p3, hb'⟩)
  have HSV := Lib.hid (show ∀ (W : World) (A : Option Addr) (c : Nat), Strs W W.heap.size A ks.length ks → ks.length ≤ c → c ≤ maxLen → Calls Tryz.prog 107 #[.slice A ks.length c, .int .i64 keep] W (OfF W L M_ F SR K y) from fun W A c g1 g2 g3 => by
    rw [hL, hM, hF, hSR, hK, hy]
    exact (ofS W ks.length c A ks keep g1 g2 g3 hkl).mono fun _ _ h => of_fields h)
  have HW0 := Lib.hid hW0
  have HD := Lib.hid hb
  have HR0 := Lib.hid (Below.refl W0.heap.size W0)
  clear hks hL hM hF hSR hK hy hkl hr hx h1 h2 b1 b2 s1 s2 hbw hs0 x0 d0 dd0 he g0 g1 g2 g3 g4 hst e1 e3 hb hW0
  cases b with
  | false =>
    have HQ := Lib.hid (lvl_run (keep := keep) (i := i) (x := ⟨X0, X1, X2, XR, XK⟩) HD.out.symm)
    go_enter Tryz.func94, Tryz.ntmps94
    go_upto_region 1 with fail
    rw [← HW0.out]
    refine wp_region_held_drew (S := (fun W : World => W.cell? ⟨w.heap.size, 1, none⟩ = some (.slice (some ⟨lb, lo, none⟩) levels.length c1) ∧ W.cell? ⟨w.heap.size, 3, none⟩ = some (.int .i64 keep) ∧ W.cell? ⟨lb, lo + i, none⟩ = some (.slice A' r.length c'))) (by kernel_rfl) (HSS.out _ (by exact bel2 HR0.out (by rfl) (by rfl) (by rfl) (by rfl))) (fun hHeld => ?_)
    refine wpAnyH_takes (a' := ?a1_) [0, 1, 2, 3, 4] (k := 5) rfl (by kernel_rfl) (by kernel_rfl) (fun _ _ _ _ _ h => h) ?t1_ (by assumption) ?r1_
    case t1_ =>
      iterate 5
        apply takes_cons rfl
        · first | (refine Or.inl ⟨by rfl, fun w9 hSw => ?_⟩; clear hSw; go_simp; (first | done | with_reducible rfl)) | (refine Or.inl ⟨by rfl, fun w9 hSw => ?_⟩; obtain ⟨f0, f1, f2⟩ := hSw; go_simp; (first | done | with_reducible rfl))
        (try simp only [Act.put]); (try simp only [List.setIfInBounds_toArray]); (try simp only [List.set_cons_succ]); (try simp only [List.set_cons_zero])
      exact takes_nil
    refine wpAnyH_ready (rs := [5]) (by kernel_rfl) (by simp) ?_
    refine AllReadyH.cons (o := { dst := Option.some 13, op := Go.Op.call { callee := Go.Callee.value (Go.Operand.func 93), args := #[Go.Operand.tmp 12], argTypes := #[29] }, type := 4, pos := "l12_store.go:49", after := #[{ on := 4, ground := Go.Ground.data }], guard := Option.none }) rfl (fun K hK => ?_) AllReadyH.nil
    go_simp
    (go_at_call 93; refine Calls.mono (HRK.out _ (by first | exact HB9.out | exact bel2 HR0.out (by rfl) (by rfl) (by rfl) (by rfl))) ?_; rintro e w9 ⟨rfl, hb9⟩; have HB9 := Lib.hid hb9; clear hb9)
    (try go_wp2_with fail)
    refine hK.out _ _ (HSS.out _ HB9.out) (fun hHeld => ?_)
    clear hK K
    (try simp only [Act.put]); (try simp only [List.setIfInBounds_toArray]); (try simp only [List.set_cons_succ]); (try simp only [List.set_cons_zero])
    refine wpAnyH_takes (a' := ?a2_) [6, 7, 8, 9, 10, 11, 12, 13, 14, 15, 16, 17] (k := 12) rfl (by kernel_rfl) (by kernel_rfl) (fun _ _ _ _ _ h => h) ?t2_ (by assumption) ?r2_
    case t2_ =>
      iterate 12
        apply takes_cons rfl
        · first | (refine Or.inl ⟨by rfl, fun w9 hSw => ?_⟩; clear hSw; go_simp; (first | done | with_reducible rfl)) | exact Or.inr ⟨by rfl, rfl⟩
        (try simp only [Act.put]); (try simp only [List.setIfInBounds_toArray]); (try simp only [List.set_cons_succ]); (try simp only [List.set_cons_zero])
      exact takes_nil
    refine wpAnyH_done (by kernel_rfl) ?_ _
    go_wp2
    go_ret
    exact ⟨ret_bool HQ.out.symm, HB.out.trans (HB9.out.mono HB.out.size)⟩
  | true =>
    by_cases hlong : r.length ≤ 8 * (i + 1)
    · have hng : ¬ (8 * ((i : Int) + 1)) < (r.length : Int) := by omega
      have HLG := Lib.hid hlong
      clear hlong
      go_enter Tryz.func94, Tryz.ntmps94
      go_upto_region 1 with fail
      rw [← HW0.out]
      refine wp_region_held_drew (S := (fun W : World => W.cell? ⟨w.heap.size, 1, none⟩ = some (.slice (some ⟨lb, lo, none⟩) levels.length c1) ∧ W.cell? ⟨w.heap.size, 3, none⟩ = some (.int .i64 keep) ∧ W.cell? ⟨lb, lo + i, none⟩ = some (.slice A' r.length c'))) (by kernel_rfl) (HSS.out _ (by exact bel2 HR0.out (by rfl) (by rfl) (by rfl) (by rfl))) (fun hHeld => ?_)
      refine wpAnyH_takes (a' := ?a3_) [0, 1, 2, 3, 4] (k := 5) rfl (by kernel_rfl) (by kernel_rfl) (fun _ _ _ _ _ h => h) ?t3_ (by assumption) ?r3_
      case t3_ =>
        iterate 5
          apply takes_cons rfl
          · first | (refine Or.inl ⟨by rfl, fun w9 hSw => ?_⟩; clear hSw; go_simp; (first | done | with_reducible rfl)) | (refine Or.inl ⟨by rfl, fun w9 hSw => ?_⟩; obtain ⟨f0, f1, f2⟩ := hSw; go_simp; (first | done | with_reducible rfl))
          (try simp only [Act.put]); (try simp only [List.setIfInBounds_toArray]); (try simp only [List.set_cons_succ]); (try simp only [List.set_cons_zero])
        exact takes_nil
      refine wpAnyH_ready (rs := [5]) (by kernel_rfl) (by simp) ?_
      refine AllReadyH.cons (o := { dst := Option.some 13, op := Go.Op.call { callee := Go.Callee.value (Go.Operand.func 93), args := #[Go.Operand.tmp 12], argTypes := #[29] }, type := 4, pos := "l12_store.go:49", after := #[{ on := 4, ground := Go.Ground.data }], guard := Option.none }) rfl (fun K hK => ?_) AllReadyH.nil
      go_simp
      (go_at_call 93; refine Calls.mono (HRK.out _ (by first | exact HB9.out | exact bel2 HR0.out (by rfl) (by rfl) (by rfl) (by rfl))) ?_; rintro e w9 ⟨rfl, hb9⟩; have HB9 := Lib.hid hb9; clear hb9)
      (try go_wp2_with fail)
      refine hK.out _ _ (HSS.out _ HB9.out) (fun hHeld => ?_)
      clear hK K
      (try simp only [Act.put]); (try simp only [List.setIfInBounds_toArray]); (try simp only [List.set_cons_succ]); (try simp only [List.set_cons_zero])
      refine wpAnyH_takes (a' := ?a4_) [6, 7, 8, 9, 10, 11, 12, 13, 14] (k := 9) rfl (by kernel_rfl) (by kernel_rfl) (fun _ _ _ _ _ h => h) ?t4_ (by assumption) ?r4_
      case t4_ =>
        iterate 9
          apply takes_cons rfl
          · first | (refine Or.inl ⟨by rfl, fun w9 hSw => ?_⟩; clear hSw; go_simp; (first | done | with_reducible rfl)) | (refine Or.inl ⟨by rfl, fun w9 hSw => ?_⟩; obtain ⟨f0, f1, f2⟩ := hSw; go_simp; (first | done | with_reducible rfl))
          (try simp only [Act.put]); (try simp only [List.setIfInBounds_toArray]); (try simp only [List.set_cons_succ]); (try simp only [List.set_cons_zero])
        exact takes_nil
      refine wpAnyH_ready (rs := [15]) (by kernel_rfl) (by simp) ?_
      refine AllReadyH.cons (o := { dst := Option.some 23, op := Go.Op.call { callee := Go.Callee.value (Go.Operand.func 108), args := #[Go.Operand.tmp 22], argTypes := #[3] }, type := 3, pos := "l12_store.go:49", after := #[{ on := 14, ground := Go.Ground.data }, { on := 7, ground := Go.Ground.chain }, { on := 7, ground := Go.Ground.guard }], guard := Option.some (7, Bool.false) }) rfl (fun K hK => ?_) AllReadyH.nil
      go_simp
      (go_at_call 108; refine Calls.mono (HSZ.out _) ?_; rintro e w7 ⟨rfl, rfl⟩)
      (try go_wp2_with fail)
      refine hK.out _ _ (HSS.out _ HB9.out) (fun hHeld => ?_)
      clear hK K
      (try simp only [Act.put]); (try simp only [List.setIfInBounds_toArray]); (try simp only [List.set_cons_succ]); (try simp only [List.set_cons_zero])
      refine wpAnyH_takes (a' := ?a5_) [16, 17] (k := 2) rfl (by kernel_rfl) (by kernel_rfl) (fun _ _ _ _ _ h => h) ?t5_ (by assumption) ?r5_
      case t5_ =>
        iterate 2
          apply takes_cons rfl
          · first | (refine Or.inl ⟨by rfl, fun w9 hSw => ?_⟩; clear hSw; go_simp; (first | done | with_reducible rfl))
          (try simp only [Act.put]); (try simp only [List.setIfInBounds_toArray]); (try simp only [List.set_cons_succ]); (try simp only [List.set_cons_zero])
        exact takes_nil
      refine wpAnyH_done (by kernel_rfl) ?_ _
      obtain ⟨W1, hW1⟩ : ∃ W1, W1 = w9 := ⟨_, rfl⟩
      subst hW1
      have HBX := Lib.hid (HB.out.trans (HB9.out.mono HB.out.size))
      have HR1 := Lib.hid (Below.refl W1.heap.size W1)
      have HSS1 := Lib.hid (show ∀ W, Below W1.heap.size W1 W → (fun W : World => W.cell? ⟨w.heap.size, 1, none⟩ = some (.slice (some ⟨lb, lo, none⟩) levels.length c1) ∧ W.cell? ⟨w.heap.size, 3, none⟩ = some (.int .i64 keep) ∧ W.cell? ⟨lb, lo + i, none⟩ = some (.slice A' r.length c')) W from fun W hW => HSS.out W (HB9.out.trans (hW.mono HB9.out.size)))
      have HKY := Lib.hid (HKY0.out W1 HB9.out)
      clear HRK HSZ
      go_upto_region 3 with fail
      go_cut [5, 6] from 26 to 37 (fun s5 s6 wx => ∃ bx v, s5 = .pointer (some ⟨bx, 0, none⟩) ∧ s6 = .bool y ∧ Hid (SvBox W1 wx bx v L M_ F SR K))
      case first =>
        refine wp_region_held_drew (S := (fun W : World => W.cell? ⟨w.heap.size, 1, none⟩ = some (.slice (some ⟨lb, lo, none⟩) levels.length c1) ∧ W.cell? ⟨w.heap.size, 3, none⟩ = some (.int .i64 keep) ∧ W.cell? ⟨lb, lo + i, none⟩ = some (.slice A' r.length c'))) (by kernel_rfl) (HSS1.out _ (by exact bel2 HR1.out (by rfl) (by rfl) (by rfl) (by rfl))) (fun hHeld => ?_)
        refine wpAnyH_takes (a' := ?a6_) [0, 1, 2, 3, 4, 6, 7] (k := 7) rfl (by kernel_rfl) (by kernel_rfl) (fun _ _ _ _ _ h => h) ?t6_ (by assumption) ?r6_
        case t6_ =>
          iterate 7
            apply takes_cons rfl
            · first | (refine Or.inl ⟨by rfl, fun w9 hSw => ?_⟩; clear hSw; go_simp; (first | done | with_reducible rfl)) | (refine Or.inl ⟨by rfl, fun w9 hSw => ?_⟩; obtain ⟨f0, f1, f2⟩ := hSw; go_simp; (first | done | with_reducible rfl))
            (try simp only [Act.put]); (try simp only [List.setIfInBounds_toArray]); (try simp only [List.set_cons_succ]); (try simp only [List.set_cons_zero])
          exact takes_nil
        refine wpAnyH_ready (rs := [5, 12]) (by kernel_rfl) (by simp) ?_
        refine AllReadyH.cons (o := { dst := Option.some 32, op := Go.Op.call { callee := Go.Callee.value (Go.Operand.func 76), args := #[Go.Operand.tmp 31], argTypes := #[29] }, type := 90, pos := "l12_store.go:52", after := #[{ on := 4, ground := Go.Ground.data }], guard := Option.none }) rfl (fun K hK => ?_) (AllReadyH.cons (o := { dst := Option.some 5, op := Go.Op.alloc 92, type := 0, pos := "l12_store.go:52", after := #[], guard := Option.none }) rfl (fun K hK => ?_) AllReadyH.nil)
        · go_simp
          go_at_call 76
          refine Calls.mono (HKY.out _ (by exact bel2 HR1.out (by rfl) (by rfl) (by rfl) (by rfl))) ?_
          rintro e w9 ⟨A9, k9, rfl, hc9, hm9, hs9, hb9⟩
          have HB9 := Lib.hid (Below.trans (by exact bel2 HR1.out (by rfl) (by rfl) (by rfl) (by rfl)) (hb9.mono (Below.size (by exact bel2 HR1.out (by rfl) (by rfl) (by rfl) (by rfl)))))
          have HS9 := Lib.hid hs9
          clear hb9 hs9
          (try go_wp2_with fail)
          refine hK.out _ _ (HSS1.out _ HB9.out) (fun hHeld => ?_)
          clear hK K
          (try simp only [Act.put]); (try simp only [List.setIfInBounds_toArray]); (try simp only [List.set_cons_succ]); (try simp only [List.set_cons_zero])
          refine wpAnyH_ready (rs := [8, 12]) (by kernel_rfl) (by simp) ?_
          refine AllReadyH.cons (o := { dst := Option.some 35, op := Go.Op.call { callee := Go.Callee.value (Go.Operand.func 107), args := #[Go.Operand.tmp 32, Go.Operand.tmp 34], argTypes := #[90, 3] }, type := 124, pos := "l12_store.go:52", after := #[{ on := 5, ground := Go.Ground.data }, { on := 7, ground := Go.Ground.data }, { on := 5, ground := Go.Ground.chain }], guard := Option.none }) rfl (fun K hK => ?_) (AllReadyH.cons (o := { dst := Option.some 5, op := Go.Op.alloc 92, type := 0, pos := "l12_store.go:52", after := #[], guard := Option.none }) rfl (fun K hK => ?_) AllReadyH.nil)
          · go_simp
            go_at_call 107
            refine Calls.mono (HSV.out _ _ _ HS9.out hc9 hm9) ?_
            rintro e w8 ⟨A8, k8, rfl, ho8, hb8⟩
            have HB8 := Lib.hid (HB9.out.trans (hb8.mono HB9.out.size))
            have HO8 := Lib.hid (ho8.base HB9.out.size)
            clear ho8 hb8
            (try go_wp2_with fail)
            refine hK.out _ _ (HSS1.out _ HB8.out) (fun hHeld => ?_)
            clear hK K
            (try simp only [Act.put]); (try simp only [List.setIfInBounds_toArray]); (try simp only [List.set_cons_succ]); (try simp only [List.set_cons_zero])
            refine wpAnyH_takes (a' := ?a7_) [9, 10, 11] (k := 3) rfl (by kernel_rfl) (by kernel_rfl) (fun _ _ _ _ _ h => h) ?t7_ (by assumption) ?r7_
            case t7_ =>
              iterate 3
                apply takes_cons rfl
                · first | (refine Or.inl ⟨by rfl, fun w9 hSw => ?_⟩; clear hSw; go_simp; (first | done | with_reducible rfl))
                (try simp only [Act.put]); (try simp only [List.setIfInBounds_toArray]); (try simp only [List.set_cons_succ]); (try simp only [List.set_cons_zero])
              exact takes_nil
            have HBA := Lib.hid (HB8.out.alloc HB8.out.size (.cells #[.string ⟨#[]⟩, .string ⟨#[]⟩, .string ⟨#[]⟩, .slice none 0 0, .int .i64 0] 92))
            refine wpAnyH_ready (rs := [12]) (by kernel_rfl) (by simp) ?_
            refine AllReadyH.cons (o := { dst := Option.some 5, op := Go.Op.alloc 92, type := 0, pos := "l12_store.go:52", after := #[], guard := Option.none }) rfl (fun K hK => ?_) AllReadyH.nil
            go_simp
            refine hK.out _ _ (HSS1.out _ HBA.out) (fun hHeld => ?_)
            clear hK K
            (try simp only [Act.put]); (try simp only [List.setIfInBounds_toArray]); (try simp only [List.set_cons_succ]); (try simp only [List.set_cons_zero])
            have HBC := Lib.hid (svbox_new HB8.out HO8.out L M_ F K)
            refine wpAnyH_ready (rs := [13]) (by kernel_rfl) (by simp) ?_
            refine AllReadyH.cons (o := { dst := Option.none, op := Go.Op.store 92 (Go.Operand.tmp 5) (Go.Operand.tmp 36), type := 0, pos := "l12_store.go:52", after := #[{ on := 12, ground := Go.Ground.data }, { on := 10, ground := Go.Ground.data }, { on := 8, ground := Go.Ground.chain }, { on := 0, ground := Go.Ground.phase }, { on := 1, ground := Go.Ground.phase }, { on := 2, ground := Go.Ground.phase }, { on := 3, ground := Go.Ground.phase }, { on := 4, ground := Go.Ground.phase }, { on := 5, ground := Go.Ground.phase }, { on := 6, ground := Go.Ground.phase }, { on := 7, ground := Go.Ground.phase }, { on := 8, ground := Go.Ground.phase }, { on := 9, ground := Go.Ground.phase }, { on := 10, ground := Go.Ground.phase }, { on := 11, ground := Go.Ground.textOnly Go.Departure.lateStores }, { on := 12, ground := Go.Ground.phase }], guard := Option.none }) rfl (fun K hK => ?_) AllReadyH.nil
            go_simp
            refine hK.out _ _ (HSS1.out _ HBC.out.bel) (fun hHeld => ?_)
            clear hK K
            (try simp only [Act.put]); (try simp only [List.setIfInBounds_toArray]); (try simp only [List.set_cons_succ]); (try simp only [List.set_cons_zero])
            refine wpAnyH_takes (a' := ?a8_) [14] (k := 1) rfl (by kernel_rfl) (by kernel_rfl) (fun _ _ _ _ _ h => h) ?t8_ (by assumption) ?r8_
            case t8_ =>
              iterate 1
                apply takes_cons rfl
                · first | (refine Or.inl ⟨by rfl, fun w9 hSw => ?_⟩; clear hSw; go_simp; (first | done | with_reducible rfl))
                (try simp only [Act.put]); (try simp only [List.setIfInBounds_toArray]); (try simp only [List.set_cons_succ]); (try simp only [List.set_cons_zero])
              exact takes_nil
            refine wpAnyH_done (by kernel_rfl) ?_ _
            go_wp2_with fail
            go_meet
            exact ⟨_, _, rfl, rfl, HBC⟩
          · have HBA := Lib.hid (HB9.out.alloc HB9.out.size (.cells #[.string ⟨#[]⟩, .string ⟨#[]⟩, .string ⟨#[]⟩, .slice none 0 0, .int .i64 0] 92))
            go_simp
            refine hK.out _ _ (HSS1.out _ HBA.out) (fun hHeld => ?_)
            clear hK K
            (try simp only [Act.put]); (try simp only [List.setIfInBounds_toArray]); (try simp only [List.set_cons_succ]); (try simp only [List.set_cons_zero])
            refine wpAnyH_ready (rs := [8]) (by kernel_rfl) (by simp) ?_
            refine AllReadyH.cons (o := { dst := Option.some 35, op := Go.Op.call { callee := Go.Callee.value (Go.Operand.func 107), args := #[Go.Operand.tmp 32, Go.Operand.tmp 34], argTypes := #[90, 3] }, type := 124, pos := "l12_store.go:52", after := #[{ on := 5, ground := Go.Ground.data }, { on := 7, ground := Go.Ground.data }, { on := 5, ground := Go.Ground.chain }], guard := Option.none }) rfl (fun K hK => ?_) AllReadyH.nil
            go_simp
            go_at_call 107
            refine Calls.mono (HSV.out _ _ _ (strs_alloc HS9.out _) hc9 hm9) ?_
            rintro e w8 ⟨A8, k8, rfl, ho8, hb8⟩
            have HB8 := Lib.hid (HBA.out.trans (hb8.mono HBA.out.size))
            have HO8 := Lib.hid ho8
            have HX8 := Lib.hid ((hb8.block _ (by simp)).trans (heap_alloc_new w9 _))
            clear ho8 hb8
            (try go_wp2_with fail)
            refine hK.out _ _ (HSS1.out _ HB8.out) (fun hHeld => ?_)
            clear hK K
            (try simp only [Act.put]); (try simp only [List.setIfInBounds_toArray]); (try simp only [List.set_cons_succ]); (try simp only [List.set_cons_zero])
            refine wpAnyH_takes (a' := ?a9_) [9, 10, 11] (k := 3) rfl (by kernel_rfl) (by kernel_rfl) (fun _ _ _ _ _ h => h) ?t9_ (by assumption) ?r9_
            case t9_ =>
              iterate 3
                apply takes_cons rfl
                · first | (refine Or.inl ⟨by rfl, fun w9 hSw => ?_⟩; clear hSw; go_simp; (first | done | with_reducible rfl))
                (try simp only [Act.put]); (try simp only [List.setIfInBounds_toArray]); (try simp only [List.set_cons_succ]); (try simp only [List.set_cons_zero])
              exact takes_nil
            have HBC := Lib.hid (svbox_set HB8.out HO8.out HX8.out HB9.out.size (by simp) L M_ F K)
            obtain ⟨q0, q1, q2, q3, q4⟩ := sv_row HX8.out
            have r0 := frozen_of_row _ _ 0 _ _ HX8.out
            have r1 := frozen_of_row _ _ 1 _ _ HX8.out
            have r2 := frozen_of_row _ _ 2 _ _ HX8.out
            have r3 := frozen_of_row _ _ 3 _ _ HX8.out
            have r4 := frozen_of_row _ _ 4 _ _ HX8.out
            refine wpAnyH_ready (rs := [13]) (by kernel_rfl) (by simp) ?_
            refine AllReadyH.cons (o := { dst := Option.none, op := Go.Op.store 92 (Go.Operand.tmp 5) (Go.Operand.tmp 36), type := 0, pos := "l12_store.go:52", after := #[{ on := 12, ground := Go.Ground.data }, { on := 10, ground := Go.Ground.data }, { on := 8, ground := Go.Ground.chain }, { on := 0, ground := Go.Ground.phase }, { on := 1, ground := Go.Ground.phase }, { on := 2, ground := Go.Ground.phase }, { on := 3, ground := Go.Ground.phase }, { on := 4, ground := Go.Ground.phase }, { on := 5, ground := Go.Ground.phase }, { on := 6, ground := Go.Ground.phase }, { on := 7, ground := Go.Ground.phase }, { on := 8, ground := Go.Ground.phase }, { on := 9, ground := Go.Ground.phase }, { on := 10, ground := Go.Ground.phase }, { on := 11, ground := Go.Ground.textOnly Go.Departure.lateStores }, { on := 12, ground := Go.Ground.phase }], guard := Option.none }) rfl (fun K hK => ?_) AllReadyH.nil
            go_simp
            refine hK.out _ _ (HSS1.out _ HBC.out.bel) (fun hHeld => ?_)
            clear hK K
            (try simp only [Act.put]); (try simp only [List.setIfInBounds_toArray]); (try simp only [List.set_cons_succ]); (try simp only [List.set_cons_zero])
            refine wpAnyH_takes (a' := ?a10_) [14] (k := 1) rfl (by kernel_rfl) (by kernel_rfl) (fun _ _ _ _ _ h => h) ?t10_ (by assumption) ?r10_
            case t10_ =>
              iterate 1
                apply takes_cons rfl
                · first | (refine Or.inl ⟨by rfl, fun w9 hSw => ?_⟩; clear hSw; go_simp; (first | done | with_reducible rfl))
                (try simp only [Act.put]); (try simp only [List.setIfInBounds_toArray]); (try simp only [List.set_cons_succ]); (try simp only [List.set_cons_zero])
              exact takes_nil
            refine wpAnyH_done (by kernel_rfl) ?_ _
            go_wp2_with fail
            go_meet
            exact ⟨_, _, rfl, rfl, HBC⟩
        · have HBA := Lib.hid ((Below.refl W1.heap.size W1).alloc (Nat.le_refl _) (.cells #[.string ⟨#[]⟩, .string ⟨#[]⟩, .string ⟨#[]⟩, .slice none 0 0, .int .i64 0] 92))
          have HZA := Lib.hid (heap_alloc_new W1 (.cells #[.string ⟨#[]⟩, .string ⟨#[]⟩, .string ⟨#[]⟩, .slice none 0 0, .int .i64 0] 92))
          go_simp
          refine hK.out _ _ (HSS1.out _ (by exact bel2 HBA.out (by rfl) (by rfl) (by rfl) (by rfl))) (fun hHeld => ?_)
          clear hK K
          (try simp only [Act.put]); (try simp only [List.setIfInBounds_toArray]); (try simp only [List.set_cons_succ]); (try simp only [List.set_cons_zero])
          refine wpAnyH_ready (rs := [5]) (by kernel_rfl) (by simp) ?_
          refine AllReadyH.cons (o := { dst := Option.some 32, op := Go.Op.call { callee := Go.Callee.value (Go.Operand.func 76), args := #[Go.Operand.tmp 31], argTypes := #[29] }, type := 90, pos := "l12_store.go:52", after := #[{ on := 4, ground := Go.Ground.data }], guard := Option.none }) rfl (fun K hK => ?_) AllReadyH.nil
          go_simp
          go_at_call 76
          refine Calls.mono (HKY.out _ (by exact bel2 HBA.out (by rfl) (by rfl) (by rfl) (by rfl))) ?_
          rintro e w9 ⟨A9, k9, rfl, hc9, hm9, hs9, hb9⟩
          have HB9 := Lib.hid (Below.trans (show Below W1.heap.size W1 _ by exact bel2 HBA.out (by rfl) (by rfl) (by rfl) (by rfl)) (hb9.mono (show W1.heap.size ≤ _ by exact HBA.out.size)))
          have HS9 := Lib.hid hs9
          have HX9 := Lib.hid ((hb9.block W1.heap.size (by show W1.heap.size < (W1.alloc _).heap.size; simp)).trans (by exact HZA.out))
          have hz9 : W1.heap.size < w9.heap.size := Nat.lt_of_lt_of_le (by show W1.heap.size < (W1.alloc _).heap.size; simp) hb9.size
          clear hb9 hs9
          (try go_wp2_with fail)
          refine hK.out _ _ (HSS1.out _ HB9.out) (fun hHeld => ?_)
          clear hK K
          (try simp only [Act.put]); (try simp only [List.setIfInBounds_toArray]); (try simp only [List.set_cons_succ]); (try simp only [List.set_cons_zero])
          refine wpAnyH_ready (rs := [8]) (by kernel_rfl) (by simp) ?_
          refine AllReadyH.cons (o := { dst := Option.some 35, op := Go.Op.call { callee := Go.Callee.value (Go.Operand.func 107), args := #[Go.Operand.tmp 32, Go.Operand.tmp 34], argTypes := #[90, 3] }, type := 124, pos := "l12_store.go:52", after := #[{ on := 5, ground := Go.Ground.data }, { on := 7, ground := Go.Ground.data }, { on := 5, ground := Go.Ground.chain }], guard := Option.none }) rfl (fun K hK => ?_) AllReadyH.nil
          go_simp
          go_at_call 107
          refine Calls.mono (HSV.out _ _ _ HS9.out hc9 hm9) ?_
          rintro e w8 ⟨A8, k8, rfl, ho8, hb8⟩
          have HB8 := Lib.hid (HB9.out.trans (hb8.mono HB9.out.size))
          have HO8 := Lib.hid ho8
          have HX8 := Lib.hid ((hb8.block _ hz9).trans HX9.out)
          clear ho8 hb8
          (try go_wp2_with fail)
          refine hK.out _ _ (HSS1.out _ HB8.out) (fun hHeld => ?_)
          clear hK K
          (try simp only [Act.put]); (try simp only [List.setIfInBounds_toArray]); (try simp only [List.set_cons_succ]); (try simp only [List.set_cons_zero])
          refine wpAnyH_takes (a' := ?a11_) [9, 10, 11] (k := 3) rfl (by kernel_rfl) (by kernel_rfl) (fun _ _ _ _ _ h => h) ?t11_ (by assumption) ?r11_
          case t11_ =>
            iterate 3
              apply takes_cons rfl
              · first | (refine Or.inl ⟨by rfl, fun w9 hSw => ?_⟩; clear hSw; go_simp; (first | done | with_reducible rfl))
              (try simp only [Act.put]); (try simp only [List.setIfInBounds_toArray]); (try simp only [List.set_cons_succ]); (try simp only [List.set_cons_zero])
            exact takes_nil
          have HBC := Lib.hid (svbox_set HB8.out HO8.out HX8.out (Nat.le_refl _) hz9 L M_ F K)
          obtain ⟨q0, q1, q2, q3, q4⟩ := sv_row HX8.out
          have r0 := frozen_of_row _ _ 0 _ _ HX8.out
          have r1 := frozen_of_row _ _ 1 _ _ HX8.out
          have r2 := frozen_of_row _ _ 2 _ _ HX8.out
          have r3 := frozen_of_row _ _ 3 _ _ HX8.out
          have r4 := frozen_of_row _ _ 4 _ _ HX8.out
          refine wpAnyH_ready (rs := [13]) (by kernel_rfl) (by simp) ?_
          refine AllReadyH.cons (o := { dst := Option.none, op := Go.Op.store 92 (Go.Operand.tmp 5) (Go.Operand.tmp 36), type := 0, pos := "l12_store.go:52", after := #[{ on := 12, ground := Go.Ground.data }, { on := 10, ground := Go.Ground.data }, { on := 8, ground := Go.Ground.chain }, { on := 0, ground := Go.Ground.phase }, { on := 1, ground := Go.Ground.phase }, { on := 2, ground := Go.Ground.phase }, { on := 3, ground := Go.Ground.phase }, { on := 4, ground := Go.Ground.phase }, { on := 5, ground := Go.Ground.phase }, { on := 6, ground := Go.Ground.phase }, { on := 7, ground := Go.Ground.phase }, { on := 8, ground := Go.Ground.phase }, { on := 9, ground := Go.Ground.phase }, { on := 10, ground := Go.Ground.phase }, { on := 11, ground := Go.Ground.textOnly Go.Departure.lateStores }, { on := 12, ground := Go.Ground.phase }], guard := Option.none }) rfl (fun K hK => ?_) AllReadyH.nil
          go_simp
          refine hK.out _ _ (HSS1.out _ HBC.out.bel) (fun hHeld => ?_)
          clear hK K
          (try simp only [Act.put]); (try simp only [List.setIfInBounds_toArray]); (try simp only [List.set_cons_succ]); (try simp only [List.set_cons_zero])
          refine wpAnyH_takes (a' := ?a12_) [14] (k := 1) rfl (by kernel_rfl) (by kernel_rfl) (fun _ _ _ _ _ h => h) ?t12_ (by assumption) ?r12_
          case t12_ =>
            iterate 1
              apply takes_cons rfl
              · first | (refine Or.inl ⟨by rfl, fun w9 hSw => ?_⟩; clear hSw; go_simp; (first | done | with_reducible rfl))
              (try simp only [Act.put]); (try simp only [List.setIfInBounds_toArray]); (try simp only [List.set_cons_succ]); (try simp only [List.set_cons_zero])
            exact takes_nil
          refine wpAnyH_done (by kernel_rfl) ?_ _
          go_wp2_with fail
          go_meet
          exact ⟨_, _, rfl, rfl, HBC⟩
      case rest =>
        obtain ⟨bx, v, rfl, rfl, hq⟩ := hcut
        obtain ⟨A6, c6, hv, -, hm6, hs6⟩ := hq.out.own.parts
        subst hv
        have hbq := HB9.out.trans (hq.out.bel.mono HB9.out.size)
        obtain ⟨-, q1, q2, q3, -, -⟩ := HBC0.out wc hbq
        obtain ⟨g0, g1, g2, g3, g4⟩ := HG.out wc hbq
        have HBQ := Lib.hid hbq
        have HEQ := Lib.hid (lvl_eq (i := i) (X0 := X0) (X1 := X1) (X2 := X2) (XR := XR) (XK := XK) HD.out.symm HLG.out HSO.out)
        have hbx0 := hq.out.row
        obtain ⟨WC, hWC⟩ : ∃ W, W = wc.alloc (.cells #[.string X0, .string X1, .string X2, .slice A3 XR.length c3, .int .i64 XK] 92) := ⟨_, rfl⟩
        have hbl : Below wc.heap.size wc WC := by rw [hWC]; exact (Below.refl _ _).alloc (Nat.le_refl _) _
        have hbxl := (Array.getElem?_eq_some_iff.1 hbx0).1
        obtain ⟨x0, x1, x2, x3, x4⟩ := sv_row ((hbl.block bx hbxl).trans hbx0)
        obtain ⟨t0, t1, t2, t3, t4⟩ := sv_row (W := WC) (g := wc.heap.size) (by rw [hWC]; exact heap_alloc_new wc _)
        have HBW := Lib.hid (HB.out.trans ((HBQ.out.trans (hbl.mono HBQ.out.size)).mono HB.out.size))
        have HSM := Lib.hid (sames3 WC WC.heap.size SR.length c6 XR.length c3 A6 A3 SR XR ((hs6.below hbl (Nat.le_refl _)).more hbl.size) ((HST.out wc HBQ.out).below (hbl.mono (Nat.le_trans HB.out.size HBQ.out.size)) (Nat.le_refl _) |>.more (Nat.le_trans HB.out.size (Nat.le_trans HBQ.out.size hbl.size))) HSRL.out HXRL.out)
        have HWC := Lib.hid hWC
        have HQ0 := Lib.hid hq
        clear hq hs6 hbq hbx0 hbl hbxl hWC
        cases y with
        | false =>
          go_wp2
          go_ret
          rw [HWC.out] at HBW
          exact ⟨ret_bool (by rw [HEQ.out]; rfl), HBW.out⟩
        | true =>
          rw [HWC.out] at x0 x1 x2 x3 x4 t0 t1 t2 t3 t4
          have HBW2 := Lib.hid HBW.out
          rw [HWC.out] at HBW
          rcases Bool.eq_false_or_eq_true (L.toList == X0.toList) with a1 | a1
          case inr =>
            go_wp2
            go_ret
            exact ⟨ret_bool (by rw [HEQ.out, a1]; rfl), HBW.out⟩
          rcases Bool.eq_false_or_eq_true (M_.toList == X1.toList) with a2 | a2
          case inr =>
            go_wp2
            go_ret
            exact ⟨ret_bool (by rw [HEQ.out, a1, a2]; rfl), HBW.out⟩
          rcases Bool.eq_false_or_eq_true (F.toList == X2.toList) with a3 | a3
          case inr =>
            go_wp2
            go_ret
            exact ⟨ret_bool (by rw [HEQ.out, a1, a2, a3]; rfl), HBW.out⟩
          by_cases a4 : K = XK
          case neg =>
            have a5 : decide (K = XK) = false := decide_eq_false a4
            have a6 : (K == XK) = false := by rw [beq_eq_false_iff_ne]; exact a4
            go_wp2
            go_ret
            exact ⟨ret_bool (by rw [HEQ.out, a1, a2, a3, a5]; rfl), HBW.out⟩
          subst a4
          go_wp2_with fail
          rw [← HWC.out]
          go_at_call 135
          refine Calls.mono HSM.out ?_
          rintro e w5 ⟨rfl, m5, rfl⟩
          go_wp2
          go_ret
          exact ⟨ret_bool (by rw [HEQ.out, a1, a2, a3]; simp), below_drewN HBW2.out _⟩
    · have HQ := Lib.hid (lvl_long (keep := keep) (i := i) (r := r) (x := ⟨X0, X1, X2, XR, XK⟩) hlong)
      have hng : (8 * ((i : Int) + 1)) < (r.length : Int) := by omega
      clear hlong
      go_enter Tryz.func94, Tryz.ntmps94
      go_upto_region 1 with fail
      rw [← HW0.out]
      refine wp_region_held_drew (S := (fun W : World => W.cell? ⟨w.heap.size, 1, none⟩ = some (.slice (some ⟨lb, lo, none⟩) levels.length c1) ∧ W.cell? ⟨w.heap.size, 3, none⟩ = some (.int .i64 keep) ∧ W.cell? ⟨lb, lo + i, none⟩ = some (.slice A' r.length c'))) (by kernel_rfl) (HSS.out _ (by exact bel2 HR0.out (by rfl) (by rfl) (by rfl) (by rfl))) (fun hHeld => ?_)
      refine wpAnyH_takes (a' := ?a13_) [0, 1, 2, 3, 4] (k := 5) rfl (by kernel_rfl) (by kernel_rfl) (fun _ _ _ _ _ h => h) ?t13_ (by assumption) ?r13_
      case t13_ =>
        iterate 5
          apply takes_cons rfl
          · first | (refine Or.inl ⟨by rfl, fun w9 hSw => ?_⟩; clear hSw; go_simp; (first | done | with_reducible rfl)) | (refine Or.inl ⟨by rfl, fun w9 hSw => ?_⟩; obtain ⟨f0, f1, f2⟩ := hSw; go_simp; (first | done | with_reducible rfl))
          (try simp only [Act.put]); (try simp only [List.setIfInBounds_toArray]); (try simp only [List.set_cons_succ]); (try simp only [List.set_cons_zero])
        exact takes_nil
      refine wpAnyH_ready (rs := [5]) (by kernel_rfl) (by simp) ?_
      refine AllReadyH.cons (o := { dst := Option.some 13, op := Go.Op.call { callee := Go.Callee.value (Go.Operand.func 93), args := #[Go.Operand.tmp 12], argTypes := #[29] }, type := 4, pos := "l12_store.go:49", after := #[{ on := 4, ground := Go.Ground.data }], guard := Option.none }) rfl (fun K hK => ?_) AllReadyH.nil
      go_simp
      (go_at_call 93; refine Calls.mono (HRK.out _ (by first | exact HB9.out | exact bel2 HR0.out (by rfl) (by rfl) (by rfl) (by rfl))) ?_; rintro e w9 ⟨rfl, hb9⟩; have HB9 := Lib.hid hb9; clear hb9)
      (try go_wp2_with fail)
      refine hK.out _ _ (HSS.out _ HB9.out) (fun hHeld => ?_)
      clear hK K
      (try simp only [Act.put]); (try simp only [List.setIfInBounds_toArray]); (try simp only [List.set_cons_succ]); (try simp only [List.set_cons_zero])
      refine wpAnyH_takes (a' := ?a14_) [6, 7, 8, 9, 10, 11, 12, 13, 14] (k := 9) rfl (by kernel_rfl) (by kernel_rfl) (fun _ _ _ _ _ h => h) ?t14_ (by assumption) ?r14_
      case t14_ =>
        iterate 9
          apply takes_cons rfl
          · first | (refine Or.inl ⟨by rfl, fun w9 hSw => ?_⟩; clear hSw; go_simp; (first | done | with_reducible rfl)) | (refine Or.inl ⟨by rfl, fun w9 hSw => ?_⟩; obtain ⟨f0, f1, f2⟩ := hSw; go_simp; (first | done | with_reducible rfl))
          (try simp only [Act.put]); (try simp only [List.setIfInBounds_toArray]); (try simp only [List.set_cons_succ]); (try simp only [List.set_cons_zero])
        exact takes_nil
      refine wpAnyH_ready (rs := [15]) (by kernel_rfl) (by simp) ?_
      refine AllReadyH.cons (o := { dst := Option.some 23, op := Go.Op.call { callee := Go.Callee.value (Go.Operand.func 108), args := #[Go.Operand.tmp 22], argTypes := #[3] }, type := 3, pos := "l12_store.go:49", after := #[{ on := 14, ground := Go.Ground.data }, { on := 7, ground := Go.Ground.chain }, { on := 7, ground := Go.Ground.guard }], guard := Option.some (7, Bool.false) }) rfl (fun K hK => ?_) AllReadyH.nil
      go_simp
      (go_at_call 108; refine Calls.mono (HSZ.out _) ?_; rintro e w7 ⟨rfl, rfl⟩)
      (try go_wp2_with fail)
      refine hK.out _ _ (HSS.out _ HB9.out) (fun hHeld => ?_)
      clear hK K
      (try simp only [Act.put]); (try simp only [List.setIfInBounds_toArray]); (try simp only [List.set_cons_succ]); (try simp only [List.set_cons_zero])
      refine wpAnyH_takes (a' := ?a15_) [16, 17] (k := 2) rfl (by kernel_rfl) (by kernel_rfl) (fun _ _ _ _ _ h => h) ?t15_ (by assumption) ?r15_
      case t15_ =>
        iterate 2
          apply takes_cons rfl
          · first | (refine Or.inl ⟨by rfl, fun w9 hSw => ?_⟩; clear hSw; go_simp; (first | done | with_reducible rfl))
          (try simp only [Act.put]); (try simp only [List.setIfInBounds_toArray]); (try simp only [List.set_cons_succ]); (try simp only [List.set_cons_zero])
        exact takes_nil
      refine wpAnyH_done (by kernel_rfl) ?_ _
      go_wp2
      go_ret
      exact ⟨ret_bool HQ.out.symm, HB.out.trans (HB9.out.mono HB.out.size)⟩

end Go.Proofs.YtfhpkcamigkmdaaGreatDoor.W
