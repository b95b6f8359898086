/-
  The model's l12Level: whether a level is one, and its filter that of its keys.
-/
import Derived.Test.YtfhpkcamigkmdaaDoorZAP
import Derived.Test.YtfhpkcamigkmdaaDoorJ4
import Derived.Deep.CutRange
import Derived.Deep.RegionHeld
namespace Go.Proofs.YtfhpkcamigkmdaaDoor.W
open Go.RowKit K R

/-- a filter is that of a run's keys -/
def sfB (keep : Int) (r : List En) (x : Sf) : Bool :=
  ((svL (keysL r) keep).toList == x.letters.toList) && (((svM (keysL r) keep).toList == x.more.toList) && (((svF (keysL r) keep).toList == x.first.toList) && (decide (svK (keysL r) keep = x.keep) && sameL (svR (keysL r) keep) x.rests)))
/-- a level is one -/
def lvlB (keep : Int) (i : Nat) (r : List En) (x : Sf) : Bool := runB r && (decide (r.length ≤ 8 * (i + 1)) && (svYes (keysL r) keep && sfB keep r x))
theorem lvl_run {keep : Int} {i : Nat} {r : List En} {x : Sf} (h : runB r = false) : lvlB keep i r x = false := by unfold lvlB; rw [h]; rfl
theorem lvl_long {keep : Int} {i : Nat} {r : List En} {x : Sf} (h : ¬ r.length ≤ 8 * (i + 1)) : lvlB keep i r x = false := by unfold lvlB; rw [decide_eq_false h, Bool.false_and, Bool.and_false]

theorem lvl_eq {keep : Int} {i : Nat} {r : List En} {X0 X1 X2 : ByteArray} {XR : List ByteArray} {XK : Int} {L M_ F : ByteArray} {SR : List ByteArray} {K : Int} {y : Bool} (h1 : runB r = true) (h2 : r.length ≤ 8 * (i + 1)) (h : SvOf keep (keysL r) L M_ F SR K y) :
    lvlB keep i r ⟨X0, X1, X2, XR, XK⟩ = (y && ((L.toList == X0.toList) && ((M_.toList == X1.toList) && ((F.toList == X2.toList) && (decide (K = XK) && sameL SR XR))))) := by
  obtain ⟨rfl, rfl, rfl, rfl, rfl, rfl⟩ := h
  unfold lvlB sfB
  rw [h1, decide_eq_true h2]
  simp

set_option maxHeartbeats 8000000 in
set_option maxRecDepth 100000 in
theorem lvlS (w : World) (A0 A1 A2 A5 : Option Addr) (c0 c1 c2 c5 i : Nat) (s : Sto) (hr : StM w w.heap.size A0 A1 A2 A5 c0 c1 c2 c5 s) (hsm : smallSt s) (hi1 : i < s.levels.length) (hi2 : i < s.sieves.length) (hi3 : i ≤ 100) :
    Calls Tryd.prog 35 #[stV A0 A1 A2 A5 c0 c1 c2 c5 s, .int .i64 (i : Nat)] w fun e w' => e = .returned (.bool (lvlB s.keep i s.levels[i] s.sieves[i])) ∧ Below w.heap.size w w' := by
  obtain ⟨top, levels, sieves, keep, time, times⟩ := s
  obtain ⟨-, h1, h2, -, -, b1, b2, -⟩ := hr
  obtain ⟨-, s1, s2, -⟩ := hsm
  simp only [stV] at *
  have hi1 : i < levels.length := hi1
  have hi2 : i < sieves.length := hi2
  obtain ⟨W0, hW0⟩ : ∃ W0, W0 = w.alloc (.cells #[.slice A0 top.length c0, .slice A1 levels.length c1, .slice A2 sieves.length c2, .int .i64 keep, .int .i64 time, .slice A5 times.length c5] 27) := ⟨_, rfl⟩
  have hbw : Below w.heap.size w W0 := by rw [hW0]; exact (Below.refl _ _).alloc (Nat.le_refl _) _
  have hs0 : W0.heap.size = w.heap.size + 1 := by rw [hW0]; simp
  have x0 : W0.heap[w.heap.size]? = some (.cells #[.slice A0 top.length c0, .slice A1 levels.length c1, .slice A2 sieves.length c2, .int .i64 keep, .int .i64 time, .slice A5 times.length c5] 27 (0, 0)) := by rw [hW0]; exact heap_alloc_new _ _
  obtain ⟨lb, lo, A', c', hA, hlb, d0, he, e1, e2⟩ := h1.cell i hi1
  obtain ⟨sb, so, A3, c3, hA2, hsb, g0, g1, g2, g3, g4, hst, e3, e4⟩ := h2.cell i hi2
  subst hA hA2
  obtain ⟨r, hr⟩ : ∃ r, r = levels[i] := ⟨_, rfl⟩
  obtain ⟨x, hx⟩ : ∃ x, x = sieves[i] := ⟨_, rfl⟩
  have hsr := s1.2 _ (List.getElem_mem hi1)
  have hsx := s2.2 _ (List.getElem_mem hi2)
  rw [← hr] at d0 he e1 hsr ⊢
  rw [← hx] at g0 g1 g2 g3 g4 hst e3 hsx ⊢
  obtain ⟨X0, X1, X2, XR, XK⟩ := x
  have z0 : (0 : Int) ≤ (i : Int) := by omega
  have z1 : (i : Int) < (levels.length : Int) := by omega
  have z2 : (i : Int) < (sieves.length : Int) := by omega
  have HB := Lib.hid hbw
  have HS0 := Lib.hid hs0
  have hlb0 : lb < W0.heap.size := by omega
  have hsb0 : sb < W0.heap.size := by omega
  have dd0 := (hbw.cell (p := ⟨lb, lo + i, none⟩) hlb).trans d0
  have HSS := Lib.hid (show ∀ W, Below W0.heap.size W0 W → (fun W : World => W.cell? ⟨w.heap.size, 1, none⟩ = some (.slice (some ⟨lb, lo, none⟩) levels.length c1) ∧ W.cell? ⟨w.heap.size, 3, none⟩ = some (.int .i64 keep) ∧ W.cell? ⟨lb, lo + i, none⟩ = some (.slice A' r.length c')) W from fun W hW => by
    obtain ⟨-, q1, q2, q3, -, -⟩ := st_cells ((hW.block w.heap.size (by omega)).trans x0)
    exact ⟨q1, q3, (hW.cell (p := ⟨lb, lo + i, none⟩) hlb0).trans dd0⟩)
  have HG := Lib.hid (show ∀ W, Below W0.heap.size W0 W → W.cell? ⟨sb, so + i * 5, none⟩ = some (.string X0) ∧ W.cell? ⟨sb, so + i * 5 + 1, none⟩ = some (.string X1) ∧ W.cell? ⟨sb, so + i * 5 + 2, none⟩ = some (.string X2) ∧ W.cell? ⟨sb, so + i * 5 + 3, none⟩ = some (.slice A3 XR.length c3) ∧ W.cell? ⟨sb, so + i * 5 + 4, none⟩ = some (.int .i64 XK) from fun W hW =>
    ⟨(hW.cell (p := ⟨sb, so + i * 5, none⟩) hsb0).trans ((hbw.cell (p := ⟨sb, so + i * 5, none⟩) hsb).trans g0), (hW.cell (p := ⟨sb, so + i * 5 + 1, none⟩) hsb0).trans ((hbw.cell (p := ⟨sb, so + i * 5 + 1, none⟩) hsb).trans g1), (hW.cell (p := ⟨sb, so + i * 5 + 2, none⟩) hsb0).trans ((hbw.cell (p := ⟨sb, so + i * 5 + 2, none⟩) hsb).trans g2), (hW.cell (p := ⟨sb, so + i * 5 + 3, none⟩) hsb0).trans ((hbw.cell (p := ⟨sb, so + i * 5 + 3, none⟩) hsb).trans g3), (hW.cell (p := ⟨sb, so + i * 5 + 4, none⟩) hsb0).trans ((hbw.cell (p := ⟨sb, so + i * 5 + 4, none⟩) hsb).trans g4)⟩)
  have HBC0 := Lib.hid (show ∀ W, Below W0.heap.size W0 W → _ from fun W hW => st_cells ((hW.block w.heap.size (by omega)).trans x0))
  have HST := Lib.hid (show ∀ W, Below W0.heap.size W0 W → Strs W w.heap.size A3 XR.length XR from fun W hW => (hst.below hbw (Nat.le_refl _)).below (hW.mono hbw.size) (Nat.le_refl _))
  have HXRL := Lib.hid (show XR.length ≤ maxLen by have := hsx.2.1; unfold maxLen; simp at this; omega)
  have hEn := he.below hbw (Nat.le_refl _)
  have hfr : ∀ e ∈ r, e.key.size ≤ maxLen := fun e he => by have := hsr.2 e he; unfold maxLen; omega
  obtain ⟨b, hb⟩ : ∃ b, b = runB r := ⟨_, rfl⟩
  have HRK := Lib.hid (show ∀ W, Below W0.heap.size W0 W → Calls Tryd.prog 34 #[.slice A' r.length c'] W fun e w' => e = .returned (.bool b) ∧ Below W0.heap.size W0 w' from fun W hW => by
    rw [hb]
    exact (runS W w.heap.size r.length c' A' r (hEn.below (hW.mono hbw.size) (Nat.le_refl _)) (Nat.le_trans hbw.size hW.size) (Nat.le_trans e1 e2) hfr).mono fun _ _ ⟨x, y⟩ => ⟨x, hW.trans (y.mono hW.size)⟩)
  have HSZ := Lib.hid (show ∀ W : World, Calls Tryd.prog 54 #[.int .i64 (i : Nat)] W fun e w' => e = .returned (.int .i64 (8 * ((i : Int) + 1))) ∧ W = w' from fun W => sizeL i W (by omega) (by omega))
  obtain ⟨ks, hks⟩ : ∃ ks, ks = keysL r := ⟨_, rfl⟩
  obtain ⟨L, hL⟩ : ∃ x, x = svL ks keep := ⟨_, rfl⟩
  obtain ⟨M_, hM⟩ : ∃ x, x = svM ks keep := ⟨_, rfl⟩
  obtain ⟨F, hF⟩ : ∃ x, x = svF ks keep := ⟨_, rfl⟩
  obtain ⟨SR, hSR⟩ : ∃ x, x = svR ks keep := ⟨_, rfl⟩
  obtain ⟨K, hK⟩ : ∃ x, x = svK ks keep := ⟨_, rfl⟩
  obtain ⟨y, hy⟩ : ∃ x, x = svYes ks keep := ⟨_, rfl⟩
  have HSO := Lib.hid (show SvOf keep (keysL r) L M_ F SR K y by rw [← hks]; exact ⟨hL, hM, hF, hSR, hK, hy⟩)
  have hkl : ∀ s ∈ ks, s.size ≤ maxLen := fun s hs => by
    rw [hks] at hs
    obtain ⟨e, he, rfl⟩ := mem_keysL.mp hs
    exact hfr e he
  have HSRL := Lib.hid (show SR.length ≤ maxLen by rw [hSR]; have := svR_len ks keep; unfold maxLen; omega)
  have HKY0 := Lib.hid (show ∀ W1, Below W0.heap.size W0 W1 → ∀ W, Below W1.heap.size W1 W → Calls Tryd.prog 56 #[.slice A' r.length c'] W fun e w' => ∃ A c, e = .returned (.slice A ks.length c) ∧ ks.length ≤ c ∧ c ≤ maxLen ∧ Strs w' w'.heap.size A ks.length ks ∧ Below W.heap.size W w' from fun W1 hW1 W hW => by
    have hWW := hW1.trans (hW.mono hW1.size)
    refine (keysOfS W w.heap.size r.length c' A' r (hEn.below (hWW.mono hbw.size) (Nat.le_refl _)) (Nat.le_trans hbw.size hWW.size) (by have := hsr.1; omega)).mono ?_
    rintro e w' ⟨v, rfl, ho, hb'⟩
    rw [← hks] at ho
    obtain ⟨A, c, rfl, p1, p2, p3⟩ := ho.parts
    exact ⟨A, c, rfl, p1, p2, p3, hb'⟩)
  have HSV := Lib.hid (show ∀ (W : World) (A : Option Addr) (c : Nat), Strs W W.heap.size A ks.length ks → ks.length ≤ c → c ≤ maxLen → Calls Tryd.prog 55 #[.slice A ks.length c, .int .i64 keep] W (OfF W L M_ F SR K y) from fun W A c g1 g2 g3 => by
    rw [hL, hM, hF, hSR, hK, hy]
    exact (ofS W ks.length c A ks keep g1 g2 g3 hkl).mono fun _ _ h => of_fields h)
  have HW0 := Lib.hid hW0
  have HD := Lib.hid hb
  have HR0 := Lib.hid (Below.refl W0.heap.size W0)
  clear hks hL hM hF hSR hK hy hkl hr hx h1 h2 b1 b2 s1 s2 hbw hs0 x0 d0 dd0 he g0 g1 g2 g3 g4 hst e1 e3 hb hW0
  cases b with
  | false =>
    have HQ := Lib.hid (lvl_run (keep := keep) (i := i) (x := ⟨X0, X1, X2, XR, XK⟩) HD.out.symm)
    go_enter Tryd.func35, Tryd.ntmps35
    go_upto_region 1 with fail
    rw [← HW0.out]
    refine wp_region_held_drew (S := (fun W : World => W.cell? ⟨w.heap.size, 1, none⟩ = some (.slice (some ⟨lb, lo, none⟩) levels.length c1) ∧ W.cell? ⟨w.heap.size, 3, none⟩ = some (.int .i64 keep) ∧ W.cell? ⟨lb, lo + i, none⟩ = some (.slice A' r.length c'))) (by kernel_rfl) (HSS.out _ (by exact bel2 HR0.out (by rfl) (by rfl) (by rfl) (by rfl))) (fun hHeld => ?_)
    refine wpAnyH_take (i := 0) (oi := { dst := Option.some 8, op := Go.Op.fieldAddr 27 (Go.Operand.tmp 2) 1, type := 0, pos := "l12_store.go:49", after := #[], guard := Option.none }) (v := ?v1) rfl (by kernel_rfl) (by kernel_rfl) (by kernel_rfl) (fun _ _ _ h => h) (Or.inl ⟨by rfl, ?hy1⟩) (by assumption) ?rest1
    case hy1 =>
      intro w9 hSw
      clear hSw
      go_simp
      first | done | with_reducible rfl
    (try simp only [Act.put]); (try simp only [List.setIfInBounds_toArray]); (try simp only [List.set_cons_succ]); (try simp only [List.set_cons_zero])
    refine wpAnyH_take (i := 1) (oi := { dst := Option.some 9, op := Go.Op.load 23 (Go.Operand.tmp 8), type := 23, pos := "l12_store.go:49", after := #[{ on := 0, ground := Go.Ground.data }], guard := Option.none }) (v := ?v2) rfl (by kernel_rfl) (by kernel_rfl) (by kernel_rfl) (fun _ _ _ h => h) (Or.inl ⟨by rfl, ?hy2⟩) (by assumption) ?rest2
    case hy2 =>
      intro w9 hSw
      obtain ⟨f0, f1, f2⟩ := hSw
      go_simp
      first | done | with_reducible rfl
    (try simp only [Act.put]); (try simp only [List.setIfInBounds_toArray]); (try simp only [List.set_cons_succ]); (try simp only [List.set_cons_zero])
    refine wpAnyH_take (i := 2) (oi := { dst := Option.some 10, op := Go.Op.move (Go.Operand.tmp 1), type := 3, pos := "l12_store.go:49", after := #[], guard := Option.none }) (v := ?v3) rfl (by kernel_rfl) (by kernel_rfl) (by kernel_rfl) (fun _ _ _ h => h) (Or.inl ⟨by rfl, ?hy3⟩) (by assumption) ?rest3
    case hy3 =>
      intro w9 hSw
      clear hSw
      go_simp
      first | done | with_reducible rfl
    (try simp only [Act.put]); (try simp only [List.setIfInBounds_toArray]); (try simp only [List.set_cons_succ]); (try simp only [List.set_cons_zero])
    refine wpAnyH_take (i := 3) (oi := { dst := Option.some 11, op := Go.Op.indexAddr 23 (Go.Operand.tmp 9) (Go.Operand.tmp 10), type := 0, pos := "l12_store.go:49", after := #[{ on := 1, ground := Go.Ground.data }, { on := 2, ground := Go.Ground.data }], guard := Option.none }) (v := ?v4) rfl (by kernel_rfl) (by kernel_rfl) (by kernel_rfl) (fun _ _ _ h => h) (Or.inl ⟨by rfl, ?hy4⟩) (by assumption) ?rest4
    case hy4 =>
      intro w9 hSw
      clear hSw
      go_simp
      first | done | with_reducible rfl
    (try simp only [Act.put]); (try simp only [List.setIfInBounds_toArray]); (try simp only [List.set_cons_succ]); (try simp only [List.set_cons_zero])
    refine wpAnyH_take (i := 4) (oi := { dst := Option.some 12, op := Go.Op.load 22 (Go.Operand.tmp 11), type := 22, pos := "l12_store.go:49", after := #[{ on := 3, ground := Go.Ground.data }], guard := Option.none }) (v := ?v5) rfl (by kernel_rfl) (by kernel_rfl) (by kernel_rfl) (fun _ _ _ h => h) (Or.inl ⟨by rfl, ?hy5⟩) (by assumption) ?rest5
    case hy5 =>
      intro w9 hSw
      obtain ⟨f0, f1, f2⟩ := hSw
      go_simp
      first | done | with_reducible rfl
    (try simp only [Act.put]); (try simp only [List.setIfInBounds_toArray]); (try simp only [List.set_cons_succ]); (try simp only [List.set_cons_zero])
    refine wpAnyH_ready (rs := [5]) (by kernel_rfl) (by simp) ?_
    refine AllReadyH.cons (o := { dst := Option.some 13, op := Go.Op.call { callee := Go.Callee.value (Go.Operand.func 34), args := #[Go.Operand.tmp 12], argTypes := #[22] }, type := 4, pos := "l12_store.go:49", after := #[{ on := 4, ground := Go.Ground.data }], guard := Option.none }) rfl (fun K hK => ?_) AllReadyH.nil
    go_simp
    (go_at_call 34; refine Calls.mono (HRK.out _ (by first | exact HB9.out | exact bel2 HR0.out (by rfl) (by rfl) (by rfl) (by rfl))) ?_; rintro e w9 ⟨rfl, hb9⟩; have HB9 := Lib.hid hb9; clear hb9)
    (try go_wp2_with fail)
    refine hK.out _ _ (HSS.out _ HB9.out) (fun hHeld => ?_)
    clear hK K
    (try simp only [Act.put]); (try simp only [List.setIfInBounds_toArray]); (try simp only [List.set_cons_succ]); (try simp only [List.set_cons_zero])
    refine wpAnyH_take (i := 6) (oi := { dst := Option.some 14, op := Go.Op.unOp Go.UnOp.not 4 (Go.Operand.tmp 13), type := 4, pos := "l12_store.go:49", after := #[{ on := 5, ground := Go.Ground.data }], guard := Option.none }) (v := ?v6) rfl (by kernel_rfl) (by kernel_rfl) (by kernel_rfl) (fun _ _ _ h => h) (Or.inl ⟨by rfl, ?hy6⟩) (by assumption) ?rest6
    case hy6 =>
      intro w9 hSw
      clear hSw
      go_simp
      first | done | with_reducible rfl
    (try simp only [Act.put]); (try simp only [List.setIfInBounds_toArray]); (try simp only [List.set_cons_succ]); (try simp only [List.set_cons_zero])
    refine wpAnyH_take (i := 7) (oi := { dst := Option.some 15, op := Go.Op.move (Go.Operand.tmp 14), type := 4, pos := "l12_store.go:49", after := #[{ on := 6, ground := Go.Ground.data }, { on := 5, ground := Go.Ground.chain }], guard := Option.none }) (v := ?v7) rfl (by kernel_rfl) (by kernel_rfl) (by kernel_rfl) (fun _ _ _ h => h) (Or.inl ⟨by rfl, ?hy7⟩) (by assumption) ?rest7
    case hy7 =>
      intro w9 hSw
      clear hSw
      go_simp
      first | done | with_reducible rfl
    (try simp only [Act.put]); (try simp only [List.setIfInBounds_toArray]); (try simp only [List.set_cons_succ]); (try simp only [List.set_cons_zero])
    refine wpAnyH_take (i := 8) (oi := { dst := Option.some 16, op := Go.Op.fieldAddr 27 (Go.Operand.tmp 2) 1, type := 0, pos := "l12_store.go:49", after := #[{ on := 7, ground := Go.Ground.guard }], guard := Option.some (7, Bool.false) }) (v := undef) rfl (by kernel_rfl) (by kernel_rfl) (by kernel_rfl) (fun _ _ _ h => h) (Or.inr ⟨by rfl, rfl⟩) (by assumption) ?_
    (try simp only [Act.put]); (try simp only [List.setIfInBounds_toArray]); (try simp only [List.set_cons_succ]); (try simp only [List.set_cons_zero])
    refine wpAnyH_take (i := 9) (oi := { dst := Option.some 17, op := Go.Op.load 23 (Go.Operand.tmp 16), type := 23, pos := "l12_store.go:49", after := #[{ on := 8, ground := Go.Ground.data }, { on := 7, ground := Go.Ground.guard }], guard := Option.some (7, Bool.false) }) (v := undef) rfl (by kernel_rfl) (by kernel_rfl) (by kernel_rfl) (fun _ _ _ h => h) (Or.inr ⟨by rfl, rfl⟩) (by assumption) ?_
    (try simp only [Act.put]); (try simp only [List.setIfInBounds_toArray]); (try simp only [List.set_cons_succ]); (try simp only [List.set_cons_zero])
    refine wpAnyH_take (i := 10) (oi := { dst := Option.some 18, op := Go.Op.move (Go.Operand.tmp 1), type := 3, pos := "l12_store.go:49", after := #[{ on := 7, ground := Go.Ground.guard }], guard := Option.some (7, Bool.false) }) (v := undef) rfl (by kernel_rfl) (by kernel_rfl) (by kernel_rfl) (fun _ _ _ h => h) (Or.inr ⟨by rfl, rfl⟩) (by assumption) ?_
    (try simp only [Act.put]); (try simp only [List.setIfInBounds_toArray]); (try simp only [List.set_cons_succ]); (try simp only [List.set_cons_zero])
    refine wpAnyH_take (i := 11) (oi := { dst := Option.some 19, op := Go.Op.indexAddr 23 (Go.Operand.tmp 17) (Go.Operand.tmp 18), type := 0, pos := "l12_store.go:49", after := #[{ on := 9, ground := Go.Ground.data }, { on := 10, ground := Go.Ground.data }, { on := 7, ground := Go.Ground.guard }], guard := Option.some (7, Bool.false) }) (v := undef) rfl (by kernel_rfl) (by kernel_rfl) (by kernel_rfl) (fun _ _ _ h => h) (Or.inr ⟨by rfl, rfl⟩) (by assumption) ?_
    (try simp only [Act.put]); (try simp only [List.setIfInBounds_toArray]); (try simp only [List.set_cons_succ]); (try simp only [List.set_cons_zero])
    refine wpAnyH_take (i := 12) (oi := { dst := Option.some 20, op := Go.Op.load 22 (Go.Operand.tmp 19), type := 22, pos := "l12_store.go:49", after := #[{ on := 11, ground := Go.Ground.data }, { on := 7, ground := Go.Ground.guard }], guard := Option.some (7, Bool.false) }) (v := undef) rfl (by kernel_rfl) (by kernel_rfl) (by kernel_rfl) (fun _ _ _ h => h) (Or.inr ⟨by rfl, rfl⟩) (by assumption) ?_
    (try simp only [Act.put]); (try simp only [List.setIfInBounds_toArray]); (try simp only [List.set_cons_succ]); (try simp only [List.set_cons_zero])
    refine wpAnyH_take (i := 13) (oi := { dst := Option.some 21, op := Go.Op.call { callee := Go.Callee.builtin Go.Builtin.len, args := #[Go.Operand.tmp 20], argTypes := #[22] }, type := 3, pos := "l12_store.go:49", after := #[{ on := 12, ground := Go.Ground.data }, { on := 7, ground := Go.Ground.guard }], guard := Option.some (7, Bool.false) }) (v := undef) rfl (by kernel_rfl) (by kernel_rfl) (by kernel_rfl) (fun _ _ _ h => h) (Or.inr ⟨by rfl, rfl⟩) (by assumption) ?_
    (try simp only [Act.put]); (try simp only [List.setIfInBounds_toArray]); (try simp only [List.set_cons_succ]); (try simp only [List.set_cons_zero])
    refine wpAnyH_take (i := 14) (oi := { dst := Option.some 22, op := Go.Op.move (Go.Operand.tmp 1), type := 3, pos := "l12_store.go:49", after := #[{ on := 7, ground := Go.Ground.guard }], guard := Option.some (7, Bool.false) }) (v := undef) rfl (by kernel_rfl) (by kernel_rfl) (by kernel_rfl) (fun _ _ _ h => h) (Or.inr ⟨by rfl, rfl⟩) (by assumption) ?_
    (try simp only [Act.put]); (try simp only [List.setIfInBounds_toArray]); (try simp only [List.set_cons_succ]); (try simp only [List.set_cons_zero])
    refine wpAnyH_take (i := 15) (oi := { dst := Option.some 23, op := Go.Op.call { callee := Go.Callee.value (Go.Operand.func 54), args := #[Go.Operand.tmp 22], argTypes := #[3] }, type := 3, pos := "l12_store.go:49", after := #[{ on := 14, ground := Go.Ground.data }, { on := 7, ground := Go.Ground.chain }, { on := 7, ground := Go.Ground.guard }], guard := Option.some (7, Bool.false) }) (v := undef) rfl (by kernel_rfl) (by kernel_rfl) (by kernel_rfl) (fun _ _ _ h => h) (Or.inr ⟨by rfl, rfl⟩) (by assumption) ?_
    (try simp only [Act.put]); (try simp only [List.setIfInBounds_toArray]); (try simp only [List.set_cons_succ]); (try simp only [List.set_cons_zero])
    refine wpAnyH_take (i := 16) (oi := { dst := Option.some 24, op := Go.Op.binOp Go.BinOp.gtr 3 (Go.Operand.tmp 21) (Go.Operand.tmp 23) 3, type := 4, pos := "l12_store.go:49", after := #[{ on := 13, ground := Go.Ground.data }, { on := 15, ground := Go.Ground.data }, { on := 7, ground := Go.Ground.guard }], guard := Option.some (7, Bool.false) }) (v := undef) rfl (by kernel_rfl) (by kernel_rfl) (by kernel_rfl) (fun _ _ _ h => h) (Or.inr ⟨by rfl, rfl⟩) (by assumption) ?_
    (try simp only [Act.put]); (try simp only [List.setIfInBounds_toArray]); (try simp only [List.set_cons_succ]); (try simp only [List.set_cons_zero])
    refine wpAnyH_take (i := 17) (oi := { dst := Option.some 25, op := Go.Op.pick (Go.Operand.tmp 15) (Go.Operand.const (Go.Value.bool Bool.true)) (Go.Operand.tmp 24), type := 4, pos := "l12_store.go:49", after := #[{ on := 7, ground := Go.Ground.data }, { on := 16, ground := Go.Ground.data }], guard := Option.none }) (v := ?v8) rfl (by kernel_rfl) (by kernel_rfl) (by kernel_rfl) (fun _ _ _ h => h) (Or.inl ⟨by rfl, ?hy8⟩) (by assumption) ?rest8
    case hy8 =>
      intro w9 hSw
      clear hSw
      go_simp
      first | done | with_reducible rfl
    (try simp only [Act.put]); (try simp only [List.setIfInBounds_toArray]); (try simp only [List.set_cons_succ]); (try simp only [List.set_cons_zero])
    refine wpAnyH_done (by kernel_rfl) ?_ _
    go_wp2
    go_ret
    exact ⟨ret_bool HQ.out.symm, HB.out.trans (HB9.out.mono HB.out.size)⟩
  | true =>
    by_cases hlong : r.length ≤ 8 * (i + 1)
    · have hng : ¬ (8 * ((i : Int) + 1)) < (r.length : Int) := by omega
      have HLG := Lib.hid hlong
      clear hlong
      go_enter Tryd.func35, Tryd.ntmps35
      go_upto_region 1 with fail
      rw [← HW0.out]
      refine wp_region_held_drew (S := (fun W : World => W.cell? ⟨w.heap.size, 1, none⟩ = some (.slice (some ⟨lb, lo, none⟩) levels.length c1) ∧ W.cell? ⟨w.heap.size, 3, none⟩ = some (.int .i64 keep) ∧ W.cell? ⟨lb, lo + i, none⟩ = some (.slice A' r.length c'))) (by kernel_rfl) (HSS.out _ (by exact bel2 HR0.out (by rfl) (by rfl) (by rfl) (by rfl))) (fun hHeld => ?_)
      refine wpAnyH_take (i := 0) (oi := { dst := Option.some 8, op := Go.Op.fieldAddr 27 (Go.Operand.tmp 2) 1, type := 0, pos := "l12_store.go:49", after := #[], guard := Option.none }) (v := ?v9) rfl (by kernel_rfl) (by kernel_rfl) (by kernel_rfl) (fun _ _ _ h => h) (Or.inl ⟨by rfl, ?hy9⟩) (by assumption) ?rest9
      case hy9 =>
        intro w9 hSw
        clear hSw
        go_simp
        first | done | with_reducible rfl
      (try simp only [Act.put]); (try simp only [List.setIfInBounds_toArray]); (try simp only [List.set_cons_succ]); (try simp only [List.set_cons_zero])
      refine wpAnyH_take (i := 1) (oi := { dst := Option.some 9, op := Go.Op.load 23 (Go.Operand.tmp 8), type := 23, pos := "l12_store.go:49", after := #[{ on := 0, ground := Go.Ground.data }], guard := Option.none }) (v := ?v10) rfl (by kernel_rfl) (by kernel_rfl) (by kernel_rfl) (fun _ _ _ h => h) (Or.inl ⟨by rfl, ?hy10⟩) (by assumption) ?rest10
      case hy10 =>
        intro w9 hSw
        obtain ⟨f0, f1, f2⟩ := hSw
        go_simp
        first | done | with_reducible rfl
      (try simp only [Act.put]); (try simp only [List.setIfInBounds_toArray]); (try simp only [List.set_cons_succ]); (try simp only [List.set_cons_zero])
      refine wpAnyH_take (i := 2) (oi := { dst := Option.some 10, op := Go.Op.move (Go.Operand.tmp 1), type := 3, pos := "l12_store.go:49", after := #[], guard := Option.none }) (v := ?v11) rfl (by kernel_rfl) (by kernel_rfl) (by kernel_rfl) (fun _ _ _ h => h) (Or.inl ⟨by rfl, ?hy11⟩) (by assumption) ?rest11
      case hy11 =>
        intro w9 hSw
        clear hSw
        go_simp
        first | done | with_reducible rfl
      (try simp only [Act.put]); (try simp only [List.setIfInBounds_toArray]); (try simp only [List.set_cons_succ]); (try simp only [List.set_cons_zero])
      refine wpAnyH_take (i := 3) (oi := { dst := Option.some 11, op := Go.Op.indexAddr 23 (Go.Operand.tmp 9) (Go.Operand.tmp 10), type := 0, pos := "l12_store.go:49", after := #[{ on := 1, ground := Go.Ground.data }, { on := 2, ground := Go.Ground.data }], guard := Option.none }) (v := ?v12) rfl (by kernel_rfl) (by kernel_rfl) (by kernel_rfl) (fun _ _ _ h => h) (Or.inl ⟨by rfl, ?hy12⟩) (by assumption) ?rest12
      case hy12 =>
        intro w9 hSw
        clear hSw
        go_simp
        first | done | with_reducible rfl
      (try simp only [Act.put]); (try simp only [List.setIfInBounds_toArray]); (try simp only [List.set_cons_succ]); (try simp only [List.set_cons_zero])
      refine wpAnyH_take (i := 4) (oi := { dst := Option.some 12, op := Go.Op.load 22 (Go.Operand.tmp 11), type := 22, pos := "l12_store.go:49", after := #[{ on := 3, ground := Go.Ground.data }], guard := Option.none }) (v := ?v13) rfl (by kernel_rfl) (by kernel_rfl) (by kernel_rfl) (fun _ _ _ h => h) (Or.inl ⟨by rfl, ?hy13⟩) (by assumption) ?rest13
      case hy13 =>
        intro w9 hSw
        obtain ⟨f0, f1, f2⟩ := hSw
        go_simp
        first | done | with_reducible rfl
      (try simp only [Act.put]); (try simp only [List.setIfInBounds_toArray]); (try simp only [List.set_cons_succ]); (try simp only [List.set_cons_zero])
      refine wpAnyH_ready (rs := [5]) (by kernel_rfl) (by simp) ?_
      refine AllReadyH.cons (o := { dst := Option.some 13, op := Go.Op.call { callee := Go.Callee.value (Go.Operand.func 34), args := #[Go.Operand.tmp 12], argTypes := #[22] }, type := 4, pos := "l12_store.go:49", after := #[{ on := 4, ground := Go.Ground.data }], guard := Option.none }) rfl (fun K hK => ?_) AllReadyH.nil
      go_simp
      (go_at_call 34; refine Calls.mono (HRK.out _ (by first | exact HB9.out | exact bel2 HR0.out (by rfl) (by rfl) (by rfl) (by rfl))) ?_; rintro e w9 ⟨rfl, hb9⟩; have HB9 := Lib.hid hb9; clear hb9)
      (try go_wp2_with fail)
      refine hK.out _ _ (HSS.out _ HB9.out) (fun hHeld => ?_)
      clear hK K
      (try simp only [Act.put]); (try simp only [List.setIfInBounds_toArray]); (try simp only [List.set_cons_succ]); (try simp only [List.set_cons_zero])
      refine wpAnyH_take (i := 6) (oi := { dst := Option.some 14, op := Go.Op.unOp Go.UnOp.not 4 (Go.Operand.tmp 13), type := 4, pos := "l12_store.go:49", after := #[{ on := 5, ground := Go.Ground.data }], guard := Option.none }) (v := ?v14) rfl (by kernel_rfl) (by kernel_rfl) (by kernel_rfl) (fun _ _ _ h => h) (Or.inl ⟨by rfl, ?hy14⟩) (by assumption) ?rest14
      case hy14 =>
        intro w9 hSw
        clear hSw
        go_simp
        first | done | with_reducible rfl
      (try simp only [Act.put]); (try simp only [List.setIfInBounds_toArray]); (try simp only [List.set_cons_succ]); (try simp only [List.set_cons_zero])
      refine wpAnyH_take (i := 7) (oi := { dst := Option.some 15, op := Go.Op.move (Go.Operand.tmp 14), type := 4, pos := "l12_store.go:49", after := #[{ on := 6, ground := Go.Ground.data }, { on := 5, ground := Go.Ground.chain }], guard := Option.none }) (v := ?v15) rfl (by kernel_rfl) (by kernel_rfl) (by kernel_rfl) (fun _ _ _ h => h) (Or.inl ⟨by rfl, ?hy15⟩) (by assumption) ?rest15
      case hy15 =>
        intro w9 hSw
        clear hSw
        go_simp
        first | done | with_reducible rfl
      (try simp only [Act.put]); (try simp only [List.setIfInBounds_toArray]); (try simp only [List.set_cons_succ]); (try simp only [List.set_cons_zero])
      refine wpAnyH_take (i := 8) (oi := { dst := Option.some 16, op := Go.Op.fieldAddr 27 (Go.Operand.tmp 2) 1, type := 0, pos := "l12_store.go:49", after := #[{ on := 7, ground := Go.Ground.guard }], guard := Option.some (7, Bool.false) }) (v := ?v16) rfl (by kernel_rfl) (by kernel_rfl) (by kernel_rfl) (fun _ _ _ h => h) (Or.inl ⟨by rfl, ?hy16⟩) (by assumption) ?rest16
      case hy16 =>
        intro w9 hSw
        clear hSw
        go_simp
        first | done | with_reducible rfl
      (try simp only [Act.put]); (try simp only [List.setIfInBounds_toArray]); (try simp only [List.set_cons_succ]); (try simp only [List.set_cons_zero])
      refine wpAnyH_take (i := 9) (oi := { dst := Option.some 17, op := Go.Op.load 23 (Go.Operand.tmp 16), type := 23, pos := "l12_store.go:49", after := #[{ on := 8, ground := Go.Ground.data }, { on := 7, ground := Go.Ground.guard }], guard := Option.some (7, Bool.false) }) (v := ?v17) rfl (by kernel_rfl) (by kernel_rfl) (by kernel_rfl) (fun _ _ _ h => h) (Or.inl ⟨by rfl, ?hy17⟩) (by assumption) ?rest17
      case hy17 =>
        intro w9 hSw
        obtain ⟨f0, f1, f2⟩ := hSw
        go_simp
        first | done | with_reducible rfl
      (try simp only [Act.put]); (try simp only [List.setIfInBounds_toArray]); (try simp only [List.set_cons_succ]); (try simp only [List.set_cons_zero])
      refine wpAnyH_take (i := 10) (oi := { dst := Option.some 18, op := Go.Op.move (Go.Operand.tmp 1), type := 3, pos := "l12_store.go:49", after := #[{ on := 7, ground := Go.Ground.guard }], guard := Option.some (7, Bool.false) }) (v := ?v18) rfl (by kernel_rfl) (by kernel_rfl) (by kernel_rfl) (fun _ _ _ h => h) (Or.inl ⟨by rfl, ?hy18⟩) (by assumption) ?rest18
      case hy18 =>
        intro w9 hSw
        clear hSw
        go_simp
        first | done | with_reducible rfl
      (try simp only [Act.put]); (try simp only [List.setIfInBounds_toArray]); (try simp only [List.set_cons_succ]); (try simp only [List.set_cons_zero])
      refine wpAnyH_take (i := 11) (oi := { dst := Option.some 19, op := Go.Op.indexAddr 23 (Go.Operand.tmp 17) (Go.Operand.tmp 18), type := 0, pos := "l12_store.go:49", after := #[{ on := 9, ground := Go.Ground.data }, { on := 10, ground := Go.Ground.data }, { on := 7, ground := Go.Ground.guard }], guard := Option.some (7, Bool.false) }) (v := ?v19) rfl (by kernel_rfl) (by kernel_rfl) (by kernel_rfl) (fun _ _ _ h => h) (Or.inl ⟨by rfl, ?hy19⟩) (by assumption) ?rest19
      case hy19 =>
        intro w9 hSw
        clear hSw
        go_simp
        first | done | with_reducible rfl
      (try simp only [Act.put]); (try simp only [List.setIfInBounds_toArray]); (try simp only [List.set_cons_succ]); (try simp only [List.set_cons_zero])
      refine wpAnyH_take (i := 12) (oi := { dst := Option.some 20, op := Go.Op.load 22 (Go.Operand.tmp 19), type := 22, pos := "l12_store.go:49", after := #[{ on := 11, ground := Go.Ground.data }, { on := 7, ground := Go.Ground.guard }], guard := Option.some (7, Bool.false) }) (v := ?v20) rfl (by kernel_rfl) (by kernel_rfl) (by kernel_rfl) (fun _ _ _ h => h) (Or.inl ⟨by rfl, ?hy20⟩) (by assumption) ?rest20
      case hy20 =>
        intro w9 hSw
        obtain ⟨f0, f1, f2⟩ := hSw
        go_simp
        first | done | with_reducible rfl
      (try simp only [Act.put]); (try simp only [List.setIfInBounds_toArray]); (try simp only [List.set_cons_succ]); (try simp only [List.set_cons_zero])
      refine wpAnyH_take (i := 13) (oi := { dst := Option.some 21, op := Go.Op.call { callee := Go.Callee.builtin Go.Builtin.len, args := #[Go.Operand.tmp 20], argTypes := #[22] }, type := 3, pos := "l12_store.go:49", after := #[{ on := 12, ground := Go.Ground.data }, { on := 7, ground := Go.Ground.guard }], guard := Option.some (7, Bool.false) }) (v := ?v21) rfl (by kernel_rfl) (by kernel_rfl) (by kernel_rfl) (fun _ _ _ h => h) (Or.inl ⟨by rfl, ?hy21⟩) (by assumption) ?rest21
      case hy21 =>
        intro w9 hSw
        clear hSw
        go_simp
        first | done | with_reducible rfl
      (try simp only [Act.put]); (try simp only [List.setIfInBounds_toArray]); (try simp only [List.set_cons_succ]); (try simp only [List.set_cons_zero])
      refine wpAnyH_take (i := 14) (oi := { dst := Option.some 22, op := Go.Op.move (Go.Operand.tmp 1), type := 3, pos := "l12_store.go:49", after := #[{ on := 7, ground := Go.Ground.guard }], guard := Option.some (7, Bool.false) }) (v := ?v22) rfl (by kernel_rfl) (by kernel_rfl) (by kernel_rfl) (fun _ _ _ h => h) (Or.inl ⟨by rfl, ?hy22⟩) (by assumption) ?rest22
      case hy22 =>
        intro w9 hSw
        clear hSw
        go_simp
        first | done | with_reducible rfl
      (try simp only [Act.put]); (try simp only [List.setIfInBounds_toArray]); (try simp only [List.set_cons_succ]); (try simp only [List.set_cons_zero])
      refine wpAnyH_ready (rs := [15]) (by kernel_rfl) (by simp) ?_
      refine AllReadyH.cons (o := { dst := Option.some 23, op := Go.Op.call { callee := Go.Callee.value (Go.Operand.func 54), args := #[Go.Operand.tmp 22], argTypes := #[3] }, type := 3, pos := "l12_store.go:49", after := #[{ on := 14, ground := Go.Ground.data }, { on := 7, ground := Go.Ground.chain }, { on := 7, ground := Go.Ground.guard }], guard := Option.some (7, Bool.false) }) rfl (fun K hK => ?_) AllReadyH.nil
      go_simp
      (go_at_call 54; refine Calls.mono (HSZ.out _) ?_; rintro e w7 ⟨rfl, rfl⟩)
      (try go_wp2_with fail)
      refine hK.out _ _ (HSS.out _ HB9.out) (fun hHeld => ?_)
      clear hK K
      (try simp only [Act.put]); (try simp only [List.setIfInBounds_toArray]); (try simp only [List.set_cons_succ]); (try simp only [List.set_cons_zero])
      refine wpAnyH_take (i := 16) (oi := { dst := Option.some 24, op := Go.Op.binOp Go.BinOp.gtr 3 (Go.Operand.tmp 21) (Go.Operand.tmp 23) 3, type := 4, pos := "l12_store.go:49", after := #[{ on := 13, ground := Go.Ground.data }, { on := 15, ground := Go.Ground.data }, { on := 7, ground := Go.Ground.guard }], guard := Option.some (7, Bool.false) }) (v := ?v23) rfl (by kernel_rfl) (by kernel_rfl) (by kernel_rfl) (fun _ _ _ h => h) (Or.inl ⟨by rfl, ?hy23⟩) (by assumption) ?rest23
      case hy23 =>
        intro w9 hSw
        clear hSw
        go_simp
        first | done | with_reducible rfl
      (try simp only [Act.put]); (try simp only [List.setIfInBounds_toArray]); (try simp only [List.set_cons_succ]); (try simp only [List.set_cons_zero])
      refine wpAnyH_take (i := 17) (oi := { dst := Option.some 25, op := Go.Op.pick (Go.Operand.tmp 15) (Go.Operand.const (Go.Value.bool Bool.true)) (Go.Operand.tmp 24), type := 4, pos := "l12_store.go:49", after := #[{ on := 7, ground := Go.Ground.data }, { on := 16, ground := Go.Ground.data }], guard := Option.none }) (v := ?v24) rfl (by kernel_rfl) (by kernel_rfl) (by kernel_rfl) (fun _ _ _ h => h) (Or.inl ⟨by rfl, ?hy24⟩) (by assumption) ?rest24
      case hy24 =>
        intro w9 hSw
        clear hSw
        go_simp
        first | done | with_reducible rfl
      (try simp only [Act.put]); (try simp only [List.setIfInBounds_toArray]); (try simp only [List.set_cons_succ]); (try simp only [List.set_cons_zero])
      refine wpAnyH_done (by kernel_rfl) ?_ _
      obtain ⟨W1, hW1⟩ : ∃ W1, W1 = w9 := ⟨_, rfl⟩
      subst hW1
      have HBX := Lib.hid (HB.out.trans (HB9.out.mono HB.out.size))
      have HR1 := Lib.hid (Below.refl W1.heap.size W1)
      have HSS1 := Lib.hid (show ∀ W, Below W1.heap.size W1 W → (fun W : World => W.cell? ⟨w.heap.size, 1, none⟩ = some (.slice (some ⟨lb, lo, none⟩) levels.length c1) ∧ W.cell? ⟨w.heap.size, 3, none⟩ = some (.int .i64 keep) ∧ W.cell? ⟨lb, lo + i, none⟩ = some (.slice A' r.length c')) W from fun W hW => HSS.out W (HB9.out.trans (hW.mono HB9.out.size)))
      have HKY := Lib.hid (HKY0.out W1 HB9.out)
      clear HRK HSZ
      go_upto_region 3 with fail
      go_cut [5, 6] from 26 to 37 (fun s5 s6 wx => ∃ bx v, s5 = .pointer (some ⟨bx, 0, none⟩) ∧ s6 = .bool y ∧ Hid (SvBox W1 wx bx v L M_ F SR K))
      case first =>
        refine wp_region_held_drew (S := (fun W : World => W.cell? ⟨w.heap.size, 1, none⟩ = some (.slice (some ⟨lb, lo, none⟩) levels.length c1) ∧ W.cell? ⟨w.heap.size, 3, none⟩ = some (.int .i64 keep) ∧ W.cell? ⟨lb, lo + i, none⟩ = some (.slice A' r.length c'))) (by kernel_rfl) (HSS1.out _ (by exact bel2 HR1.out (by rfl) (by rfl) (by rfl) (by rfl))) (fun hHeld => ?_)
        refine wpAnyH_take (i := 0) (oi := { dst := Option.some 27, op := Go.Op.fieldAddr 27 (Go.Operand.tmp 2) 1, type := 0, pos := "l12_store.go:52", after := #[], guard := Option.none }) (v := ?v37) rfl (by kernel_rfl) (by kernel_rfl) (by kernel_rfl) (fun _ _ _ h => h) (Or.inl ⟨by rfl, ?hy37⟩) (by assumption) ?rest37
        case hy37 =>
          intro w9 hSw
          clear hSw
          go_simp
          first | done | with_reducible rfl
        (try simp only [Act.put]); (try simp only [List.setIfInBounds_toArray]); (try simp only [List.set_cons_succ]); (try simp only [List.set_cons_zero])
        refine wpAnyH_take (i := 1) (oi := { dst := Option.some 28, op := Go.Op.load 23 (Go.Operand.tmp 27), type := 23, pos := "l12_store.go:52", after := #[{ on := 0, ground := Go.Ground.data }], guard := Option.none }) (v := ?v38) rfl (by kernel_rfl) (by kernel_rfl) (by kernel_rfl) (fun _ _ _ h => h) (Or.inl ⟨by rfl, ?hy38⟩) (by assumption) ?rest38
        case hy38 =>
          intro w9 hSw
          obtain ⟨f0, f1, f2⟩ := hSw
          go_simp
          first | done | with_reducible rfl
        (try simp only [Act.put]); (try simp only [List.setIfInBounds_toArray]); (try simp only [List.set_cons_succ]); (try simp only [List.set_cons_zero])
        refine wpAnyH_take (i := 2) (oi := { dst := Option.some 29, op := Go.Op.move (Go.Operand.tmp 1), type := 3, pos := "l12_store.go:52", after := #[], guard := Option.none }) (v := ?v39) rfl (by kernel_rfl) (by kernel_rfl) (by kernel_rfl) (fun _ _ _ h => h) (Or.inl ⟨by rfl, ?hy39⟩) (by assumption) ?rest39
        case hy39 =>
          intro w9 hSw
          clear hSw
          go_simp
          first | done | with_reducible rfl
        (try simp only [Act.put]); (try simp only [List.setIfInBounds_toArray]); (try simp only [List.set_cons_succ]); (try simp only [List.set_cons_zero])
        refine wpAnyH_take (i := 3) (oi := { dst := Option.some 30, op := Go.Op.indexAddr 23 (Go.Operand.tmp 28) (Go.Operand.tmp 29), type := 0, pos := "l12_store.go:52", after := #[{ on := 1, ground := Go.Ground.data }, { on := 2, ground := Go.Ground.data }], guard := Option.none }) (v := ?v40) rfl (by kernel_rfl) (by kernel_rfl) (by kernel_rfl) (fun _ _ _ h => h) (Or.inl ⟨by rfl, ?hy40⟩) (by assumption) ?rest40
        case hy40 =>
          intro w9 hSw
          clear hSw
          go_simp
          first | done | with_reducible rfl
        (try simp only [Act.put]); (try simp only [List.setIfInBounds_toArray]); (try simp only [List.set_cons_succ]); (try simp only [List.set_cons_zero])
        refine wpAnyH_take (i := 4) (oi := { dst := Option.some 31, op := Go.Op.load 22 (Go.Operand.tmp 30), type := 22, pos := "l12_store.go:52", after := #[{ on := 3, ground := Go.Ground.data }], guard := Option.none }) (v := ?v41) rfl (by kernel_rfl) (by kernel_rfl) (by kernel_rfl) (fun _ _ _ h => h) (Or.inl ⟨by rfl, ?hy41⟩) (by assumption) ?rest41
        case hy41 =>
          intro w9 hSw
          obtain ⟨f0, f1, f2⟩ := hSw
          go_simp
          first | done | with_reducible rfl
        (try simp only [Act.put]); (try simp only [List.setIfInBounds_toArray]); (try simp only [List.set_cons_succ]); (try simp only [List.set_cons_zero])
        refine wpAnyH_take (i := 6) (oi := { dst := Option.some 33, op := Go.Op.fieldAddr 27 (Go.Operand.tmp 2) 3, type := 0, pos := "l12_store.go:52", after := #[], guard := Option.none }) (v := ?v42) rfl (by kernel_rfl) (by kernel_rfl) (by kernel_rfl) (fun _ _ _ h => h) (Or.inl ⟨by rfl, ?hy42⟩) (by assumption) ?rest42
        case hy42 =>
          intro w9 hSw
          clear hSw
          go_simp
          first | done | with_reducible rfl
        (try simp only [Act.put]); (try simp only [List.setIfInBounds_toArray]); (try simp only [List.set_cons_succ]); (try simp only [List.set_cons_zero])
        refine wpAnyH_take (i := 7) (oi := { dst := Option.some 34, op := Go.Op.load 3 (Go.Operand.tmp 33), type := 3, pos := "l12_store.go:52", after := #[{ on := 6, ground := Go.Ground.data }], guard := Option.none }) (v := ?v43) rfl (by kernel_rfl) (by kernel_rfl) (by kernel_rfl) (fun _ _ _ h => h) (Or.inl ⟨by rfl, ?hy43⟩) (by assumption) ?rest43
        case hy43 =>
          intro w9 hSw
          obtain ⟨f0, f1, f2⟩ := hSw
          go_simp
          first | done | with_reducible rfl
        (try simp only [Act.put]); (try simp only [List.setIfInBounds_toArray]); (try simp only [List.set_cons_succ]); (try simp only [List.set_cons_zero])
        refine wpAnyH_ready (rs := [5, 12]) (by kernel_rfl) (by simp) ?_
        refine AllReadyH.cons (o := { dst := Option.some 32, op := Go.Op.call { callee := Go.Callee.value (Go.Operand.func 56), args := #[Go.Operand.tmp 31], argTypes := #[22] }, type := 43, pos := "l12_store.go:52", after := #[{ on := 4, ground := Go.Ground.data }], guard := Option.none }) rfl (fun K hK => ?_) (AllReadyH.cons (o := { dst := Option.some 5, op := Go.Op.alloc 45, type := 0, pos := "l12_store.go:52", after := #[], guard := Option.none }) rfl (fun K hK => ?_) AllReadyH.nil)
        · go_simp
          go_at_call 56
          refine Calls.mono (HKY.out _ (by exact bel2 HR1.out (by rfl) (by rfl) (by rfl) (by rfl))) ?_
          rintro e w9 ⟨A9, k9, rfl, hc9, hm9, hs9, hb9⟩
          have HB9 := Lib.hid (Below.trans (by exact bel2 HR1.out (by rfl) (by rfl) (by rfl) (by rfl)) (hb9.mono (Below.size (by exact bel2 HR1.out (by rfl) (by rfl) (by rfl) (by rfl)))))
          have HS9 := Lib.hid hs9
          clear hb9 hs9
          (try go_wp2_with fail)
          refine hK.out _ _ (HSS1.out _ HB9.out) (fun hHeld => ?_)
          clear hK K
          (try simp only [Act.put]); (try simp only [List.setIfInBounds_toArray]); (try simp only [List.set_cons_succ]); (try simp only [List.set_cons_zero])
          refine wpAnyH_ready (rs := [8, 12]) (by kernel_rfl) (by simp) ?_
          refine AllReadyH.cons (o := { dst := Option.some 35, op := Go.Op.call { callee := Go.Callee.value (Go.Operand.func 55), args := #[Go.Operand.tmp 32, Go.Operand.tmp 34], argTypes := #[43, 3] }, type := 77, pos := "l12_store.go:52", after := #[{ on := 5, ground := Go.Ground.data }, { on := 7, ground := Go.Ground.data }, { on := 5, ground := Go.Ground.chain }], guard := Option.none }) rfl (fun K hK => ?_) (AllReadyH.cons (o := { dst := Option.some 5, op := Go.Op.alloc 45, type := 0, pos := "l12_store.go:52", after := #[], guard := Option.none }) rfl (fun K hK => ?_) AllReadyH.nil)
          · go_simp
            go_at_call 55
            refine Calls.mono (HSV.out _ _ _ HS9.out hc9 hm9) ?_
            rintro e w8 ⟨A8, k8, rfl, ho8, hb8⟩
            have HB8 := Lib.hid (HB9.out.trans (hb8.mono HB9.out.size))
            have HO8 := Lib.hid (ho8.base HB9.out.size)
            clear ho8 hb8
            (try go_wp2_with fail)
            refine hK.out _ _ (HSS1.out _ HB8.out) (fun hHeld => ?_)
            clear hK K
            (try simp only [Act.put]); (try simp only [List.setIfInBounds_toArray]); (try simp only [List.set_cons_succ]); (try simp only [List.set_cons_zero])
            refine wpAnyH_take (i := 9) (oi := { dst := Option.some 26, op := Go.Op.move (Go.Operand.tmp 35), type := 77, pos := "l12_store.go:52", after := #[{ on := 8, ground := Go.Ground.data }], guard := Option.none }) (v := ?v25) rfl (by kernel_rfl) (by kernel_rfl) (by kernel_rfl) (fun _ _ _ h => h) (Or.inl ⟨by rfl, ?hy25⟩) (by assumption) ?rest25
            case hy25 =>
              intro w9 hSw
              clear hSw
              go_simp
              first | done | with_reducible rfl
            (try simp only [Act.put]); (try simp only [List.setIfInBounds_toArray]); (try simp only [List.set_cons_succ]); (try simp only [List.set_cons_zero])
            refine wpAnyH_take (i := 10) (oi := { dst := Option.some 36, op := Go.Op.extract (Go.Operand.tmp 26) 0, type := 45, pos := "l12_store.go:52", after := #[{ on := 9, ground := Go.Ground.data }], guard := Option.none }) (v := ?v26) rfl (by kernel_rfl) (by kernel_rfl) (by kernel_rfl) (fun _ _ _ h => h) (Or.inl ⟨by rfl, ?hy26⟩) (by assumption) ?rest26
            case hy26 =>
              intro w9 hSw
              clear hSw
              go_simp
              first | done | with_reducible rfl
            (try simp only [Act.put]); (try simp only [List.setIfInBounds_toArray]); (try simp only [List.set_cons_succ]); (try simp only [List.set_cons_zero])
            refine wpAnyH_take (i := 11) (oi := { dst := Option.some 37, op := Go.Op.extract (Go.Operand.tmp 26) 1, type := 4, pos := "l12_store.go:52", after := #[{ on := 9, ground := Go.Ground.data }, { on := 13, ground := Go.Ground.gcOnly Go.Departure.lateStores }], guard := Option.none }) (v := ?v27) rfl (by kernel_rfl) (by kernel_rfl) (by kernel_rfl) (fun _ _ _ h => h) (Or.inl ⟨by rfl, ?hy27⟩) (by assumption) ?rest27
            case hy27 =>
              intro w9 hSw
              clear hSw
              go_simp
              first | done | with_reducible rfl
            (try simp only [Act.put]); (try simp only [List.setIfInBounds_toArray]); (try simp only [List.set_cons_succ]); (try simp only [List.set_cons_zero])
            have HBA := Lib.hid (HB8.out.alloc HB8.out.size (.cells #[.string ⟨#[]⟩, .string ⟨#[]⟩, .string ⟨#[]⟩, .slice none 0 0, .int .i64 0] 45))
            refine wpAnyH_ready (rs := [12]) (by kernel_rfl) (by simp) ?_
            refine AllReadyH.cons (o := { dst := Option.some 5, op := Go.Op.alloc 45, type := 0, pos := "l12_store.go:52", after := #[], guard := Option.none }) rfl (fun K hK => ?_) AllReadyH.nil
            go_simp
            refine hK.out _ _ (HSS1.out _ HBA.out) (fun hHeld => ?_)
            clear hK K
            (try simp only [Act.put]); (try simp only [List.setIfInBounds_toArray]); (try simp only [List.set_cons_succ]); (try simp only [List.set_cons_zero])
            have HBC := Lib.hid (svbox_new HB8.out HO8.out L M_ F K)
            refine wpAnyH_ready (rs := [13]) (by kernel_rfl) (by simp) ?_
            refine AllReadyH.cons (o := { dst := Option.none, op := Go.Op.store 45 (Go.Operand.tmp 5) (Go.Operand.tmp 36), type := 0, pos := "l12_store.go:52", after := #[{ on := 12, ground := Go.Ground.data }, { on := 10, ground := Go.Ground.data }, { on := 8, ground := Go.Ground.chain }, { on := 0, ground := Go.Ground.phase }, { on := 1, ground := Go.Ground.phase }, { on := 2, ground := Go.Ground.phase }, { on := 3, ground := Go.Ground.phase }, { on := 4, ground := Go.Ground.phase }, { on := 5, ground := Go.Ground.phase }, { on := 6, ground := Go.Ground.phase }, { on := 7, ground := Go.Ground.phase }, { on := 8, ground := Go.Ground.phase }, { on := 9, ground := Go.Ground.phase }, { on := 10, ground := Go.Ground.phase }, { on := 11, ground := Go.Ground.textOnly Go.Departure.lateStores }, { on := 12, ground := Go.Ground.phase }], guard := Option.none }) rfl (fun K hK => ?_) AllReadyH.nil
            go_simp
            refine hK.out _ _ (HSS1.out _ HBC.out.bel) (fun hHeld => ?_)
            clear hK K
            (try simp only [Act.put]); (try simp only [List.setIfInBounds_toArray]); (try simp only [List.set_cons_succ]); (try simp only [List.set_cons_zero])
            refine wpAnyH_take (i := 14) (oi := { dst := Option.some 6, op := Go.Op.assign (Go.Operand.tmp 37), type := 4, pos := "l12_store.go:52", after := #[{ on := 11, ground := Go.Ground.data }, { on := 13, ground := Go.Ground.chain }, { on := 0, ground := Go.Ground.phase }, { on := 1, ground := Go.Ground.phase }, { on := 2, ground := Go.Ground.phase }, { on := 3, ground := Go.Ground.phase }, { on := 4, ground := Go.Ground.phase }, { on := 5, ground := Go.Ground.phase }, { on := 6, ground := Go.Ground.phase }, { on := 7, ground := Go.Ground.phase }, { on := 8, ground := Go.Ground.phase }, { on := 9, ground := Go.Ground.phase }, { on := 10, ground := Go.Ground.phase }, { on := 11, ground := Go.Ground.phase }, { on := 12, ground := Go.Ground.phase }, { on := 13, ground := Go.Ground.phase }], guard := Option.none }) (v := ?v28) rfl (by kernel_rfl) (by kernel_rfl) (by kernel_rfl) (fun _ _ _ h => h) (Or.inl ⟨by rfl, ?hy28⟩) (by assumption) ?rest28
            case hy28 =>
              intro w9 hSw
              clear hSw
              go_simp
              first | done | with_reducible rfl
            (try simp only [Act.put]); (try simp only [List.setIfInBounds_toArray]); (try simp only [List.set_cons_succ]); (try simp only [List.set_cons_zero])
            refine wpAnyH_done (by kernel_rfl) ?_ _
            go_wp2_with fail
            go_meet
            exact ⟨_, _, rfl, rfl, HBC⟩
          · have HBA := Lib.hid (HB9.out.alloc HB9.out.size (.cells #[.string ⟨#[]⟩, .string ⟨#[]⟩, .string ⟨#[]⟩, .slice none 0 0, .int .i64 0] 45))
            go_simp
            refine hK.out _ _ (HSS1.out _ HBA.out) (fun hHeld => ?_)
            clear hK K
            (try simp only [Act.put]); (try simp only [List.setIfInBounds_toArray]); (try simp only [List.set_cons_succ]); (try simp only [List.set_cons_zero])
            refine wpAnyH_ready (rs := [8]) (by kernel_rfl) (by simp) ?_
            refine AllReadyH.cons (o := { dst := Option.some 35, op := Go.Op.call { callee := Go.Callee.value (Go.Operand.func 55), args := #[Go.Operand.tmp 32, Go.Operand.tmp 34], argTypes := #[43, 3] }, type := 77, pos := "l12_store.go:52", after := #[{ on := 5, ground := Go.Ground.data }, { on := 7, ground := Go.Ground.data }, { on := 5, ground := Go.Ground.chain }], guard := Option.none }) rfl (fun K hK => ?_) AllReadyH.nil
            go_simp
            go_at_call 55
            refine Calls.mono (HSV.out _ _ _ (strs_alloc HS9.out _) hc9 hm9) ?_
            rintro e w8 ⟨A8, k8, rfl, ho8, hb8⟩
            have HB8 := Lib.hid (HBA.out.trans (hb8.mono HBA.out.size))
            have HO8 := Lib.hid ho8
            have HX8 := Lib.hid ((hb8.block _ (by simp)).trans (heap_alloc_new w9 _))
            clear ho8 hb8
            (try go_wp2_with fail)
            refine hK.out _ _ (HSS1.out _ HB8.out) (fun hHeld => ?_)
            clear hK K
            (try simp only [Act.put]); (try simp only [List.setIfInBounds_toArray]); (try simp only [List.set_cons_succ]); (try simp only [List.set_cons_zero])
            refine wpAnyH_take (i := 9) (oi := { dst := Option.some 26, op := Go.Op.move (Go.Operand.tmp 35), type := 77, pos := "l12_store.go:52", after := #[{ on := 8, ground := Go.Ground.data }], guard := Option.none }) (v := ?v29) rfl (by kernel_rfl) (by kernel_rfl) (by kernel_rfl) (fun _ _ _ h => h) (Or.inl ⟨by rfl, ?hy29⟩) (by assumption) ?rest29
            case hy29 =>
              intro w9 hSw
              clear hSw
              go_simp
              first | done | with_reducible rfl
            (try simp only [Act.put]); (try simp only [List.setIfInBounds_toArray]); (try simp only [List.set_cons_succ]); (try simp only [List.set_cons_zero])
            refine wpAnyH_take (i := 10) (oi := { dst := Option.some 36, op := Go.Op.extract (Go.Operand.tmp 26) 0, type := 45, pos := "l12_store.go:52", after := #[{ on := 9, ground := Go.Ground.data }], guard := Option.none }) (v := ?v30) rfl (by kernel_rfl) (by kernel_rfl) (by kernel_rfl) (fun _ _ _ h => h) (Or.inl ⟨by rfl, ?hy30⟩) (by assumption) ?rest30
            case hy30 =>
              intro w9 hSw
              clear hSw
              go_simp
              first | done | with_reducible rfl
            (try simp only [Act.put]); (try simp only [List.setIfInBounds_toArray]); (try simp only [List.set_cons_succ]); (try simp only [List.set_cons_zero])
            refine wpAnyH_take (i := 11) (oi := { dst := Option.some 37, op := Go.Op.extract (Go.Operand.tmp 26) 1, type := 4, pos := "l12_store.go:52", after := #[{ on := 9, ground := Go.Ground.data }, { on := 13, ground := Go.Ground.gcOnly Go.Departure.lateStores }], guard := Option.none }) (v := ?v31) rfl (by kernel_rfl) (by kernel_rfl) (by kernel_rfl) (fun _ _ _ h => h) (Or.inl ⟨by rfl, ?hy31⟩) (by assumption) ?rest31
            case hy31 =>
              intro w9 hSw
              clear hSw
              go_simp
              first | done | with_reducible rfl
            (try simp only [Act.put]); (try simp only [List.setIfInBounds_toArray]); (try simp only [List.set_cons_succ]); (try simp only [List.set_cons_zero])
            have HBC := Lib.hid (svbox_set HB8.out HO8.out HX8.out HB9.out.size (by simp) L M_ F K)
            obtain ⟨q0, q1, q2, q3, q4⟩ := sv_row HX8.out
            have r0 := frozen_of_row _ _ 0 _ _ HX8.out
            have r1 := frozen_of_row _ _ 1 _ _ HX8.out
            have r2 := frozen_of_row _ _ 2 _ _ HX8.out
            have r3 := frozen_of_row _ _ 3 _ _ HX8.out
            have r4 := frozen_of_row _ _ 4 _ _ HX8.out
            refine wpAnyH_ready (rs := [13]) (by kernel_rfl) (by simp) ?_
            refine AllReadyH.cons (o := { dst := Option.none, op := Go.Op.store 45 (Go.Operand.tmp 5) (Go.Operand.tmp 36), type := 0, pos := "l12_store.go:52", after := #[{ on := 12, ground := Go.Ground.data }, { on := 10, ground := Go.Ground.data }, { on := 8, ground := Go.Ground.chain }, { on := 0, ground := Go.Ground.phase }, { on := 1, ground := Go.Ground.phase }, { on := 2, ground := Go.Ground.phase }, { on := 3, ground := Go.Ground.phase }, { on := 4, ground := Go.Ground.phase }, { on := 5, ground := Go.Ground.phase }, { on := 6, ground := Go.Ground.phase }, { on := 7, ground := Go.Ground.phase }, { on := 8, ground := Go.Ground.phase }, { on := 9, ground := Go.Ground.phase }, { on := 10, ground := Go.Ground.phase }, { on := 11, ground := Go.Ground.textOnly Go.Departure.lateStores }, { on := 12, ground := Go.Ground.phase }], guard := Option.none }) rfl (fun K hK => ?_) AllReadyH.nil
            go_simp
            refine hK.out _ _ (HSS1.out _ HBC.out.bel) (fun hHeld => ?_)
            clear hK K
            (try simp only [Act.put]); (try simp only [List.setIfInBounds_toArray]); (try simp only [List.set_cons_succ]); (try simp only [List.set_cons_zero])
            refine wpAnyH_take (i := 14) (oi := { dst := Option.some 6, op := Go.Op.assign (Go.Operand.tmp 37), type := 4, pos := "l12_store.go:52", after := #[{ on := 11, ground := Go.Ground.data }, { on := 13, ground := Go.Ground.chain }, { on := 0, ground := Go.Ground.phase }, { on := 1, ground := Go.Ground.phase }, { on := 2, ground := Go.Ground.phase }, { on := 3, ground := Go.Ground.phase }, { on := 4, ground := Go.Ground.phase }, { on := 5, ground := Go.Ground.phase }, { on := 6, ground := Go.Ground.phase }, { on := 7, ground := Go.Ground.phase }, { on := 8, ground := Go.Ground.phase }, { on := 9, ground := Go.Ground.phase }, { on := 10, ground := Go.Ground.phase }, { on := 11, ground := Go.Ground.phase }, { on := 12, ground := Go.Ground.phase }, { on := 13, ground := Go.Ground.phase }], guard := Option.none }) (v := ?v32) rfl (by kernel_rfl) (by kernel_rfl) (by kernel_rfl) (fun _ _ _ h => h) (Or.inl ⟨by rfl, ?hy32⟩) (by assumption) ?rest32
            case hy32 =>
              intro w9 hSw
              clear hSw
              go_simp
              first | done | with_reducible rfl
            (try simp only [Act.put]); (try simp only [List.setIfInBounds_toArray]); (try simp only [List.set_cons_succ]); (try simp only [List.set_cons_zero])
            refine wpAnyH_done (by kernel_rfl) ?_ _
            go_wp2_with fail
            go_meet
            exact ⟨_, _, rfl, rfl, HBC⟩
        · have HBA := Lib.hid ((Below.refl W1.heap.size W1).alloc (Nat.le_refl _) (.cells #[.string ⟨#[]⟩, .string ⟨#[]⟩, .string ⟨#[]⟩, .slice none 0 0, .int .i64 0] 45))
          have HZA := Lib.hid (heap_alloc_new W1 (.cells #[.string ⟨#[]⟩, .string ⟨#[]⟩, .string ⟨#[]⟩, .slice none 0 0, .int .i64 0] 45))
          go_simp
          refine hK.out _ _ (HSS1.out _ (by exact bel2 HBA.out (by rfl) (by rfl) (by rfl) (by rfl))) (fun hHeld => ?_)
          clear hK K
          (try simp only [Act.put]); (try simp only [List.setIfInBounds_toArray]); (try simp only [List.set_cons_succ]); (try simp only [List.set_cons_zero])
          refine wpAnyH_ready (rs := [5]) (by kernel_rfl) (by simp) ?_
          refine AllReadyH.cons (o := { dst := Option.some 32, op := Go.Op.call { callee := Go.Callee.value (Go.Operand.func 56), args := #[Go.Operand.tmp 31], argTypes := #[22] }, type := 43, pos := "l12_store.go:52", after := #[{ on := 4, ground := Go.Ground.data }], guard := Option.none }) rfl (fun K hK => ?_) AllReadyH.nil
          go_simp
          go_at_call 56
          refine Calls.mono (HKY.out _ (by exact bel2 HBA.out (by rfl) (by rfl) (by rfl) (by rfl))) ?_
          rintro e w9 ⟨A9, k9, rfl, hc9, hm9, hs9, hb9⟩
          have HB9 := Lib.hid (Below.trans (show Below W1.heap.size W1 _ by exact bel2 HBA.out (by rfl) (by rfl) (by rfl) (by rfl)) (hb9.mono (show W1.heap.size ≤ _ by exact HBA.out.size)))
          have HS9 := Lib.hid hs9
          have HX9 := Lib.hid ((hb9.block W1.heap.size (by show W1.heap.size < (W1.alloc _).heap.size; simp)).trans (by exact HZA.out))
          have hz9 : W1.heap.size < w9.heap.size := Nat.lt_of_lt_of_le (by show W1.heap.size < (W1.alloc _).heap.size; simp) hb9.size
          clear hb9 hs9
          (try go_wp2_with fail)
          refine hK.out _ _ (HSS1.out _ HB9.out) (fun hHeld => ?_)
          clear hK K
          (try simp only [Act.put]); (try simp only [List.setIfInBounds_toArray]); (try simp only [List.set_cons_succ]); (try simp only [List.set_cons_zero])
          refine wpAnyH_ready (rs := [8]) (by kernel_rfl) (by simp) ?_
          refine AllReadyH.cons (o := { dst := Option.some 35, op := Go.Op.call { callee := Go.Callee.value (Go.Operand.func 55), args := #[Go.Operand.tmp 32, Go.Operand.tmp 34], argTypes := #[43, 3] }, type := 77, pos := "l12_store.go:52", after := #[{ on := 5, ground := Go.Ground.data }, { on := 7, ground := Go.Ground.data }, { on := 5, ground := Go.Ground.chain }], guard := Option.none }) rfl (fun K hK => ?_) AllReadyH.nil
          go_simp
          go_at_call 55
          refine Calls.mono (HSV.out _ _ _ HS9.out hc9 hm9) ?_
          rintro e w8 ⟨A8, k8, rfl, ho8, hb8⟩
          have HB8 := Lib.hid (HB9.out.trans (hb8.mono HB9.out.size))
          have HO8 := Lib.hid ho8
          have HX8 := Lib.hid ((hb8.block _ hz9).trans HX9.out)
          clear ho8 hb8
          (try go_wp2_with fail)
          refine hK.out _ _ (HSS1.out _ HB8.out) (fun hHeld => ?_)
          clear hK K
          (try simp only [Act.put]); (try simp only [List.setIfInBounds_toArray]); (try simp only [List.set_cons_succ]); (try simp only [List.set_cons_zero])
          refine wpAnyH_take (i := 9) (oi := { dst := Option.some 26, op := Go.Op.move (Go.Operand.tmp 35), type := 77, pos := "l12_store.go:52", after := #[{ on := 8, ground := Go.Ground.data }], guard := Option.none }) (v := ?v33) rfl (by kernel_rfl) (by kernel_rfl) (by kernel_rfl) (fun _ _ _ h => h) (Or.inl ⟨by rfl, ?hy33⟩) (by assumption) ?rest33
          case hy33 =>
            intro w9 hSw
            clear hSw
            go_simp
            first | done | with_reducible rfl
          (try simp only [Act.put]); (try simp only [List.setIfInBounds_toArray]); (try simp only [List.set_cons_succ]); (try simp only [List.set_cons_zero])
          refine wpAnyH_take (i := 10) (oi := { dst := Option.some 36, op := Go.Op.extract (Go.Operand.tmp 26) 0, type := 45, pos := "l12_store.go:52", after := #[{ on := 9, ground := Go.Ground.data }], guard := Option.none }) (v := ?v34) rfl (by kernel_rfl) (by kernel_rfl) (by kernel_rfl) (fun _ _ _ h => h) (Or.inl ⟨by rfl, ?hy34⟩) (by assumption) ?rest34
          case hy34 =>
            intro w9 hSw
            clear hSw
            go_simp
            first | done | with_reducible rfl
          (try simp only [Act.put]); (try simp only [List.setIfInBounds_toArray]); (try simp only [List.set_cons_succ]); (try simp only [List.set_cons_zero])
          refine wpAnyH_take (i := 11) (oi := { dst := Option.some 37, op := Go.Op.extract (Go.Operand.tmp 26) 1, type := 4, pos := "l12_store.go:52", after := #[{ on := 9, ground := Go.Ground.data }, { on := 13, ground := Go.Ground.gcOnly Go.Departure.lateStores }], guard := Option.none }) (v := ?v35) rfl (by kernel_rfl) (by kernel_rfl) (by kernel_rfl) (fun _ _ _ h => h) (Or.inl ⟨by rfl, ?hy35⟩) (by assumption) ?rest35
          case hy35 =>
            intro w9 hSw
            clear hSw
            go_simp
            first | done | with_reducible rfl
          (try simp only [Act.put]); (try simp only [List.setIfInBounds_toArray]); (try simp only [List.set_cons_succ]); (try simp only [List.set_cons_zero])
          have HBC := Lib.hid (svbox_set HB8.out HO8.out HX8.out (Nat.le_refl _) hz9 L M_ F K)
          obtain ⟨q0, q1, q2, q3, q4⟩ := sv_row HX8.out
          have r0 := frozen_of_row _ _ 0 _ _ HX8.out
          have r1 := frozen_of_row _ _ 1 _ _ HX8.out
          have r2 := frozen_of_row _ _ 2 _ _ HX8.out
          have r3 := frozen_of_row _ _ 3 _ _ HX8.out
          have r4 := frozen_of_row _ _ 4 _ _ HX8.out
          refine wpAnyH_ready (rs := [13]) (by kernel_rfl) (by simp) ?_
          refine AllReadyH.cons (o := { dst := Option.none, op := Go.Op.store 45 (Go.Operand.tmp 5) (Go.Operand.tmp 36), type := 0, pos := "l12_store.go:52", after := #[{ on := 12, ground := Go.Ground.data }, { on := 10, ground := Go.Ground.data }, { on := 8, ground := Go.Ground.chain }, { on := 0, ground := Go.Ground.phase }, { on := 1, ground := Go.Ground.phase }, { on := 2, ground := Go.Ground.phase }, { on := 3, ground := Go.Ground.phase }, { on := 4, ground := Go.Ground.phase }, { on := 5, ground := Go.Ground.phase }, { on := 6, ground := Go.Ground.phase }, { on := 7, ground := Go.Ground.phase }, { on := 8, ground := Go.Ground.phase }, { on := 9, ground := Go.Ground.phase }, { on := 10, ground := Go.Ground.phase }, { on := 11, ground := Go.Ground.textOnly Go.Departure.lateStores }, { on := 12, ground := Go.Ground.phase }], guard := Option.none }) rfl (fun K hK => ?_) AllReadyH.nil
          go_simp
          refine hK.out _ _ (HSS1.out _ HBC.out.bel) (fun hHeld => ?_)
          clear hK K
          (try simp only [Act.put]); (try simp only [List.setIfInBounds_toArray]); (try simp only [List.set_cons_succ]); (try simp only [List.set_cons_zero])
          refine wpAnyH_take (i := 14) (oi := { dst := Option.some 6, op := Go.Op.assign (Go.Operand.tmp 37), type := 4, pos := "l12_store.go:52", after := #[{ on := 11, ground := Go.Ground.data }, { on := 13, ground := Go.Ground.chain }, { on := 0, ground := Go.Ground.phase }, { on := 1, ground := Go.Ground.phase }, { on := 2, ground := Go.Ground.phase }, { on := 3, ground := Go.Ground.phase }, { on := 4, ground := Go.Ground.phase }, { on := 5, ground := Go.Ground.phase }, { on := 6, ground := Go.Ground.phase }, { on := 7, ground := Go.Ground.phase }, { on := 8, ground := Go.Ground.phase }, { on := 9, ground := Go.Ground.phase }, { on := 10, ground := Go.Ground.phase }, { on := 11, ground := Go.Ground.phase }, { on := 12, ground := Go.Ground.phase }, { on := 13, ground := Go.Ground.phase }], guard := Option.none }) (v := ?v36) rfl (by kernel_rfl) (by kernel_rfl) (by kernel_rfl) (fun _ _ _ h => h) (Or.inl ⟨by rfl, ?hy36⟩) (by assumption) ?rest36
          case hy36 =>
            intro w9 hSw
            clear hSw
            go_simp
            first | done | with_reducible rfl
          (try simp only [Act.put]); (try simp only [List.setIfInBounds_toArray]); (try simp only [List.set_cons_succ]); (try simp only [List.set_cons_zero])
          refine wpAnyH_done (by kernel_rfl) ?_ _
          go_wp2_with fail
          go_meet
          exact ⟨_, _, rfl, rfl, HBC⟩
      case rest =>
        obtain ⟨bx, v, rfl, rfl, hq⟩ := hcut
        obtain ⟨A6, c6, hv, -, hm6, hs6⟩ := hq.out.own.parts
        subst hv
        have hbq := HB9.out.trans (hq.out.bel.mono HB9.out.size)
        obtain ⟨-, q1, q2, q3, -, -⟩ := HBC0.out wc hbq
        obtain ⟨g0, g1, g2, g3, g4⟩ := HG.out wc hbq
        have HBQ := Lib.hid hbq
        have HEQ := Lib.hid (lvl_eq (i := i) (X0 := X0) (X1 := X1) (X2 := X2) (XR := XR) (XK := XK) HD.out.symm HLG.out HSO.out)
        have hbx0 := hq.out.row
        obtain ⟨WC, hWC⟩ : ∃ W, W = wc.alloc (.cells #[.string X0, .string X1, .string X2, .slice A3 XR.length c3, .int .i64 XK] 45) := ⟨_, rfl⟩
        have hbl : Below wc.heap.size wc WC := by rw [hWC]; exact (Below.refl _ _).alloc (Nat.le_refl _) _
        have hbxl := (Array.getElem?_eq_some_iff.1 hbx0).1
        obtain ⟨x0, x1, x2, x3, x4⟩ := sv_row ((hbl.block bx hbxl).trans hbx0)
        obtain ⟨t0, t1, t2, t3, t4⟩ := sv_row (W := WC) (g := wc.heap.size) (by rw [hWC]; exact heap_alloc_new wc _)
        have HBW := Lib.hid (HB.out.trans ((HBQ.out.trans (hbl.mono HBQ.out.size)).mono HB.out.size))
        have HSM := Lib.hid (sames3 WC WC.heap.size SR.length c6 XR.length c3 A6 A3 SR XR ((hs6.below hbl (Nat.le_refl _)).more hbl.size) ((HST.out wc HBQ.out).below (hbl.mono (Nat.le_trans HB.out.size HBQ.out.size)) (Nat.le_refl _) |>.more (Nat.le_trans HB.out.size (Nat.le_trans HBQ.out.size hbl.size))) HSRL.out HXRL.out)
        have HWC := Lib.hid hWC
        have HQ0 := Lib.hid hq
        clear hq hs6 hbq hbx0 hbl hbxl hWC
        cases y with
        | false =>
          go_wp2
          go_ret
          rw [HWC.out] at HBW
          exact ⟨ret_bool (by rw [HEQ.out]; rfl), HBW.out⟩
        | true =>
          rw [HWC.out] at x0 x1 x2 x3 x4 t0 t1 t2 t3 t4
          have HBW2 := Lib.hid HBW.out
          rw [HWC.out] at HBW
          rcases Bool.eq_false_or_eq_true (L.toList == X0.toList) with a1 | a1
          case inr =>
            go_wp2
            go_ret
            exact ⟨ret_bool (by rw [HEQ.out, a1]; rfl), HBW.out⟩
          rcases Bool.eq_false_or_eq_true (M_.toList == X1.toList) with a2 | a2
          case inr =>
            go_wp2
            go_ret
            exact ⟨ret_bool (by rw [HEQ.out, a1, a2]; rfl), HBW.out⟩
          rcases Bool.eq_false_or_eq_true (F.toList == X2.toList) with a3 | a3
          case inr =>
            go_wp2
            go_ret
            exact ⟨ret_bool (by rw [HEQ.out, a1, a2, a3]; rfl), HBW.out⟩
          by_cases a4 : K = XK
          case neg =>
            have a5 : decide (K = XK) = false := decide_eq_false a4
            have a6 : (K == XK) = false := by rw [beq_eq_false_iff_ne]; exact a4
            go_wp2
            go_ret
            exact ⟨ret_bool (by rw [HEQ.out, a1, a2, a3, a5]; rfl), HBW.out⟩
          subst a4
          go_wp2_with fail
          rw [← HWC.out]
          go_at_call 57
          refine Calls.mono HSM.out ?_
          rintro e w5 ⟨rfl, m5, rfl⟩
          go_wp2
          go_ret
          exact ⟨ret_bool (by rw [HEQ.out, a1, a2, a3]; simp), below_drewN HBW2.out _⟩
    · have HQ := Lib.hid (lvl_long (keep := keep) (i := i) (r := r) (x := ⟨X0, X1, X2, XR, XK⟩) hlong)
      have hng : (8 * ((i : Int) + 1)) < (r.length : Int) := by omega
      clear hlong
      go_enter Tryd.func35, Tryd.ntmps35
      go_upto_region 1 with fail
      rw [← HW0.out]
      refine wp_region_held_drew (S := (fun W : World => W.cell? ⟨w.heap.size, 1, none⟩ = some (.slice (some ⟨lb, lo, none⟩) levels.length c1) ∧ W.cell? ⟨w.heap.size, 3, none⟩ = some (.int .i64 keep) ∧ W.cell? ⟨lb, lo + i, none⟩ = some (.slice A' r.length c'))) (by kernel_rfl) (HSS.out _ (by exact bel2 HR0.out (by rfl) (by rfl) (by rfl) (by rfl))) (fun hHeld => ?_)
      refine wpAnyH_take (i := 0) (oi := { dst := Option.some 8, op := Go.Op.fieldAddr 27 (Go.Operand.tmp 2) 1, type := 0, pos := "l12_store.go:49", after := #[], guard := Option.none }) (v := ?v44) rfl (by kernel_rfl) (by kernel_rfl) (by kernel_rfl) (fun _ _ _ h => h) (Or.inl ⟨by rfl, ?hy44⟩) (by assumption) ?rest44
      case hy44 =>
        intro w9 hSw
        clear hSw
        go_simp
        first | done | with_reducible rfl
      (try simp only [Act.put]); (try simp only [List.setIfInBounds_toArray]); (try simp only [List.set_cons_succ]); (try simp only [List.set_cons_zero])
      refine wpAnyH_take (i := 1) (oi := { dst := Option.some 9, op := Go.Op.load 23 (Go.Operand.tmp 8), type := 23, pos := "l12_store.go:49", after := #[{ on := 0, ground := Go.Ground.data }], guard := Option.none }) (v := ?v45) rfl (by kernel_rfl) (by kernel_rfl) (by kernel_rfl) (fun _ _ _ h => h) (Or.inl ⟨by rfl, ?hy45⟩) (by assumption) ?rest45
      case hy45 =>
        intro w9 hSw
        obtain ⟨f0, f1, f2⟩ := hSw
        go_simp
        first | done | with_reducible rfl
      (try simp only [Act.put]); (try simp only [List.setIfInBounds_toArray]); (try simp only [List.set_cons_succ]); (try simp only [List.set_cons_zero])
      refine wpAnyH_take (i := 2) (oi := { dst := Option.some 10, op := Go.Op.move (Go.Operand.tmp 1), type := 3, pos := "l12_store.go:49", after := #[], guard := Option.none }) (v := ?v46) rfl (by kernel_rfl) (by kernel_rfl) (by kernel_rfl) (fun _ _ _ h => h) (Or.inl ⟨by rfl, ?hy46⟩) (by assumption) ?rest46
      case hy46 =>
        intro w9 hSw
        clear hSw
        go_simp
        first | done | with_reducible rfl
      (try simp only [Act.put]); (try simp only [List.setIfInBounds_toArray]); (try simp only [List.set_cons_succ]); (try simp only [List.set_cons_zero])
      refine wpAnyH_take (i := 3) (oi := { dst := Option.some 11, op := Go.Op.indexAddr 23 (Go.Operand.tmp 9) (Go.Operand.tmp 10), type := 0, pos := "l12_store.go:49", after := #[{ on := 1, ground := Go.Ground.data }, { on := 2, ground := Go.Ground.data }], guard := Option.none }) (v := ?v47) rfl (by kernel_rfl) (by kernel_rfl) (by kernel_rfl) (fun _ _ _ h => h) (Or.inl ⟨by rfl, ?hy47⟩) (by assumption) ?rest47
      case hy47 =>
        intro w9 hSw
        clear hSw
        go_simp
        first | done | with_reducible rfl
      (try simp only [Act.put]); (try simp only [List.setIfInBounds_toArray]); (try simp only [List.set_cons_succ]); (try simp only [List.set_cons_zero])
      refine wpAnyH_take (i := 4) (oi := { dst := Option.some 12, op := Go.Op.load 22 (Go.Operand.tmp 11), type := 22, pos := "l12_store.go:49", after := #[{ on := 3, ground := Go.Ground.data }], guard := Option.none }) (v := ?v48) rfl (by kernel_rfl) (by kernel_rfl) (by kernel_rfl) (fun _ _ _ h => h) (Or.inl ⟨by rfl, ?hy48⟩) (by assumption) ?rest48
      case hy48 =>
        intro w9 hSw
        obtain ⟨f0, f1, f2⟩ := hSw
        go_simp
        first | done | with_reducible rfl
      (try simp only [Act.put]); (try simp only [List.setIfInBounds_toArray]); (try simp only [List.set_cons_succ]); (try simp only [List.set_cons_zero])
      refine wpAnyH_ready (rs := [5]) (by kernel_rfl) (by simp) ?_
      refine AllReadyH.cons (o := { dst := Option.some 13, op := Go.Op.call { callee := Go.Callee.value (Go.Operand.func 34), args := #[Go.Operand.tmp 12], argTypes := #[22] }, type := 4, pos := "l12_store.go:49", after := #[{ on := 4, ground := Go.Ground.data }], guard := Option.none }) rfl (fun K hK => ?_) AllReadyH.nil
      go_simp
      (go_at_call 34; refine Calls.mono (HRK.out _ (by first | exact HB9.out | exact bel2 HR0.out (by rfl) (by rfl) (by rfl) (by rfl))) ?_; rintro e w9 ⟨rfl, hb9⟩; have HB9 := Lib.hid hb9; clear hb9)
      (try go_wp2_with fail)
      refine hK.out _ _ (HSS.out _ HB9.out) (fun hHeld => ?_)
      clear hK K
      (try simp only [Act.put]); (try simp only [List.setIfInBounds_toArray]); (try simp only [List.set_cons_succ]); (try simp only [List.set_cons_zero])
      refine wpAnyH_take (i := 6) (oi := { dst := Option.some 14, op := Go.Op.unOp Go.UnOp.not 4 (Go.Operand.tmp 13), type := 4, pos := "l12_store.go:49", after := #[{ on := 5, ground := Go.Ground.data }], guard := Option.none }) (v := ?v49) rfl (by kernel_rfl) (by kernel_rfl) (by kernel_rfl) (fun _ _ _ h => h) (Or.inl ⟨by rfl, ?hy49⟩) (by assumption) ?rest49
      case hy49 =>
        intro w9 hSw
        clear hSw
        go_simp
        first | done | with_reducible rfl
      (try simp only [Act.put]); (try simp only [List.setIfInBounds_toArray]); (try simp only [List.set_cons_succ]); (try simp only [List.set_cons_zero])
      refine wpAnyH_take (i := 7) (oi := { dst := Option.some 15, op := Go.Op.move (Go.Operand.tmp 14), type := 4, pos := "l12_store.go:49", after := #[{ on := 6, ground := Go.Ground.data }, { on := 5, ground := Go.Ground.chain }], guard := Option.none }) (v := ?v50) rfl (by kernel_rfl) (by kernel_rfl) (by kernel_rfl) (fun _ _ _ h => h) (Or.inl ⟨by rfl, ?hy50⟩) (by assumption) ?rest50
      case hy50 =>
        intro w9 hSw
        clear hSw
        go_simp
        first | done | with_reducible rfl
      (try simp only [Act.put]); (try simp only [List.setIfInBounds_toArray]); (try simp only [List.set_cons_succ]); (try simp only [List.set_cons_zero])
      refine wpAnyH_take (i := 8) (oi := { dst := Option.some 16, op := Go.Op.fieldAddr 27 (Go.Operand.tmp 2) 1, type := 0, pos := "l12_store.go:49", after := #[{ on := 7, ground := Go.Ground.guard }], guard := Option.some (7, Bool.false) }) (v := ?v51) rfl (by kernel_rfl) (by kernel_rfl) (by kernel_rfl) (fun _ _ _ h => h) (Or.inl ⟨by rfl, ?hy51⟩) (by assumption) ?rest51
      case hy51 =>
        intro w9 hSw
        clear hSw
        go_simp
        first | done | with_reducible rfl
      (try simp only [Act.put]); (try simp only [List.setIfInBounds_toArray]); (try simp only [List.set_cons_succ]); (try simp only [List.set_cons_zero])
      refine wpAnyH_take (i := 9) (oi := { dst := Option.some 17, op := Go.Op.load 23 (Go.Operand.tmp 16), type := 23, pos := "l12_store.go:49", after := #[{ on := 8, ground := Go.Ground.data }, { on := 7, ground := Go.Ground.guard }], guard := Option.some (7, Bool.false) }) (v := ?v52) rfl (by kernel_rfl) (by kernel_rfl) (by kernel_rfl) (fun _ _ _ h => h) (Or.inl ⟨by rfl, ?hy52⟩) (by assumption) ?rest52
      case hy52 =>
        intro w9 hSw
        obtain ⟨f0, f1, f2⟩ := hSw
        go_simp
        first | done | with_reducible rfl
      (try simp only [Act.put]); (try simp only [List.setIfInBounds_toArray]); (try simp only [List.set_cons_succ]); (try simp only [List.set_cons_zero])
      refine wpAnyH_take (i := 10) (oi := { dst := Option.some 18, op := Go.Op.move (Go.Operand.tmp 1), type := 3, pos := "l12_store.go:49", after := #[{ on := 7, ground := Go.Ground.guard }], guard := Option.some (7, Bool.false) }) (v := ?v53) rfl (by kernel_rfl) (by kernel_rfl) (by kernel_rfl) (fun _ _ _ h => h) (Or.inl ⟨by rfl, ?hy53⟩) (by assumption) ?rest53
      case hy53 =>
        intro w9 hSw
        clear hSw
        go_simp
        first | done | with_reducible rfl
      (try simp only [Act.put]); (try simp only [List.setIfInBounds_toArray]); (try simp only [List.set_cons_succ]); (try simp only [List.set_cons_zero])
      refine wpAnyH_take (i := 11) (oi := { dst := Option.some 19, op := Go.Op.indexAddr 23 (Go.Operand.tmp 17) (Go.Operand.tmp 18), type := 0, pos := "l12_store.go:49", after := #[{ on := 9, ground := Go.Ground.data }, { on := 10, ground := Go.Ground.data }, { on := 7, ground := Go.Ground.guard }], guard := Option.some (7, Bool.false) }) (v := ?v54) rfl (by kernel_rfl) (by kernel_rfl) (by kernel_rfl) (fun _ _ _ h => h) (Or.inl ⟨by rfl, ?hy54⟩) (by assumption) ?rest54
      case hy54 =>
        intro w9 hSw
        clear hSw
        go_simp
        first | done | with_reducible rfl
      (try simp only [Act.put]); (try simp only [List.setIfInBounds_toArray]); (try simp only [List.set_cons_succ]); (try simp only [List.set_cons_zero])
      refine wpAnyH_take (i := 12) (oi := { dst := Option.some 20, op := Go.Op.load 22 (Go.Operand.tmp 19), type := 22, pos := "l12_store.go:49", after := #[{ on := 11, ground := Go.Ground.data }, { on := 7, ground := Go.Ground.guard }], guard := Option.some (7, Bool.false) }) (v := ?v55) rfl (by kernel_rfl) (by kernel_rfl) (by kernel_rfl) (fun _ _ _ h => h) (Or.inl ⟨by rfl, ?hy55⟩) (by assumption) ?rest55
      case hy55 =>
        intro w9 hSw
        obtain ⟨f0, f1, f2⟩ := hSw
        go_simp
        first | done | with_reducible rfl
      (try simp only [Act.put]); (try simp only [List.setIfInBounds_toArray]); (try simp only [List.set_cons_succ]); (try simp only [List.set_cons_zero])
      refine wpAnyH_take (i := 13) (oi := { dst := Option.some 21, op := Go.Op.call { callee := Go.Callee.builtin Go.Builtin.len, args := #[Go.Operand.tmp 20], argTypes := #[22] }, type := 3, pos := "l12_store.go:49", after := #[{ on := 12, ground := Go.Ground.data }, { on := 7, ground := Go.Ground.guard }], guard := Option.some (7, Bool.false) }) (v := ?v56) rfl (by kernel_rfl) (by kernel_rfl) (by kernel_rfl) (fun _ _ _ h => h) (Or.inl ⟨by rfl, ?hy56⟩) (by assumption) ?rest56
      case hy56 =>
        intro w9 hSw
        clear hSw
        go_simp
        first | done | with_reducible rfl
      (try simp only [Act.put]); (try simp only [List.setIfInBounds_toArray]); (try simp only [List.set_cons_succ]); (try simp only [List.set_cons_zero])
      refine wpAnyH_take (i := 14) (oi := { dst := Option.some 22, op := Go.Op.move (Go.Operand.tmp 1), type := 3, pos := "l12_store.go:49", after := #[{ on := 7, ground := Go.Ground.guard }], guard := Option.some (7, Bool.false) }) (v := ?v57) rfl (by kernel_rfl) (by kernel_rfl) (by kernel_rfl) (fun _ _ _ h => h) (Or.inl ⟨by rfl, ?hy57⟩) (by assumption) ?rest57
      case hy57 =>
        intro w9 hSw
        clear hSw
        go_simp
        first | done | with_reducible rfl
      (try simp only [Act.put]); (try simp only [List.setIfInBounds_toArray]); (try simp only [List.set_cons_succ]); (try simp only [List.set_cons_zero])
      refine wpAnyH_ready (rs := [15]) (by kernel_rfl) (by simp) ?_
      refine AllReadyH.cons (o := { dst := Option.some 23, op := Go.Op.call { callee := Go.Callee.value (Go.Operand.func 54), args := #[Go.Operand.tmp 22], argTypes := #[3] }, type := 3, pos := "l12_store.go:49", after := #[{ on := 14, ground := Go.Ground.data }, { on := 7, ground := Go.Ground.chain }, { on := 7, ground := Go.Ground.guard }], guard := Option.some (7, Bool.false) }) rfl (fun K hK => ?_) AllReadyH.nil
      go_simp
      (go_at_call 54; refine Calls.mono (HSZ.out _) ?_; rintro e w7 ⟨rfl, rfl⟩)
      (try go_wp2_with fail)
      refine hK.out _ _ (HSS.out _ HB9.out) (fun hHeld => ?_)
      clear hK K
      (try simp only [Act.put]); (try simp only [List.setIfInBounds_toArray]); (try simp only [List.set_cons_succ]); (try simp only [List.set_cons_zero])
      refine wpAnyH_take (i := 16) (oi := { dst := Option.some 24, op := Go.Op.binOp Go.BinOp.gtr 3 (Go.Operand.tmp 21) (Go.Operand.tmp 23) 3, type := 4, pos := "l12_store.go:49", after := #[{ on := 13, ground := Go.Ground.data }, { on := 15, ground := Go.Ground.data }, { on := 7, ground := Go.Ground.guard }], guard := Option.some (7, Bool.false) }) (v := ?v58) rfl (by kernel_rfl) (by kernel_rfl) (by kernel_rfl) (fun _ _ _ h => h) (Or.inl ⟨by rfl, ?hy58⟩) (by assumption) ?rest58
      case hy58 =>
        intro w9 hSw
        clear hSw
        go_simp
        first | done | with_reducible rfl
      (try simp only [Act.put]); (try simp only [List.setIfInBounds_toArray]); (try simp only [List.set_cons_succ]); (try simp only [List.set_cons_zero])
      refine wpAnyH_take (i := 17) (oi := { dst := Option.some 25, op := Go.Op.pick (Go.Operand.tmp 15) (Go.Operand.const (Go.Value.bool Bool.true)) (Go.Operand.tmp 24), type := 4, pos := "l12_store.go:49", after := #[{ on := 7, ground := Go.Ground.data }, { on := 16, ground := Go.Ground.data }], guard := Option.none }) (v := ?v59) rfl (by kernel_rfl) (by kernel_rfl) (by kernel_rfl) (fun _ _ _ h => h) (Or.inl ⟨by rfl, ?hy59⟩) (by assumption) ?rest59
      case hy59 =>
        intro w9 hSw
        clear hSw
        go_simp
        first | done | with_reducible rfl
      (try simp only [Act.put]); (try simp only [List.setIfInBounds_toArray]); (try simp only [List.set_cons_succ]); (try simp only [List.set_cons_zero])
      refine wpAnyH_done (by kernel_rfl) ?_ _
      go_wp2
      go_ret
      exact ⟨ret_bool HQ.out.symm, HB.out.trans (HB9.out.mono HB.out.size)⟩

end Go.Proofs.YtfhpkcamigkmdaaDoor.W
