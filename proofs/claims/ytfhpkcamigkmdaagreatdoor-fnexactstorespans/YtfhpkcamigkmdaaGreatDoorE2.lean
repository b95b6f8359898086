/-
  The model's RunOk: whether entries are a run.
-/
import Derived.Test.YtfhpkcamigkmdaaGreatDoorZAA
import Derived.Deep.RegionHeld
namespace Go.Proofs.YtfhpkcamigkmdaaGreatDoor.W
open Go.RowKit K R

theorem i64_n (a : Nat) (h : a ≤ 9223372036854775807) : ∀ x : Int, x = (a : Int) → IntKind.i64.wrap x = (a : Int) := by
  rintro x rfl
  exact IntWalk.i64_in _ ⟨by omega, by omega⟩
theorem goodE_succ2 {l : List En} {j k : Nat} (hj : j + 1 = k) (g : goodE l k) (h : k < l.length) (hk : okE l[k] = true) (hl : R.ahead (l[j]'(by omega)) l[k] = true) : goodE l (k + 1) := by
  subst hj; exact goodE_succ g h hk hl
theorem badE_ord2 {l : List En} {j k : Nat} (hj : j + 1 = k) (h : k < l.length) (hk : R.ahead (l[j]'(by omega)) l[k] = false) : runB l = false := by
  subst hj; exact badE_ord h hk

set_option maxHeartbeats 8000000 in
set_option maxRecDepth 100000 in
theorem runS (w : World) (B n c : Nat) (A : Option Addr) (l : List En) (hr : Ents w B A n l) (hB : B ≤ w.heap.size) (hn : n ≤ maxLen) (hf : ∀ e ∈ l, e.key.size ≤ maxLen) :
    Calls Tryz.prog 93 #[.slice A n c] w fun e w' => e = .returned (.bool (runB l)) ∧ Below w.heap.size w w' := by
  have hlen := hr.len
  subst hlen
  unfold maxLen at hn
  have HR := Lib.hid hr
  clear hr
  go_enter Tryz.func93, Tryz.ntmps93
  go_wp2_with fail
  go_loopw [3] (fun i wr => ∃ k : Nat, k ≤ l.length ∧ i = .int .i64 (k : Nat) ∧ goodE l k ∧ Below w.heap.size w wr) (fun i _ => l.length - (intOf i).toNat)
  case atStart => exact ⟨0, Nat.zero_le _, rfl, goodE_zero l, Below.refl _ _⟩
  case round =>
    obtain ⟨k, hk, rfl, hg, hbl⟩ := hrel
    have HBL := Lib.hid hbl
    have HG := Lib.hid hg
    clear hbl hg
    by_cases hlt : k < l.length
    · obtain ⟨kb, ko, hA, hkb, c0, c1, c2, c3⟩ := HR.out.cell k hlt
      subst hA
      obtain ⟨x0, hx0⟩ : ∃ y, y = l[k].key := ⟨_, rfl⟩
      obtain ⟨x1, hx1⟩ : ∃ y, y = l[k].val := ⟨_, rfl⟩
      obtain ⟨x2, hx2⟩ : ∃ y, y = l[k].gone := ⟨_, rfl⟩
      obtain ⟨x3, hx3⟩ : ∃ y, y = l[k].time := ⟨_, rfl⟩
      rw [← hx0] at c0
      rw [← hx1] at c1
      rw [← hx2] at c2
      rw [← hx3] at c3
      have hkb' : kb < w.heap.size := Nat.lt_of_lt_of_le hkb hB
      have HS1 := Lib.hid (show ∀ W, Below w.heap.size w W → (fun W : World => W.cell? ⟨kb, ko + k * 4, none⟩ = some (.string x0) ∧ W.cell? ⟨kb, ko + k * 4 + 1, none⟩ = some (.int .i64 x1) ∧ W.cell? ⟨kb, ko + k * 4 + 2, none⟩ = some (.bool x2) ∧ W.cell? ⟨kb, ko + k * 4 + 3, none⟩ = some (.int .i64 x3)) W from fun W hW => ⟨(hW.cell (p := ⟨kb, ko + k * 4, none⟩) hkb').trans c0, (hW.cell (p := ⟨kb, ko + k * 4 + 1, none⟩) hkb').trans c1, (hW.cell (p := ⟨kb, ko + k * 4 + 2, none⟩) hkb').trans c2, (hW.cell (p := ⟨kb, ko + k * 4 + 3, none⟩) hkb').trans c3⟩)
      have z0 : (0 : Int) ≤ (k : Int) := by omega
      have z1 : (k : Int) < (l.length : Int) := by omega
      clear c0 c1 c2 c3
      rcases Bool.eq_false_or_eq_true (okE l[k]) with ho | ho
      · have HOK := Lib.hid (show ∀ W : World, Below w.heap.size w W → Calls Tryz.prog 133 #[.agg #[.string x0, .int .i64 x1, .bool x2, .int .i64 x3]] W fun e w' => e = .returned (.bool true) ∧ Below w.heap.size w w' from fun W hW => by have h := okEs x0 x1 x2 x3 W (by rw [hx0]; exact hf _ (List.getElem_mem hlt)); rw [show (⟨x0, x1, x2, x3⟩ : En) = l[k] by rw [hx0, hx1, hx2, hx3], ho] at h; exact h.mono fun _ _ ⟨he, hb⟩ => ⟨he, hW.trans (hb.mono hW.size)⟩)
        have HO := Lib.hid ho
        clear ho
        by_cases hk0 : k = 0
        · subst hk0
          have HSS := Lib.hid (show ∀ W, Below w.heap.size w W → (fun W : World => W.cell? ⟨kb, ko, none⟩ = some (.string x0) ∧ W.cell? ⟨kb, ko + 1, none⟩ = some (.int .i64 x1) ∧ W.cell? ⟨kb, ko + 2, none⟩ = some (.bool x2) ∧ W.cell? ⟨kb, ko + 3, none⟩ = some (.int .i64 x3)) W from fun W hW => by have h := HS1.out W hW; simpa using h)
          have zz : (0 : Int) < (l.length : Int) := by omega
          clear hx0 hx1 hx2 hx3 HS1
          go_wp2_with fail
          refine wp_region_held_drew (S := (fun W : World => W.cell? ⟨kb, ko, none⟩ = some (.string x0) ∧ W.cell? ⟨kb, ko + 1, none⟩ = some (.int .i64 x1) ∧ W.cell? ⟨kb, ko + 2, none⟩ = some (.bool x2) ∧ W.cell? ⟨kb, ko + 3, none⟩ = some (.int .i64 x3))) (by kernel_rfl) (HSS.out _ (by first | exact HB9.out | exact bel2 HBL.out (by rfl) (by rfl) (by rfl) (by rfl))) (fun hHeld => ?_)
          refine wpAnyH_takes (a' := ?a1_) [0, 1, 2, 3] (k := 4) rfl (by kernel_rfl) (by kernel_rfl) (fun _ _ _ _ _ h => h) ?t1_ (by assumption) ?r1_
          case t1_ =>
            iterate 4
              apply takes_cons rfl
              · first | (refine Or.inl ⟨by rfl, fun w9 hSw => ?_⟩; clear hSw; go_simp; (first | done | with_reducible rfl)) | (refine Or.inl ⟨by rfl, fun w9 hSw => ?_⟩; obtain ⟨f0, f1, f2, f3⟩ := hSw; go_simp; (first | done | with_reducible rfl))
              (try simp only [Act.put]); (try simp only [List.setIfInBounds_toArray]); (try simp only [List.set_cons_succ]); (try simp only [List.set_cons_zero])
            exact takes_nil
          refine wpAnyH_ready (rs := [4]) (by kernel_rfl) (by simp) ?_
          refine AllReadyH.cons (o := { dst := Option.some 14, op := Go.Op.call { callee := Go.Callee.value (Go.Operand.func 133), args := #[Go.Operand.tmp 13], argTypes := #[83] }, type := 4, pos := "l11_run.go:18", after := #[{ on := 3, ground := Go.Ground.data }], guard := Option.none }) rfl (fun K hK => ?_) AllReadyH.nil
          go_simp
          (go_at_call 133; refine Calls.mono (HOK.out _ (by first | exact HB9.out | exact bel2 HBL.out (by rfl) (by rfl) (by rfl) (by rfl))) ?_; rintro e w9 ⟨rfl, hb9⟩; have HB9 := Lib.hid hb9; clear hb9)
          (try go_wp2_with fail)
          refine hK.out _ _ (HSS.out _ (by first | exact HB9.out | exact bel2 HBL.out (by rfl) (by rfl) (by rfl) (by rfl))) (fun hHeld => ?_)
          clear hK K
          (try simp only [Act.put]); (try simp only [List.setIfInBounds_toArray]); (try simp only [List.set_cons_succ]); (try simp only [List.set_cons_zero])
          refine wpAnyH_takes (a' := ?a2_) [5, 6, 7, 8, 9, 10, 11, 12, 13, 14, 15, 16, 17, 18, 19, 20, 21, 22] (k := 18) rfl (by kernel_rfl) (by kernel_rfl) (fun _ _ _ _ _ h => h) ?t2_ (by assumption) ?r2_
          case t2_ =>
            iterate 18
              apply takes_cons rfl
              · first | (refine Or.inl ⟨by rfl, fun w9 hSw => ?_⟩; clear hSw; go_simp; (first | done | with_reducible rfl)) | exact Or.inr ⟨by rfl, rfl⟩
              (try simp only [Act.put]); (try simp only [List.setIfInBounds_toArray]); (try simp only [List.set_cons_succ]); (try simp only [List.set_cons_zero])
            exact takes_nil
          refine wpAnyH_done (by kernel_rfl) ?_ _
          go_wp2
          go_roundw
          case rel => exact ⟨0 + 1, by omega, by go_num, goodE_one hlt HO.out, HB9.out⟩
          case measure => simp [intOf]; omega
        · obtain ⟨j, hjk⟩ : ∃ j, j + 1 = k := ⟨k - 1, by omega⟩
          have hjl : j < l.length := by omega
          obtain ⟨jb, jo, hA2, hjb, d0, d1, d2, d3⟩ := HR.out.cell j hjl
          injection hA2 with hA2
          injection hA2 with e1 e2
          subst e1 e2
          obtain ⟨y0, hy0⟩ : ∃ y, y = l[j].key := ⟨_, rfl⟩
          obtain ⟨y1, hy1⟩ : ∃ y, y = l[j].val := ⟨_, rfl⟩
          obtain ⟨y2, hy2⟩ : ∃ y, y = l[j].gone := ⟨_, rfl⟩
          obtain ⟨y3, hy3⟩ : ∃ y, y = l[j].time := ⟨_, rfl⟩
          rw [← hy0] at d0
          rw [← hy1] at d1
          rw [← hy2] at d2
          rw [← hy3] at d3
          have HSS := Lib.hid (show ∀ W, Below w.heap.size w W → (fun W : World => W.cell? ⟨kb, ko + j * 4, none⟩ = some (.string y0) ∧ W.cell? ⟨kb, ko + j * 4 + 1, none⟩ = some (.int .i64 y1) ∧ W.cell? ⟨kb, ko + j * 4 + 2, none⟩ = some (.bool y2) ∧ W.cell? ⟨kb, ko + j * 4 + 3, none⟩ = some (.int .i64 y3) ∧ W.cell? ⟨kb, ko + k * 4, none⟩ = some (.string x0) ∧ W.cell? ⟨kb, ko + k * 4 + 1, none⟩ = some (.int .i64 x1) ∧ W.cell? ⟨kb, ko + k * 4 + 2, none⟩ = some (.bool x2) ∧ W.cell? ⟨kb, ko + k * 4 + 3, none⟩ = some (.int .i64 x3)) W from fun W hW => ⟨(hW.cell (p := ⟨kb, ko + j * 4, none⟩) hkb').trans d0, (hW.cell (p := ⟨kb, ko + j * 4 + 1, none⟩) hkb').trans d1, (hW.cell (p := ⟨kb, ko + j * 4 + 2, none⟩) hkb').trans d2, (hW.cell (p := ⟨kb, ko + j * 4 + 3, none⟩) hkb').trans d3, HS1.out W hW⟩)
          have hwr : IntKind.i64.wrap ((k : Int) - 1) = (j : Nat) := i64_n j (by omega) _ (by omega)
          have y0' : (0 : Int) ≤ (j : Int) := by omega
          have y1' : (j : Int) < (l.length : Int) := by omega
          have y2' : (0 : Int) < (k : Int) := by omega
          have y3' : 0 < k := by omega
          have y4' : decide (0 < k) = true := by simpa using y3'
          have y5' : decide ((0 : Int) < (k : Int)) = true := by simpa using y3'
          have HJK := Lib.hid hjk
          clear d0 d1 d2 d3 hk0 hjk
          rcases Bool.eq_false_or_eq_true (R.ahead l[j] l[k]) with ha | ha
          · have HAH := Lib.hid (show ∀ W : World, Below w.heap.size w W → Calls Tryz.prog 134 #[.agg #[.string y0, .int .i64 y1, .bool y2, .int .i64 y3], .agg #[.string x0, .int .i64 x1, .bool x2, .int .i64 x3]] W fun e w' => e = .returned (.bool true) ∧ Below w.heap.size w w' from fun W hW => by have h := aheadS y0 x0 y1 x1 y2 x2 y3 x3 W; rw [show (⟨y0, y1, y2, y3⟩ : En) = l[j] by rw [hy0, hy1, hy2, hy3], show (⟨x0, x1, x2, x3⟩ : En) = l[k] by rw [hx0, hx1, hx2, hx3], ha] at h; exact h.mono fun _ _ ⟨he, hb⟩ => ⟨he, hW.trans (hb.mono hW.size)⟩)
            have HA := Lib.hid ha
            clear hx0 hx1 hx2 hx3 hy0 hy1 hy2 hy3 HS1 ha
            go_wp2_with fail
            refine wp_region_held_drew (S := (fun W : World => W.cell? ⟨kb, ko + j * 4, none⟩ = some (.string y0) ∧ W.cell? ⟨kb, ko + j * 4 + 1, none⟩ = some (.int .i64 y1) ∧ W.cell? ⟨kb, ko + j * 4 + 2, none⟩ = some (.bool y2) ∧ W.cell? ⟨kb, ko + j * 4 + 3, none⟩ = some (.int .i64 y3) ∧ W.cell? ⟨kb, ko + k * 4, none⟩ = some (.string x0) ∧ W.cell? ⟨kb, ko + k * 4 + 1, none⟩ = some (.int .i64 x1) ∧ W.cell? ⟨kb, ko + k * 4 + 2, none⟩ = some (.bool x2) ∧ W.cell? ⟨kb, ko + k * 4 + 3, none⟩ = some (.int .i64 x3))) (by kernel_rfl) (HSS.out _ (by first | exact HB9.out | exact bel2 HBL.out (by rfl) (by rfl) (by rfl) (by rfl))) (fun hHeld => ?_)
            refine wpAnyH_takes (a' := ?a3_) [0, 1, 2, 3] (k := 4) rfl (by kernel_rfl) (by kernel_rfl) (fun _ _ _ _ _ h => h) ?t3_ (by assumption) ?r3_
            case t3_ =>
              iterate 4
                apply takes_cons rfl
                · first | (refine Or.inl ⟨by rfl, fun w9 hSw => ?_⟩; clear hSw; go_simp; (first | done | with_reducible rfl)) | (refine Or.inl ⟨by rfl, fun w9 hSw => ?_⟩; obtain ⟨g0, g1, g2, g3, f0, f1, f2, f3⟩ := hSw; go_simp; (first | done | with_reducible rfl))
                (try simp only [Act.put]); (try simp only [List.setIfInBounds_toArray]); (try simp only [List.set_cons_succ]); (try simp only [List.set_cons_zero])
              exact takes_nil
            refine wpAnyH_ready (rs := [4]) (by kernel_rfl) (by simp) ?_
            refine AllReadyH.cons (o := { dst := Option.some 14, op := Go.Op.call { callee := Go.Callee.value (Go.Operand.func 133), args := #[Go.Operand.tmp 13], argTypes := #[83] }, type := 4, pos := "l11_run.go:18", after := #[{ on := 3, ground := Go.Ground.data }], guard := Option.none }) rfl (fun K hK => ?_) AllReadyH.nil
            go_simp
            (go_at_call 133; refine Calls.mono (HOK.out _ (by first | exact HB9.out | exact bel2 HBL.out (by rfl) (by rfl) (by rfl) (by rfl))) ?_; rintro e w9 ⟨rfl, hb9⟩; have HB9 := Lib.hid hb9; clear hb9)
            (try go_wp2_with fail)
            refine hK.out _ _ (HSS.out _ (by first | exact HB9.out | exact bel2 HBL.out (by rfl) (by rfl) (by rfl) (by rfl))) (fun hHeld => ?_)
            clear hK K
            (try simp only [Act.put]); (try simp only [List.setIfInBounds_toArray]); (try simp only [List.set_cons_succ]); (try simp only [List.set_cons_zero])
            refine wpAnyH_takes (a' := ?a4_) [5, 6, 7, 8, 9, 10, 11, 12, 13, 14, 15, 16, 17, 18] (k := 14) rfl (by kernel_rfl) (by kernel_rfl) (fun _ _ _ _ _ h => h) ?t4_ (by assumption) ?r4_
            case t4_ =>
              iterate 14
                apply takes_cons rfl
                · first | (refine Or.inl ⟨by rfl, fun w9 hSw => ?_⟩; clear hSw; go_simp; (first | done | with_reducible rfl)) | (refine Or.inl ⟨by rfl, fun w9 hSw => ?_⟩; obtain ⟨g0, g1, g2, g3, f0, f1, f2, f3⟩ := hSw; go_simp; (first | done | with_reducible rfl))
                (try simp only [Act.put]); (try simp only [List.setIfInBounds_toArray]); (try simp only [List.set_cons_succ]); (try simp only [List.set_cons_zero])
              exact takes_nil
            refine wpAnyH_ready (rs := [19]) (by kernel_rfl) (by simp) ?_
            refine AllReadyH.cons (o := { dst := Option.some 29, op := Go.Op.call { callee := Go.Callee.value (Go.Operand.func 134), args := #[Go.Operand.tmp 24, Go.Operand.tmp 28], argTypes := #[83, 83] }, type := 4, pos := "l11_run.go:18", after := #[{ on := 14, ground := Go.Ground.data }, { on := 18, ground := Go.Ground.data }, { on := 9, ground := Go.Ground.chain }, { on := 9, ground := Go.Ground.guard }], guard := Option.some (9, Bool.true) }) rfl (fun K hK => ?_) AllReadyH.nil
            go_simp
            (go_at_call 134; refine Calls.mono (HAH.out _ (by first | exact HB9.out | exact bel2 HBL.out (by rfl) (by rfl) (by rfl) (by rfl))) ?_; rintro e w9 ⟨rfl, hb9⟩; have HB9 := Lib.hid hb9; clear hb9)
            (try go_wp2_with fail)
            refine hK.out _ _ (HSS.out _ (by first | exact HB9.out | exact bel2 HBL.out (by rfl) (by rfl) (by rfl) (by rfl))) (fun hHeld => ?_)
            clear hK K
            (try simp only [Act.put]); (try simp only [List.setIfInBounds_toArray]); (try simp only [List.set_cons_succ]); (try simp only [List.set_cons_zero])
            refine wpAnyH_takes (a' := ?a5_) [20, 21, 22] (k := 3) rfl (by kernel_rfl) (by kernel_rfl) (fun _ _ _ _ _ h => h) ?t5_ (by assumption) ?r5_
            case t5_ =>
              iterate 3
                apply takes_cons rfl
                · first | (refine Or.inl ⟨by rfl, fun w9 hSw => ?_⟩; clear hSw; go_simp; (first | done | with_reducible rfl))
                (try simp only [Act.put]); (try simp only [List.setIfInBounds_toArray]); (try simp only [List.set_cons_succ]); (try simp only [List.set_cons_zero])
              exact takes_nil
            refine wpAnyH_done (by kernel_rfl) ?_ _
            go_wp2
            go_roundw
            case rel => exact ⟨k + 1, by omega, by go_num, goodE_succ2 HJK.out HG.out hlt HO.out HA.out, HB9.out⟩
            case measure => simp [intOf]; omega
          · have HAH := Lib.hid (show ∀ W : World, Below w.heap.size w W → Calls Tryz.prog 134 #[.agg #[.string y0, .int .i64 y1, .bool y2, .int .i64 y3], .agg #[.string x0, .int .i64 x1, .bool x2, .int .i64 x3]] W fun e w' => e = .returned (.bool false) ∧ Below w.heap.size w w' from fun W hW => by have h := aheadS y0 x0 y1 x1 y2 x2 y3 x3 W; rw [show (⟨y0, y1, y2, y3⟩ : En) = l[j] by rw [hy0, hy1, hy2, hy3], show (⟨x0, x1, x2, x3⟩ : En) = l[k] by rw [hx0, hx1, hx2, hx3], ha] at h; exact h.mono fun _ _ ⟨he, hb⟩ => ⟨he, hW.trans (hb.mono hW.size)⟩)
            have HRB := Lib.hid (badE_ord2 HJK.out hlt ha)
            clear hx0 hx1 hx2 hx3 hy0 hy1 hy2 hy3 HS1 ha
            go_wp2_with fail
            refine wp_region_held_drew (S := (fun W : World => W.cell? ⟨kb, ko + j * 4, none⟩ = some (.string y0) ∧ W.cell? ⟨kb, ko + j * 4 + 1, none⟩ = some (.int .i64 y1) ∧ W.cell? ⟨kb, ko + j * 4 + 2, none⟩ = some (.bool y2) ∧ W.cell? ⟨kb, ko + j * 4 + 3, none⟩ = some (.int .i64 y3) ∧ W.cell? ⟨kb, ko + k * 4, none⟩ = some (.string x0) ∧ W.cell? ⟨kb, ko + k * 4 + 1, none⟩ = some (.int .i64 x1) ∧ W.cell? ⟨kb, ko + k * 4 + 2, none⟩ = some (.bool x2) ∧ W.cell? ⟨kb, ko + k * 4 + 3, none⟩ = some (.int .i64 x3))) (by kernel_rfl) (HSS.out _ (by first | exact HB9.out | exact bel2 HBL.out (by rfl) (by rfl) (by rfl) (by rfl))) (fun hHeld => ?_)
            refine wpAnyH_takes (a' := ?a6_) [0, 1, 2, 3] (k := 4) rfl (by kernel_rfl) (by kernel_rfl) (fun _ _ _ _ _ h => h) ?t6_ (by assumption) ?r6_
            case t6_ =>
              iterate 4
                apply takes_cons rfl
                · first | (refine Or.inl ⟨by rfl, fun w9 hSw => ?_⟩; clear hSw; go_simp; (first | done | with_reducible rfl)) | (refine Or.inl ⟨by rfl, fun w9 hSw => ?_⟩; obtain ⟨g0, g1, g2, g3, f0, f1, f2, f3⟩ := hSw; go_simp; (first | done | with_reducible rfl))
                (try simp only [Act.put]); (try simp only [List.setIfInBounds_toArray]); (try simp only [List.set_cons_succ]); (try simp only [List.set_cons_zero])
              exact takes_nil
            refine wpAnyH_ready (rs := [4]) (by kernel_rfl) (by simp) ?_
            refine AllReadyH.cons (o := { dst := Option.some 14, op := Go.Op.call { callee := Go.Callee.value (Go.Operand.func 133), args := #[Go.Operand.tmp 13], argTypes := #[83] }, type := 4, pos := "l11_run.go:18", after := #[{ on := 3, ground := Go.Ground.data }], guard := Option.none }) rfl (fun K hK => ?_) AllReadyH.nil
            go_simp
            (go_at_call 133; refine Calls.mono (HOK.out _ (by first | exact HB9.out | exact bel2 HBL.out (by rfl) (by rfl) (by rfl) (by rfl))) ?_; rintro e w9 ⟨rfl, hb9⟩; have HB9 := Lib.hid hb9; clear hb9)
            (try go_wp2_with fail)
            refine hK.out _ _ (HSS.out _ (by first | exact HB9.out | exact bel2 HBL.out (by rfl) (by rfl) (by rfl) (by rfl))) (fun hHeld => ?_)
            clear hK K
            (try simp only [Act.put]); (try simp only [List.setIfInBounds_toArray]); (try simp only [List.set_cons_succ]); (try simp only [List.set_cons_zero])
            refine wpAnyH_takes (a' := ?a7_) [5, 6, 7, 8, 9, 10, 11, 12, 13, 14, 15, 16, 17, 18] (k := 14) rfl (by kernel_rfl) (by kernel_rfl) (fun _ _ _ _ _ h => h) ?t7_ (by assumption) ?r7_
            case t7_ =>
              iterate 14
                apply takes_cons rfl
                · first | (refine Or.inl ⟨by rfl, fun w9 hSw => ?_⟩; clear hSw; go_simp; (first | done | with_reducible rfl)) | (refine Or.inl ⟨by rfl, fun w9 hSw => ?_⟩; obtain ⟨g0, g1, g2, g3, f0, f1, f2, f3⟩ := hSw; go_simp; (first | done | with_reducible rfl))
                (try simp only [Act.put]); (try simp only [List.setIfInBounds_toArray]); (try simp only [List.set_cons_succ]); (try simp only [List.set_cons_zero])
              exact takes_nil
            refine wpAnyH_ready (rs := [19]) (by kernel_rfl) (by simp) ?_
            refine AllReadyH.cons (o := { dst := Option.some 29, op := Go.Op.call { callee := Go.Callee.value (Go.Operand.func 134), args := #[Go.Operand.tmp 24, Go.Operand.tmp 28], argTypes := #[83, 83] }, type := 4, pos := "l11_run.go:18", after := #[{ on := 14, ground := Go.Ground.data }, { on := 18, ground := Go.Ground.data }, { on := 9, ground := Go.Ground.chain }, { on := 9, ground := Go.Ground.guard }], guard := Option.some (9, Bool.true) }) rfl (fun K hK => ?_) AllReadyH.nil
            go_simp
            (go_at_call 134; refine Calls.mono (HAH.out _ (by first | exact HB9.out | exact bel2 HBL.out (by rfl) (by rfl) (by rfl) (by rfl))) ?_; rintro e w9 ⟨rfl, hb9⟩; have HB9 := Lib.hid hb9; clear hb9)
            (try go_wp2_with fail)
            refine hK.out _ _ (HSS.out _ (by first | exact HB9.out | exact bel2 HBL.out (by rfl) (by rfl) (by rfl) (by rfl))) (fun hHeld => ?_)
            clear hK K
            (try simp only [Act.put]); (try simp only [List.setIfInBounds_toArray]); (try simp only [List.set_cons_succ]); (try simp only [List.set_cons_zero])
            refine wpAnyH_takes (a' := ?a8_) [20, 21, 22] (k := 3) rfl (by kernel_rfl) (by kernel_rfl) (fun _ _ _ _ _ h => h) ?t8_ (by assumption) ?r8_
            case t8_ =>
              iterate 3
                apply takes_cons rfl
                · first | (refine Or.inl ⟨by rfl, fun w9 hSw => ?_⟩; clear hSw; go_simp; (first | done | with_reducible rfl))
                (try simp only [Act.put]); (try simp only [List.setIfInBounds_toArray]); (try simp only [List.set_cons_succ]); (try simp only [List.set_cons_zero])
              exact takes_nil
            refine wpAnyH_done (by kernel_rfl) ?_ _
            go_wp2
            go_ret
            exact ⟨by rw [HRB.out]; rfl, HB9.out⟩
      · have HOK := Lib.hid (show ∀ W : World, Below w.heap.size w W → Calls Tryz.prog 133 #[.agg #[.string x0, .int .i64 x1, .bool x2, .int .i64 x3]] W fun e w' => e = .returned (.bool false) ∧ Below w.heap.size w w' from fun W hW => by have h := okEs x0 x1 x2 x3 W (by rw [hx0]; exact hf _ (List.getElem_mem hlt)); rw [show (⟨x0, x1, x2, x3⟩ : En) = l[k] by rw [hx0, hx1, hx2, hx3], ho] at h; exact h.mono fun _ _ ⟨he, hb⟩ => ⟨he, hW.trans (hb.mono hW.size)⟩)
        have HRB := Lib.hid (badE_ok hlt ho)
        have HSS := Lib.hid HS1.out
        clear hx0 hx1 hx2 hx3 HS1 ho
        go_wp2_with fail
        refine wp_region_held_drew (S := (fun W : World => W.cell? ⟨kb, ko + k * 4, none⟩ = some (.string x0) ∧ W.cell? ⟨kb, ko + k * 4 + 1, none⟩ = some (.int .i64 x1) ∧ W.cell? ⟨kb, ko + k * 4 + 2, none⟩ = some (.bool x2) ∧ W.cell? ⟨kb, ko + k * 4 + 3, none⟩ = some (.int .i64 x3))) (by kernel_rfl) (HSS.out _ (by first | exact HB9.out | exact bel2 HBL.out (by rfl) (by rfl) (by rfl) (by rfl))) (fun hHeld => ?_)
        refine wpAnyH_takes (a' := ?a9_) [0, 1, 2, 3] (k := 4) rfl (by kernel_rfl) (by kernel_rfl) (fun _ _ _ _ _ h => h) ?t9_ (by assumption) ?r9_
        case t9_ =>
          iterate 4
            apply takes_cons rfl
            · first | (refine Or.inl ⟨by rfl, fun w9 hSw => ?_⟩; clear hSw; go_simp; (first | done | with_reducible rfl)) | (refine Or.inl ⟨by rfl, fun w9 hSw => ?_⟩; obtain ⟨f0, f1, f2, f3⟩ := hSw; go_simp; (first | done | with_reducible rfl))
            (try simp only [Act.put]); (try simp only [List.setIfInBounds_toArray]); (try simp only [List.set_cons_succ]); (try simp only [List.set_cons_zero])
          exact takes_nil
        refine wpAnyH_ready (rs := [4]) (by kernel_rfl) (by simp) ?_
        refine AllReadyH.cons (o := { dst := Option.some 14, op := Go.Op.call { callee := Go.Callee.value (Go.Operand.func 133), args := #[Go.Operand.tmp 13], argTypes := #[83] }, type := 4, pos := "l11_run.go:18", after := #[{ on := 3, ground := Go.Ground.data }], guard := Option.none }) rfl (fun K hK => ?_) AllReadyH.nil
        go_simp
        (go_at_call 133; refine Calls.mono (HOK.out _ (by first | exact HB9.out | exact bel2 HBL.out (by rfl) (by rfl) (by rfl) (by rfl))) ?_; rintro e w9 ⟨rfl, hb9⟩; have HB9 := Lib.hid hb9; clear hb9)
        (try go_wp2_with fail)
        refine hK.out _ _ (HSS.out _ (by first | exact HB9.out | exact bel2 HBL.out (by rfl) (by rfl) (by rfl) (by rfl))) (fun hHeld => ?_)
        clear hK K
        (try simp only [Act.put]); (try simp only [List.setIfInBounds_toArray]); (try simp only [List.set_cons_succ]); (try simp only [List.set_cons_zero])
        refine wpAnyH_takes (a' := ?a10_) [5, 6, 7, 8, 9, 10, 11, 12, 13, 14, 15, 16, 17, 18, 19, 20, 21, 22] (k := 18) rfl (by kernel_rfl) (by kernel_rfl) (fun _ _ _ _ _ h => h) ?t10_ (by assumption) ?r10_
        case t10_ =>
          iterate 18
            apply takes_cons rfl
            · first | (refine Or.inl ⟨by rfl, fun w9 hSw => ?_⟩; clear hSw; go_simp; (first | done | with_reducible rfl)) | exact Or.inr ⟨by rfl, rfl⟩
            (try simp only [Act.put]); (try simp only [List.setIfInBounds_toArray]); (try simp only [List.set_cons_succ]); (try simp only [List.set_cons_zero])
          exact takes_nil
        refine wpAnyH_done (by kernel_rfl) ?_ _
        go_wp2
        go_ret
        exact ⟨by rw [HRB.out]; rfl, HB9.out⟩
    · have hke : k = l.length := by omega
      subst hke
      have HE := Lib.hid (goodE_end HG.out)
      by_cases h40 : l.length ≤ 40
      · have h4 : (l.length : Int) ≤ 40 := by omega
        go_wp2
        go_ret
        exact ⟨by rw [HE.out]; simp [h40], HBL.out⟩
      · have h4 : ¬ (l.length : Int) ≤ 40 := by omega
        go_wp2
        go_ret
        exact ⟨by rw [HE.out]; simp [h40], HBL.out⟩

end Go.Proofs.YtfhpkcamigkmdaaGreatDoor.W
