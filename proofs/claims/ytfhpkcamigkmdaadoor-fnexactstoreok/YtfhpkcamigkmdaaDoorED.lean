/-
  The keys of a run, the model's and the program's.
-/
import Derived.Test.YtfhpkcamigkmdaaDoorE5
import Derived.Test.YtfhpkcamigkmdaaDoorJ3
import Derived.Deep.RegionHeld
namespace Go.Proofs.YtfhpkcamigkmdaaDoor.W
open Go.RowKit K R

theorem new_zero (l : List En) : newAt l 0 = true := rfl
theorem new_pos {l : List En} {j k : Nat} (hj : j + 1 = k) (h : k < l.length) : newAt l k = !((l[j]'(by omega)).key.toList == l[k].key.toList) := by
  subst hj
  unfold newAt
  rw [decide_eq_false (by omega), Bool.false_or, en_at h, Nat.add_sub_cancel, en_at (by omega)]
  rfl
theorem key_at {l : List En} {k : Nat} (h : k < l.length) : (en l k).key = l[k].key := by rw [en_at h]

set_option maxHeartbeats 4000000 in
set_option maxRecDepth 100000 in
theorem followsI (w : World) (B n c k : Nat) (A : Option Addr) (l : List En) (hr : Ents w B A n l) (hn : n ≤ maxLen) (hk : k < l.length) :
    Calls Tryd.prog 70 #[.slice A n c, .int .i64 k] w fun e w' => e = .returned (.bool (!newAt l k)) ∧ Same w w' := by
  have hlen := hr.len
  subst hlen
  unfold maxLen at hn
  have HR := Lib.hid hr
  clear hr
  by_cases hk0 : k = 0
  · subst hk0
    go_enter Tryd.func70, Tryd.ntmps70
    go_wp2_with fail
    refine wp_region_held_drew (S := (fun _ : World => True)) (by kernel_rfl) (trivial) (fun hHeld => ?_)
    refine wpAnyH_take (i := 0) (oi := { dst := Option.some 5, op := Go.Op.move (Go.Operand.tmp 1), type := 3, pos := "l11_run.go:154", after := #[], guard := Option.none }) (v := ?v1) rfl (by kernel_rfl) (by kernel_rfl) (by kernel_rfl) (fun _ _ _ h => h) (Or.inl ⟨by rfl, ?hy1⟩) (by assumption) ?rest1
    case hy1 =>
      intro w9 hSw
      clear hSw
      go_simp
      first | done | with_reducible rfl
    (try simp only [Act.put]); (try simp only [List.setIfInBounds_toArray]); (try simp only [List.set_cons_succ]); (try simp only [List.set_cons_zero])
    refine wpAnyH_take (i := 1) (oi := { dst := Option.some 6, op := Go.Op.binOp Go.BinOp.gtr 3 (Go.Operand.tmp 5) (Go.Operand.const (Go.Value.int Go.IntKind.i64 0)) 3, type := 4, pos := "l11_run.go:154", after := #[{ on := 0, ground := Go.Ground.data }], guard := Option.none }) (v := ?v2) rfl (by kernel_rfl) (by kernel_rfl) (by kernel_rfl) (fun _ _ _ h => h) (Or.inl ⟨by rfl, ?hy2⟩) (by assumption) ?rest2
    case hy2 =>
      intro w9 hSw
      clear hSw
      go_simp
      first | done | with_reducible rfl
    (try simp only [Act.put]); (try simp only [List.setIfInBounds_toArray]); (try simp only [List.set_cons_succ]); (try simp only [List.set_cons_zero])
    refine wpAnyH_take (i := 2) (oi := { dst := Option.some 7, op := Go.Op.move (Go.Operand.tmp 6), type := 4, pos := "l11_run.go:154", after := #[{ on := 1, ground := Go.Ground.data }], guard := Option.none }) (v := ?v3) rfl (by kernel_rfl) (by kernel_rfl) (by kernel_rfl) (fun _ _ _ h => h) (Or.inl ⟨by rfl, ?hy3⟩) (by assumption) ?rest3
    case hy3 =>
      intro w9 hSw
      clear hSw
      go_simp
      first | done | with_reducible rfl
    (try simp only [Act.put]); (try simp only [List.setIfInBounds_toArray]); (try simp only [List.set_cons_succ]); (try simp only [List.set_cons_zero])
    refine wpAnyH_take (i := 3) (oi := { dst := Option.some 8, op := Go.Op.move (Go.Operand.tmp 0), type := 22, pos := "l11_run.go:154", after := #[{ on := 2, ground := Go.Ground.guard }], guard := Option.some (2, Bool.true) }) (v := undef) rfl (by kernel_rfl) (by kernel_rfl) (by kernel_rfl) (fun _ _ _ h => h) (Or.inr ⟨by rfl, rfl⟩) (by assumption) ?_
    (try simp only [Act.put]); (try simp only [List.setIfInBounds_toArray]); (try simp only [List.set_cons_succ]); (try simp only [List.set_cons_zero])
    refine wpAnyH_take (i := 4) (oi := { dst := Option.some 9, op := Go.Op.move (Go.Operand.tmp 1), type := 3, pos := "l11_run.go:154", after := #[{ on := 2, ground := Go.Ground.guard }], guard := Option.some (2, Bool.true) }) (v := undef) rfl (by kernel_rfl) (by kernel_rfl) (by kernel_rfl) (fun _ _ _ h => h) (Or.inr ⟨by rfl, rfl⟩) (by assumption) ?_
    (try simp only [Act.put]); (try simp only [List.setIfInBounds_toArray]); (try simp only [List.set_cons_succ]); (try simp only [List.set_cons_zero])
    refine wpAnyH_take (i := 5) (oi := { dst := Option.some 10, op := Go.Op.binOp Go.BinOp.sub 3 (Go.Operand.tmp 9) (Go.Operand.const (Go.Value.int Go.IntKind.i64 1)) 3, type := 3, pos := "l11_run.go:154", after := #[{ on := 4, ground := Go.Ground.data }, { on := 2, ground := Go.Ground.guard }], guard := Option.some (2, Bool.true) }) (v := undef) rfl (by kernel_rfl) (by kernel_rfl) (by kernel_rfl) (fun _ _ _ h => h) (Or.inr ⟨by rfl, rfl⟩) (by assumption) ?_
    (try simp only [Act.put]); (try simp only [List.setIfInBounds_toArray]); (try simp only [List.set_cons_succ]); (try simp only [List.set_cons_zero])
    refine wpAnyH_take (i := 6) (oi := { dst := Option.some 11, op := Go.Op.indexAddr 22 (Go.Operand.tmp 8) (Go.Operand.tmp 10), type := 0, pos := "l11_run.go:154", after := #[{ on := 3, ground := Go.Ground.data }, { on := 5, ground := Go.Ground.data }, { on := 2, ground := Go.Ground.guard }], guard := Option.some (2, Bool.true) }) (v := undef) rfl (by kernel_rfl) (by kernel_rfl) (by kernel_rfl) (fun _ _ _ h => h) (Or.inr ⟨by rfl, rfl⟩) (by assumption) ?_
    (try simp only [Act.put]); (try simp only [List.setIfInBounds_toArray]); (try simp only [List.set_cons_succ]); (try simp only [List.set_cons_zero])
    refine wpAnyH_take (i := 7) (oi := { dst := Option.some 12, op := Go.Op.fieldAddr 83 (Go.Operand.tmp 11) 0, type := 0, pos := "l11_run.go:154", after := #[{ on := 6, ground := Go.Ground.data }, { on := 2, ground := Go.Ground.guard }], guard := Option.some (2, Bool.true) }) (v := undef) rfl (by kernel_rfl) (by kernel_rfl) (by kernel_rfl) (fun _ _ _ h => h) (Or.inr ⟨by rfl, rfl⟩) (by assumption) ?_
    (try simp only [Act.put]); (try simp only [List.setIfInBounds_toArray]); (try simp only [List.set_cons_succ]); (try simp only [List.set_cons_zero])
    refine wpAnyH_take (i := 8) (oi := { dst := Option.some 13, op := Go.Op.load 9 (Go.Operand.tmp 12), type := 9, pos := "l11_run.go:154", after := #[{ on := 7, ground := Go.Ground.data }, { on := 2, ground := Go.Ground.guard }], guard := Option.some (2, Bool.true) }) (v := undef) rfl (by kernel_rfl) (by kernel_rfl) (by kernel_rfl) (fun _ _ _ h => h) (Or.inr ⟨by rfl, rfl⟩) (by assumption) ?_
    (try simp only [Act.put]); (try simp only [List.setIfInBounds_toArray]); (try simp only [List.set_cons_succ]); (try simp only [List.set_cons_zero])
    refine wpAnyH_take (i := 9) (oi := { dst := Option.some 14, op := Go.Op.move (Go.Operand.tmp 0), type := 22, pos := "l11_run.go:154", after := #[{ on := 2, ground := Go.Ground.guard }], guard := Option.some (2, Bool.true) }) (v := undef) rfl (by kernel_rfl) (by kernel_rfl) (by kernel_rfl) (fun _ _ _ h => h) (Or.inr ⟨by rfl, rfl⟩) (by assumption) ?_
    (try simp only [Act.put]); (try simp only [List.setIfInBounds_toArray]); (try simp only [List.set_cons_succ]); (try simp only [List.set_cons_zero])
    refine wpAnyH_take (i := 10) (oi := { dst := Option.some 15, op := Go.Op.move (Go.Operand.tmp 1), type := 3, pos := "l11_run.go:154", after := #[{ on := 2, ground := Go.Ground.guard }], guard := Option.some (2, Bool.true) }) (v := undef) rfl (by kernel_rfl) (by kernel_rfl) (by kernel_rfl) (fun _ _ _ h => h) (Or.inr ⟨by rfl, rfl⟩) (by assumption) ?_
    (try simp only [Act.put]); (try simp only [List.setIfInBounds_toArray]); (try simp only [List.set_cons_succ]); (try simp only [List.set_cons_zero])
    refine wpAnyH_take (i := 11) (oi := { dst := Option.some 16, op := Go.Op.indexAddr 22 (Go.Operand.tmp 14) (Go.Operand.tmp 15), type := 0, pos := "l11_run.go:154", after := #[{ on := 9, ground := Go.Ground.data }, { on := 10, ground := Go.Ground.data }, { on := 2, ground := Go.Ground.guard }], guard := Option.some (2, Bool.true) }) (v := undef) rfl (by kernel_rfl) (by kernel_rfl) (by kernel_rfl) (fun _ _ _ h => h) (Or.inr ⟨by rfl, rfl⟩) (by assumption) ?_
    (try simp only [Act.put]); (try simp only [List.setIfInBounds_toArray]); (try simp only [List.set_cons_succ]); (try simp only [List.set_cons_zero])
    refine wpAnyH_take (i := 12) (oi := { dst := Option.some 17, op := Go.Op.fieldAddr 83 (Go.Operand.tmp 16) 0, type := 0, pos := "l11_run.go:154", after := #[{ on := 11, ground := Go.Ground.data }, { on := 2, ground := Go.Ground.guard }], guard := Option.some (2, Bool.true) }) (v := undef) rfl (by kernel_rfl) (by kernel_rfl) (by kernel_rfl) (fun _ _ _ h => h) (Or.inr ⟨by rfl, rfl⟩) (by assumption) ?_
    (try simp only [Act.put]); (try simp only [List.setIfInBounds_toArray]); (try simp only [List.set_cons_succ]); (try simp only [List.set_cons_zero])
    refine wpAnyH_take (i := 13) (oi := { dst := Option.some 18, op := Go.Op.load 9 (Go.Operand.tmp 17), type := 9, pos := "l11_run.go:154", after := #[{ on := 12, ground := Go.Ground.data }, { on := 2, ground := Go.Ground.guard }], guard := Option.some (2, Bool.true) }) (v := undef) rfl (by kernel_rfl) (by kernel_rfl) (by kernel_rfl) (fun _ _ _ h => h) (Or.inr ⟨by rfl, rfl⟩) (by assumption) ?_
    (try simp only [Act.put]); (try simp only [List.setIfInBounds_toArray]); (try simp only [List.set_cons_succ]); (try simp only [List.set_cons_zero])
    refine wpAnyH_take (i := 14) (oi := { dst := Option.some 19, op := Go.Op.binOp Go.BinOp.eql 9 (Go.Operand.tmp 13) (Go.Operand.tmp 18) 9, type := 4, pos := "l11_run.go:154", after := #[{ on := 8, ground := Go.Ground.data }, { on := 13, ground := Go.Ground.data }, { on := 2, ground := Go.Ground.guard }], guard := Option.some (2, Bool.true) }) (v := undef) rfl (by kernel_rfl) (by kernel_rfl) (by kernel_rfl) (fun _ _ _ h => h) (Or.inr ⟨by rfl, rfl⟩) (by assumption) ?_
    (try simp only [Act.put]); (try simp only [List.setIfInBounds_toArray]); (try simp only [List.set_cons_succ]); (try simp only [List.set_cons_zero])
    refine wpAnyH_take (i := 15) (oi := { dst := Option.some 20, op := Go.Op.pick (Go.Operand.tmp 7) (Go.Operand.tmp 19) (Go.Operand.const (Go.Value.bool Bool.false)), type := 4, pos := "l11_run.go:154", after := #[{ on := 2, ground := Go.Ground.data }, { on := 14, ground := Go.Ground.data }], guard := Option.none }) (v := ?v4) rfl (by kernel_rfl) (by kernel_rfl) (by kernel_rfl) (fun _ _ _ h => h) (Or.inl ⟨by rfl, ?hy4⟩) (by assumption) ?rest4
    case hy4 =>
      intro w9 hSw
      clear hSw
      go_simp
      first | done | with_reducible rfl
    (try simp only [Act.put]); (try simp only [List.setIfInBounds_toArray]); (try simp only [List.set_cons_succ]); (try simp only [List.set_cons_zero])
    refine wpAnyH_take (i := 16) (oi := { dst := Option.some 4, op := Go.Op.assign (Go.Operand.tmp 20), type := 4, pos := "l11_run.go:154", after := #[{ on := 15, ground := Go.Ground.data }, { on := 2, ground := Go.Ground.chain }, { on := 0, ground := Go.Ground.phase }, { on := 1, ground := Go.Ground.phase }, { on := 2, ground := Go.Ground.phase }, { on := 3, ground := Go.Ground.phase }, { on := 4, ground := Go.Ground.phase }, { on := 5, ground := Go.Ground.phase }, { on := 6, ground := Go.Ground.phase }, { on := 7, ground := Go.Ground.phase }, { on := 8, ground := Go.Ground.phase }, { on := 9, ground := Go.Ground.phase }, { on := 10, ground := Go.Ground.phase }, { on := 11, ground := Go.Ground.phase }, { on := 12, ground := Go.Ground.phase }, { on := 13, ground := Go.Ground.phase }, { on := 14, ground := Go.Ground.phase }, { on := 15, ground := Go.Ground.phase }], guard := Option.none }) (v := ?v5) rfl (by kernel_rfl) (by kernel_rfl) (by kernel_rfl) (fun _ _ _ h => h) (Or.inl ⟨by rfl, ?hy5⟩) (by assumption) ?rest5
    case hy5 =>
      intro w9 hSw
      clear hSw
      go_simp
      first | done | with_reducible rfl
    (try simp only [Act.put]); (try simp only [List.setIfInBounds_toArray]); (try simp only [List.set_cons_succ]); (try simp only [List.set_cons_zero])
    refine wpAnyH_done (by kernel_rfl) ?_ _
    go_wp2
    go_ret
    exact ⟨by rw [new_zero]; rfl, ⟨1, rfl⟩⟩
  · obtain ⟨j, hjk⟩ : ∃ j, j + 1 = k := ⟨k - 1, by omega⟩
    have hjl : j < l.length := by omega
    obtain ⟨kb, ko, hA, hkb, c0, -⟩ := HR.out.cell k hk
    obtain ⟨jb, jo, hA2, hjb, d0, -⟩ := HR.out.cell j hjl
    subst hA
    injection hA2 with hA2
    injection hA2 with e1 e2
    subst e1 e2
    have HNE := Lib.hid (new_pos hjk hk)
    obtain ⟨x0, h0⟩ : ∃ y, y = l[k].key := ⟨_, rfl⟩
    obtain ⟨y0, g0⟩ : ∃ y, y = l[j].key := ⟨_, rfl⟩
    rw [← h0] at c0 HNE
    rw [← g0] at d0 HNE
    have hwr : IntKind.i64.wrap ((k : Int) - 1) = (j : Nat) := i64_n j (by omega) _ (by omega)
    have y0' : (0 : Int) ≤ (j : Int) := by omega
    have y1' : (j : Int) < (l.length : Int) := by omega
    have y2' : (0 : Int) < (k : Int) := by omega
    have y3' : 0 < k := by omega
    have y4' : decide (0 < k) = true := by simpa using y3'
    have y5' : decide ((0 : Int) < (k : Int)) = true := by simpa using y3'
    have z0 : (0 : Int) ≤ (k : Int) := by omega
    have z1 : (k : Int) < (l.length : Int) := by omega
    have HSS := Lib.hid (show (fun W : World => W.cell? ⟨kb, ko + j * 4, none⟩ = some (.string y0) ∧ W.cell? ⟨kb, ko + k * 4, none⟩ = some (.string x0)) w.drew from ⟨d0, c0⟩)
    obtain ⟨b, hb⟩ : ∃ b, (y0.toList == x0.toList) = b := ⟨_, rfl⟩
    rw [hb] at HNE
    clear c0 d0 h0 g0 hk0 hjk
    go_enter Tryd.func70, Tryd.ntmps70
    go_wp2_with fail
    refine wp_region_held_drew (S := (fun W : World => W.cell? ⟨kb, ko + j * 4, none⟩ = some (.string y0) ∧ W.cell? ⟨kb, ko + k * 4, none⟩ = some (.string x0))) (by kernel_rfl) (HSS.out) (fun hHeld => ?_)
    refine wpAnyH_take (i := 0) (oi := { dst := Option.some 5, op := Go.Op.move (Go.Operand.tmp 1), type := 3, pos := "l11_run.go:154", after := #[], guard := Option.none }) (v := ?v6) rfl (by kernel_rfl) (by kernel_rfl) (by kernel_rfl) (fun _ _ _ h => h) (Or.inl ⟨by rfl, ?hy6⟩) (by assumption) ?rest6
    case hy6 =>
      intro w9 hSw
      clear hSw
      go_simp
      first | done | with_reducible rfl
    (try simp only [Act.put]); (try simp only [List.setIfInBounds_toArray]); (try simp only [List.set_cons_succ]); (try simp only [List.set_cons_zero])
    refine wpAnyH_take (i := 1) (oi := { dst := Option.some 6, op := Go.Op.binOp Go.BinOp.gtr 3 (Go.Operand.tmp 5) (Go.Operand.const (Go.Value.int Go.IntKind.i64 0)) 3, type := 4, pos := "l11_run.go:154", after := #[{ on := 0, ground := Go.Ground.data }], guard := Option.none }) (v := ?v7) rfl (by kernel_rfl) (by kernel_rfl) (by kernel_rfl) (fun _ _ _ h => h) (Or.inl ⟨by rfl, ?hy7⟩) (by assumption) ?rest7
    case hy7 =>
      intro w9 hSw
      clear hSw
      go_simp
      first | done | with_reducible rfl
    (try simp only [Act.put]); (try simp only [List.setIfInBounds_toArray]); (try simp only [List.set_cons_succ]); (try simp only [List.set_cons_zero])
    refine wpAnyH_take (i := 2) (oi := { dst := Option.some 7, op := Go.Op.move (Go.Operand.tmp 6), type := 4, pos := "l11_run.go:154", after := #[{ on := 1, ground := Go.Ground.data }], guard := Option.none }) (v := ?v8) rfl (by kernel_rfl) (by kernel_rfl) (by kernel_rfl) (fun _ _ _ h => h) (Or.inl ⟨by rfl, ?hy8⟩) (by assumption) ?rest8
    case hy8 =>
      intro w9 hSw
      clear hSw
      go_simp
      first | done | with_reducible rfl
    (try simp only [Act.put]); (try simp only [List.setIfInBounds_toArray]); (try simp only [List.set_cons_succ]); (try simp only [List.set_cons_zero])
    refine wpAnyH_take (i := 3) (oi := { dst := Option.some 8, op := Go.Op.move (Go.Operand.tmp 0), type := 22, pos := "l11_run.go:154", after := #[{ on := 2, ground := Go.Ground.guard }], guard := Option.some (2, Bool.true) }) (v := ?v9) rfl (by kernel_rfl) (by kernel_rfl) (by kernel_rfl) (fun _ _ _ h => h) (Or.inl ⟨by rfl, ?hy9⟩) (by assumption) ?rest9
    case hy9 =>
      intro w9 hSw
      clear hSw
      go_simp
      first | done | with_reducible rfl
    (try simp only [Act.put]); (try simp only [List.setIfInBounds_toArray]); (try simp only [List.set_cons_succ]); (try simp only [List.set_cons_zero])
    refine wpAnyH_take (i := 4) (oi := { dst := Option.some 9, op := Go.Op.move (Go.Operand.tmp 1), type := 3, pos := "l11_run.go:154", after := #[{ on := 2, ground := Go.Ground.guard }], guard := Option.some (2, Bool.true) }) (v := ?v10) rfl (by kernel_rfl) (by kernel_rfl) (by kernel_rfl) (fun _ _ _ h => h) (Or.inl ⟨by rfl, ?hy10⟩) (by assumption) ?rest10
    case hy10 =>
      intro w9 hSw
      clear hSw
      go_simp
      first | done | with_reducible rfl
    (try simp only [Act.put]); (try simp only [List.setIfInBounds_toArray]); (try simp only [List.set_cons_succ]); (try simp only [List.set_cons_zero])
    refine wpAnyH_take (i := 5) (oi := { dst := Option.some 10, op := Go.Op.binOp Go.BinOp.sub 3 (Go.Operand.tmp 9) (Go.Operand.const (Go.Value.int Go.IntKind.i64 1)) 3, type := 3, pos := "l11_run.go:154", after := #[{ on := 4, ground := Go.Ground.data }, { on := 2, ground := Go.Ground.guard }], guard := Option.some (2, Bool.true) }) (v := ?v11) rfl (by kernel_rfl) (by kernel_rfl) (by kernel_rfl) (fun _ _ _ h => h) (Or.inl ⟨by rfl, ?hy11⟩) (by assumption) ?rest11
    case hy11 =>
      intro w9 hSw
      clear hSw
      go_simp
      first | done | with_reducible rfl
    (try simp only [Act.put]); (try simp only [List.setIfInBounds_toArray]); (try simp only [List.set_cons_succ]); (try simp only [List.set_cons_zero])
    refine wpAnyH_take (i := 6) (oi := { dst := Option.some 11, op := Go.Op.indexAddr 22 (Go.Operand.tmp 8) (Go.Operand.tmp 10), type := 0, pos := "l11_run.go:154", after := #[{ on := 3, ground := Go.Ground.data }, { on := 5, ground := Go.Ground.data }, { on := 2, ground := Go.Ground.guard }], guard := Option.some (2, Bool.true) }) (v := ?v12) rfl (by kernel_rfl) (by kernel_rfl) (by kernel_rfl) (fun _ _ _ h => h) (Or.inl ⟨by rfl, ?hy12⟩) (by assumption) ?rest12
    case hy12 =>
      intro w9 hSw
      clear hSw
      go_simp
      first | done | with_reducible rfl
    (try simp only [Act.put]); (try simp only [List.setIfInBounds_toArray]); (try simp only [List.set_cons_succ]); (try simp only [List.set_cons_zero])
    refine wpAnyH_take (i := 7) (oi := { dst := Option.some 12, op := Go.Op.fieldAddr 83 (Go.Operand.tmp 11) 0, type := 0, pos := "l11_run.go:154", after := #[{ on := 6, ground := Go.Ground.data }, { on := 2, ground := Go.Ground.guard }], guard := Option.some (2, Bool.true) }) (v := ?v13) rfl (by kernel_rfl) (by kernel_rfl) (by kernel_rfl) (fun _ _ _ h => h) (Or.inl ⟨by rfl, ?hy13⟩) (by assumption) ?rest13
    case hy13 =>
      intro w9 hSw
      clear hSw
      go_simp
      first | done | with_reducible rfl
    (try simp only [Act.put]); (try simp only [List.setIfInBounds_toArray]); (try simp only [List.set_cons_succ]); (try simp only [List.set_cons_zero])
    refine wpAnyH_take (i := 8) (oi := { dst := Option.some 13, op := Go.Op.load 9 (Go.Operand.tmp 12), type := 9, pos := "l11_run.go:154", after := #[{ on := 7, ground := Go.Ground.data }, { on := 2, ground := Go.Ground.guard }], guard := Option.some (2, Bool.true) }) (v := ?v14) rfl (by kernel_rfl) (by kernel_rfl) (by kernel_rfl) (fun _ _ _ h => h) (Or.inl ⟨by rfl, ?hy14⟩) (by assumption) ?rest14
    case hy14 =>
      intro w9 hSw
      obtain ⟨f0, f1⟩ := hSw
      go_simp
      first | done | with_reducible rfl
    (try simp only [Act.put]); (try simp only [List.setIfInBounds_toArray]); (try simp only [List.set_cons_succ]); (try simp only [List.set_cons_zero])
    refine wpAnyH_take (i := 9) (oi := { dst := Option.some 14, op := Go.Op.move (Go.Operand.tmp 0), type := 22, pos := "l11_run.go:154", after := #[{ on := 2, ground := Go.Ground.guard }], guard := Option.some (2, Bool.true) }) (v := ?v15) rfl (by kernel_rfl) (by kernel_rfl) (by kernel_rfl) (fun _ _ _ h => h) (Or.inl ⟨by rfl, ?hy15⟩) (by assumption) ?rest15
    case hy15 =>
      intro w9 hSw
      clear hSw
      go_simp
      first | done | with_reducible rfl
    (try simp only [Act.put]); (try simp only [List.setIfInBounds_toArray]); (try simp only [List.set_cons_succ]); (try simp only [List.set_cons_zero])
    refine wpAnyH_take (i := 10) (oi := { dst := Option.some 15, op := Go.Op.move (Go.Operand.tmp 1), type := 3, pos := "l11_run.go:154", after := #[{ on := 2, ground := Go.Ground.guard }], guard := Option.some (2, Bool.true) }) (v := ?v16) rfl (by kernel_rfl) (by kernel_rfl) (by kernel_rfl) (fun _ _ _ h => h) (Or.inl ⟨by rfl, ?hy16⟩) (by assumption) ?rest16
    case hy16 =>
      intro w9 hSw
      clear hSw
      go_simp
      first | done | with_reducible rfl
    (try simp only [Act.put]); (try simp only [List.setIfInBounds_toArray]); (try simp only [List.set_cons_succ]); (try simp only [List.set_cons_zero])
    refine wpAnyH_take (i := 11) (oi := { dst := Option.some 16, op := Go.Op.indexAddr 22 (Go.Operand.tmp 14) (Go.Operand.tmp 15), type := 0, pos := "l11_run.go:154", after := #[{ on := 9, ground := Go.Ground.data }, { on := 10, ground := Go.Ground.data }, { on := 2, ground := Go.Ground.guard }], guard := Option.some (2, Bool.true) }) (v := ?v17) rfl (by kernel_rfl) (by kernel_rfl) (by kernel_rfl) (fun _ _ _ h => h) (Or.inl ⟨by rfl, ?hy17⟩) (by assumption) ?rest17
    case hy17 =>
      intro w9 hSw
      clear hSw
      go_simp
      first | done | with_reducible rfl
    (try simp only [Act.put]); (try simp only [List.setIfInBounds_toArray]); (try simp only [List.set_cons_succ]); (try simp only [List.set_cons_zero])
    refine wpAnyH_take (i := 12) (oi := { dst := Option.some 17, op := Go.Op.fieldAddr 83 (Go.Operand.tmp 16) 0, type := 0, pos := "l11_run.go:154", after := #[{ on := 11, ground := Go.Ground.data }, { on := 2, ground := Go.Ground.guard }], guard := Option.some (2, Bool.true) }) (v := ?v18) rfl (by kernel_rfl) (by kernel_rfl) (by kernel_rfl) (fun _ _ _ h => h) (Or.inl ⟨by rfl, ?hy18⟩) (by assumption) ?rest18
    case hy18 =>
      intro w9 hSw
      clear hSw
      go_simp
      first | done | with_reducible rfl
    (try simp only [Act.put]); (try simp only [List.setIfInBounds_toArray]); (try simp only [List.set_cons_succ]); (try simp only [List.set_cons_zero])
    refine wpAnyH_take (i := 13) (oi := { dst := Option.some 18, op := Go.Op.load 9 (Go.Operand.tmp 17), type := 9, pos := "l11_run.go:154", after := #[{ on := 12, ground := Go.Ground.data }, { on := 2, ground := Go.Ground.guard }], guard := Option.some (2, Bool.true) }) (v := ?v19) rfl (by kernel_rfl) (by kernel_rfl) (by kernel_rfl) (fun _ _ _ h => h) (Or.inl ⟨by rfl, ?hy19⟩) (by assumption) ?rest19
    case hy19 =>
      intro w9 hSw
      obtain ⟨f0, f1⟩ := hSw
      go_simp
      first | done | with_reducible rfl
    (try simp only [Act.put]); (try simp only [List.setIfInBounds_toArray]); (try simp only [List.set_cons_succ]); (try simp only [List.set_cons_zero])
    refine wpAnyH_take (i := 14) (oi := { dst := Option.some 19, op := Go.Op.binOp Go.BinOp.eql 9 (Go.Operand.tmp 13) (Go.Operand.tmp 18) 9, type := 4, pos := "l11_run.go:154", after := #[{ on := 8, ground := Go.Ground.data }, { on := 13, ground := Go.Ground.data }, { on := 2, ground := Go.Ground.guard }], guard := Option.some (2, Bool.true) }) (v := ?v20) rfl (by kernel_rfl) (by kernel_rfl) (by kernel_rfl) (fun _ _ _ h => h) (Or.inl ⟨by rfl, ?hy20⟩) (by assumption) ?rest20
    case hy20 =>
      intro w9 hSw
      clear hSw
      go_simp
      first | done | with_reducible rfl
    (try simp only [Act.put]); (try simp only [List.setIfInBounds_toArray]); (try simp only [List.set_cons_succ]); (try simp only [List.set_cons_zero])
    refine wpAnyH_take (i := 15) (oi := { dst := Option.some 20, op := Go.Op.pick (Go.Operand.tmp 7) (Go.Operand.tmp 19) (Go.Operand.const (Go.Value.bool Bool.false)), type := 4, pos := "l11_run.go:154", after := #[{ on := 2, ground := Go.Ground.data }, { on := 14, ground := Go.Ground.data }], guard := Option.none }) (v := ?v21) rfl (by kernel_rfl) (by kernel_rfl) (by kernel_rfl) (fun _ _ _ h => h) (Or.inl ⟨by rfl, ?hy21⟩) (by assumption) ?rest21
    case hy21 =>
      intro w9 hSw
      clear hSw
      go_simp
      first | done | with_reducible rfl
    (try simp only [Act.put]); (try simp only [List.setIfInBounds_toArray]); (try simp only [List.set_cons_succ]); (try simp only [List.set_cons_zero])
    refine wpAnyH_take (i := 16) (oi := { dst := Option.some 4, op := Go.Op.assign (Go.Operand.tmp 20), type := 4, pos := "l11_run.go:154", after := #[{ on := 15, ground := Go.Ground.data }, { on := 2, ground := Go.Ground.chain }, { on := 0, ground := Go.Ground.phase }, { on := 1, ground := Go.Ground.phase }, { on := 2, ground := Go.Ground.phase }, { on := 3, ground := Go.Ground.phase }, { on := 4, ground := Go.Ground.phase }, { on := 5, ground := Go.Ground.phase }, { on := 6, ground := Go.Ground.phase }, { on := 7, ground := Go.Ground.phase }, { on := 8, ground := Go.Ground.phase }, { on := 9, ground := Go.Ground.phase }, { on := 10, ground := Go.Ground.phase }, { on := 11, ground := Go.Ground.phase }, { on := 12, ground := Go.Ground.phase }, { on := 13, ground := Go.Ground.phase }, { on := 14, ground := Go.Ground.phase }, { on := 15, ground := Go.Ground.phase }], guard := Option.none }) (v := ?v22) rfl (by kernel_rfl) (by kernel_rfl) (by kernel_rfl) (fun _ _ _ h => h) (Or.inl ⟨by rfl, ?hy22⟩) (by assumption) ?rest22
    case hy22 =>
      intro w9 hSw
      clear hSw
      go_simp
      first | done | with_reducible rfl
    (try simp only [Act.put]); (try simp only [List.setIfInBounds_toArray]); (try simp only [List.set_cons_succ]); (try simp only [List.set_cons_zero])
    refine wpAnyH_done (by kernel_rfl) ?_ _
    go_wp2
    go_ret
    exact ⟨by rw [HNE.out, Bool.not_not]; rfl, ⟨1, rfl⟩⟩

set_option maxHeartbeats 8000000 in
set_option maxRecDepth 100000 in
theorem keysOfS (w : World) (B n c : Nat) (A : Option Addr) (l : List En) (hr : Ents w B A n l) (hB : B ≤ w.heap.size) (hn : n ≤ 1073741824) :
    Calls Tryd.prog 56 #[.slice A n c] w (New w (keysL l)) := by
  have hlen := hr.len
  subst hlen
  have HR := Lib.hid hr
  clear hr
  have E5 := Lib.hid (Own.empty w w.heap.size (Nat.le_refl _))
  have G5 := Lib.hid ((Below.refl w.heap.size w).alloc (Nat.le_refl _) (.cells #[] 9))
  go_enter Tryd.func56, Tryd.ntmps56
  go_wp2_with fail
  go_loopw [3, 4] (fun s i wr => ∃ (k : Nat) (v : Value), k ≤ l.length ∧ i = .int .i64 (k : Nat) ∧ s = v ∧ Own wr w.heap.size v (keysUp l k) ∧ Below w.heap.size w wr) (fun _ i _ => l.length - (intOf i).toNat)
  case atStart => exact ⟨0, _, Nat.zero_le _, rfl, rfl, E5.out, G5.out⟩
  case round =>
    obtain ⟨k, s0, hk, rfl, hs0, ho, hbl⟩ := hrel
    have hs1 := hs0.symm
    clear hs0
    subst hs1
    have HO := Lib.hid ho
    have HBL := Lib.hid hbl
    clear ho hbl E5 G5
    by_cases hlt : k < l.length
    · obtain ⟨kb, ko, hA, hkb, c0, -⟩ := HR.out.cell k hlt
      subst hA
      obtain ⟨x0, h0⟩ : ∃ y, y = l[k].key := ⟨_, rfl⟩
      rw [← h0] at c0
      have HKE := Lib.hid (show (en l k).key = x0 by rw [key_at hlt, h0])
      have hkb' : kb < w.heap.size := Nat.lt_of_lt_of_le hkb hB
      have z0 : (0 : Int) ≤ (k : Int) := by omega
      have z1 : (k : Int) < (l.length : Int) := by omega
      by_cases hk0 : k = 0
      · subst hk0
        have HNW := Lib.hid (new_zero l)
        obtain ⟨wd, hwd⟩ : ∃ W, W = wr.drew := ⟨_, rfl⟩
        have HOD := Lib.hid (show Own wd w.heap.size s0 (keysUp l 0) by rw [hwd]; exact HO.out)
        have HBD := Lib.hid (show Below w.heap.size w wd by rw [hwd]; exact bel2 HBL.out rfl rfl rfl rfl)
        have r0 : wd.cell? ⟨kb, ko, none⟩ = some (.string x0) := by have h := (HBD.out.cell (p := ⟨kb, ko + 0 * 4, none⟩) hkb').trans c0; simpa using h
        have HWD := Lib.hid hwd
        have zz : (0 : Int) < (l.length : Int) := by omega
        clear c0 h0 hwd
        go_wp2_with fail
        refine wp_region_held_drew (S := (fun W : World => True)) (by kernel_rfl) (trivial) (fun hHeld => ?_)
        refine wpAnyH_take (i := 0) (oi := { dst := Option.some 12, op := Go.Op.move (Go.Operand.tmp 4), type := 3, pos := "l11_run.go:115", after := #[], guard := Option.none }) (v := ?v23) rfl (by kernel_rfl) (by kernel_rfl) (by kernel_rfl) (fun _ _ _ h => h) (Or.inl ⟨by rfl, ?hy23⟩) (by assumption) ?rest23
        case hy23 =>
          intro w9 hSw
          clear hSw
          go_simp
          first | done | with_reducible rfl
        (try simp only [Act.put]); (try simp only [List.setIfInBounds_toArray]); (try simp only [List.set_cons_succ]); (try simp only [List.set_cons_zero])
        refine wpAnyH_take (i := 1) (oi := { dst := Option.some 13, op := Go.Op.binOp Go.BinOp.eql 3 (Go.Operand.tmp 12) (Go.Operand.const (Go.Value.int Go.IntKind.i64 0)) 3, type := 4, pos := "l11_run.go:115", after := #[{ on := 0, ground := Go.Ground.data }], guard := Option.none }) (v := ?v24) rfl (by kernel_rfl) (by kernel_rfl) (by kernel_rfl) (fun _ _ _ h => h) (Or.inl ⟨by rfl, ?hy24⟩) (by assumption) ?rest24
        case hy24 =>
          intro w9 hSw
          clear hSw
          go_simp
          first | done | with_reducible rfl
        (try simp only [Act.put]); (try simp only [List.setIfInBounds_toArray]); (try simp only [List.set_cons_succ]); (try simp only [List.set_cons_zero])
        refine wpAnyH_take (i := 2) (oi := { dst := Option.some 14, op := Go.Op.move (Go.Operand.tmp 13), type := 4, pos := "l11_run.go:115", after := #[{ on := 1, ground := Go.Ground.data }], guard := Option.none }) (v := ?v25) rfl (by kernel_rfl) (by kernel_rfl) (by kernel_rfl) (fun _ _ _ h => h) (Or.inl ⟨by rfl, ?hy25⟩) (by assumption) ?rest25
        case hy25 =>
          intro w9 hSw
          clear hSw
          go_simp
          first | done | with_reducible rfl
        (try simp only [Act.put]); (try simp only [List.setIfInBounds_toArray]); (try simp only [List.set_cons_succ]); (try simp only [List.set_cons_zero])
        refine wpAnyH_take (i := 3) (oi := { dst := Option.some 15, op := Go.Op.move (Go.Operand.tmp 0), type := 22, pos := "l11_run.go:115", after := #[{ on := 2, ground := Go.Ground.guard }], guard := Option.some (2, Bool.false) }) (v := undef) rfl (by kernel_rfl) (by kernel_rfl) (by kernel_rfl) (fun _ _ _ h => h) (Or.inr ⟨by rfl, rfl⟩) (by assumption) ?_
        (try simp only [Act.put]); (try simp only [List.setIfInBounds_toArray]); (try simp only [List.set_cons_succ]); (try simp only [List.set_cons_zero])
        refine wpAnyH_take (i := 4) (oi := { dst := Option.some 16, op := Go.Op.move (Go.Operand.tmp 4), type := 3, pos := "l11_run.go:115", after := #[{ on := 2, ground := Go.Ground.guard }], guard := Option.some (2, Bool.false) }) (v := undef) rfl (by kernel_rfl) (by kernel_rfl) (by kernel_rfl) (fun _ _ _ h => h) (Or.inr ⟨by rfl, rfl⟩) (by assumption) ?_
        (try simp only [Act.put]); (try simp only [List.setIfInBounds_toArray]); (try simp only [List.set_cons_succ]); (try simp only [List.set_cons_zero])
        refine wpAnyH_take (i := 5) (oi := { dst := Option.some 17, op := Go.Op.binOp Go.BinOp.sub 3 (Go.Operand.tmp 16) (Go.Operand.const (Go.Value.int Go.IntKind.i64 1)) 3, type := 3, pos := "l11_run.go:115", after := #[{ on := 4, ground := Go.Ground.data }, { on := 2, ground := Go.Ground.guard }], guard := Option.some (2, Bool.false) }) (v := undef) rfl (by kernel_rfl) (by kernel_rfl) (by kernel_rfl) (fun _ _ _ h => h) (Or.inr ⟨by rfl, rfl⟩) (by assumption) ?_
        (try simp only [Act.put]); (try simp only [List.setIfInBounds_toArray]); (try simp only [List.set_cons_succ]); (try simp only [List.set_cons_zero])
        refine wpAnyH_take (i := 6) (oi := { dst := Option.some 18, op := Go.Op.indexAddr 22 (Go.Operand.tmp 15) (Go.Operand.tmp 17), type := 0, pos := "l11_run.go:115", after := #[{ on := 3, ground := Go.Ground.data }, { on := 5, ground := Go.Ground.data }, { on := 2, ground := Go.Ground.guard }], guard := Option.some (2, Bool.false) }) (v := undef) rfl (by kernel_rfl) (by kernel_rfl) (by kernel_rfl) (fun _ _ _ h => h) (Or.inr ⟨by rfl, rfl⟩) (by assumption) ?_
        (try simp only [Act.put]); (try simp only [List.setIfInBounds_toArray]); (try simp only [List.set_cons_succ]); (try simp only [List.set_cons_zero])
        refine wpAnyH_take (i := 7) (oi := { dst := Option.some 19, op := Go.Op.fieldAddr 83 (Go.Operand.tmp 18) 0, type := 0, pos := "l11_run.go:115", after := #[{ on := 6, ground := Go.Ground.data }, { on := 2, ground := Go.Ground.guard }], guard := Option.some (2, Bool.false) }) (v := undef) rfl (by kernel_rfl) (by kernel_rfl) (by kernel_rfl) (fun _ _ _ h => h) (Or.inr ⟨by rfl, rfl⟩) (by assumption) ?_
        (try simp only [Act.put]); (try simp only [List.setIfInBounds_toArray]); (try simp only [List.set_cons_succ]); (try simp only [List.set_cons_zero])
        refine wpAnyH_take (i := 8) (oi := { dst := Option.some 20, op := Go.Op.load 9 (Go.Operand.tmp 19), type := 9, pos := "l11_run.go:115", after := #[{ on := 7, ground := Go.Ground.data }, { on := 2, ground := Go.Ground.guard }], guard := Option.some (2, Bool.false) }) (v := undef) rfl (by kernel_rfl) (by kernel_rfl) (by kernel_rfl) (fun _ _ _ h => h) (Or.inr ⟨by rfl, rfl⟩) (by assumption) ?_
        (try simp only [Act.put]); (try simp only [List.setIfInBounds_toArray]); (try simp only [List.set_cons_succ]); (try simp only [List.set_cons_zero])
        refine wpAnyH_take (i := 9) (oi := { dst := Option.some 21, op := Go.Op.move (Go.Operand.tmp 0), type := 22, pos := "l11_run.go:115", after := #[{ on := 2, ground := Go.Ground.guard }], guard := Option.some (2, Bool.false) }) (v := undef) rfl (by kernel_rfl) (by kernel_rfl) (by kernel_rfl) (fun _ _ _ h => h) (Or.inr ⟨by rfl, rfl⟩) (by assumption) ?_
        (try simp only [Act.put]); (try simp only [List.setIfInBounds_toArray]); (try simp only [List.set_cons_succ]); (try simp only [List.set_cons_zero])
        refine wpAnyH_take (i := 10) (oi := { dst := Option.some 22, op := Go.Op.move (Go.Operand.tmp 4), type := 3, pos := "l11_run.go:115", after := #[{ on := 2, ground := Go.Ground.guard }], guard := Option.some (2, Bool.false) }) (v := undef) rfl (by kernel_rfl) (by kernel_rfl) (by kernel_rfl) (fun _ _ _ h => h) (Or.inr ⟨by rfl, rfl⟩) (by assumption) ?_
        (try simp only [Act.put]); (try simp only [List.setIfInBounds_toArray]); (try simp only [List.set_cons_succ]); (try simp only [List.set_cons_zero])
        refine wpAnyH_take (i := 11) (oi := { dst := Option.some 23, op := Go.Op.indexAddr 22 (Go.Operand.tmp 21) (Go.Operand.tmp 22), type := 0, pos := "l11_run.go:115", after := #[{ on := 9, ground := Go.Ground.data }, { on := 10, ground := Go.Ground.data }, { on := 2, ground := Go.Ground.guard }], guard := Option.some (2, Bool.false) }) (v := undef) rfl (by kernel_rfl) (by kernel_rfl) (by kernel_rfl) (fun _ _ _ h => h) (Or.inr ⟨by rfl, rfl⟩) (by assumption) ?_
        (try simp only [Act.put]); (try simp only [List.setIfInBounds_toArray]); (try simp only [List.set_cons_succ]); (try simp only [List.set_cons_zero])
        refine wpAnyH_take (i := 12) (oi := { dst := Option.some 24, op := Go.Op.fieldAddr 83 (Go.Operand.tmp 23) 0, type := 0, pos := "l11_run.go:115", after := #[{ on := 11, ground := Go.Ground.data }, { on := 2, ground := Go.Ground.guard }], guard := Option.some (2, Bool.false) }) (v := undef) rfl (by kernel_rfl) (by kernel_rfl) (by kernel_rfl) (fun _ _ _ h => h) (Or.inr ⟨by rfl, rfl⟩) (by assumption) ?_
        (try simp only [Act.put]); (try simp only [List.setIfInBounds_toArray]); (try simp only [List.set_cons_succ]); (try simp only [List.set_cons_zero])
        refine wpAnyH_take (i := 13) (oi := { dst := Option.some 25, op := Go.Op.load 9 (Go.Operand.tmp 24), type := 9, pos := "l11_run.go:115", after := #[{ on := 12, ground := Go.Ground.data }, { on := 2, ground := Go.Ground.guard }], guard := Option.some (2, Bool.false) }) (v := undef) rfl (by kernel_rfl) (by kernel_rfl) (by kernel_rfl) (fun _ _ _ h => h) (Or.inr ⟨by rfl, rfl⟩) (by assumption) ?_
        (try simp only [Act.put]); (try simp only [List.setIfInBounds_toArray]); (try simp only [List.set_cons_succ]); (try simp only [List.set_cons_zero])
        refine wpAnyH_take (i := 14) (oi := { dst := Option.some 26, op := Go.Op.binOp Go.BinOp.neq 9 (Go.Operand.tmp 20) (Go.Operand.tmp 25) 9, type := 4, pos := "l11_run.go:115", after := #[{ on := 8, ground := Go.Ground.data }, { on := 13, ground := Go.Ground.data }, { on := 2, ground := Go.Ground.guard }], guard := Option.some (2, Bool.false) }) (v := undef) rfl (by kernel_rfl) (by kernel_rfl) (by kernel_rfl) (fun _ _ _ h => h) (Or.inr ⟨by rfl, rfl⟩) (by assumption) ?_
        (try simp only [Act.put]); (try simp only [List.setIfInBounds_toArray]); (try simp only [List.set_cons_succ]); (try simp only [List.set_cons_zero])
        refine wpAnyH_take (i := 15) (oi := { dst := Option.some 27, op := Go.Op.pick (Go.Operand.tmp 14) (Go.Operand.const (Go.Value.bool Bool.true)) (Go.Operand.tmp 26), type := 4, pos := "l11_run.go:115", after := #[{ on := 2, ground := Go.Ground.data }, { on := 14, ground := Go.Ground.data }], guard := Option.none }) (v := ?v26) rfl (by kernel_rfl) (by kernel_rfl) (by kernel_rfl) (fun _ _ _ h => h) (Or.inl ⟨by rfl, ?hy26⟩) (by assumption) ?rest26
        case hy26 =>
          intro w9 hSw
          clear hSw
          go_simp
          first | done | with_reducible rfl
        (try simp only [Act.put]); (try simp only [List.setIfInBounds_toArray]); (try simp only [List.set_cons_succ]); (try simp only [List.set_cons_zero])
        refine wpAnyH_done (by kernel_rfl) ?_ _
        rw [← HWD.out]
        go_wp2_with (at_builtin; refine app_own rfl (.tmp 28) (.tmp 34) rfl _ w.heap.size _ (keysUp l 0) rfl (HOD.out.alloc _) (wd.heap.size + 1) 1 1 _ [x0] rfl (one_strs wd x0) (by have := keysUp_len l 0; omega) (by have := HBD.out.size; simp; omega) ?_; intro vb wb ob gb; have OB := Lib.hid ob; have BB := Lib.hid (Below.app (HBD.out.alloc HBD.out.size _) (HOD.out.alloc _) (Nat.le_refl _) gb (by have := HBD.out.size; simp; omega)); clear ob gb)
        go_roundw
        case rel => exact ⟨0 + 1, _, by omega, by go_num, rfl, by rw [keysUp_new HNW.out, HKE.out]; exact OB.out, BB.out⟩
        case measure => simp [intOf]; omega
      · obtain ⟨j, hjk⟩ : ∃ j, j + 1 = k := ⟨k - 1, by omega⟩
        have hjl : j < l.length := by omega
        obtain ⟨jb, jo, hA2, hjb, d0, -⟩ := HR.out.cell j hjl
        injection hA2 with hA2
        injection hA2 with e1 e2
        subst e1 e2
        have hne := new_pos hjk hlt
        obtain ⟨y0, g0⟩ : ∃ y, y = l[j].key := ⟨_, rfl⟩
        rw [← h0, ← g0] at hne
        rw [← g0] at d0
        have hwr : IntKind.i64.wrap ((k : Int) - 1) = (j : Nat) := i64_n j (by omega) _ (by omega)
        have y0' : (0 : Int) ≤ (j : Int) := by omega
        have y1' : (j : Int) < (l.length : Int) := by omega
        have y2' : ¬ (k : Int) = 0 := by omega
        have y3' : ¬ k = 0 := hk0
        have y4' : decide (k = 0) = false := by simpa using y3'
        have y5' : ((k : Int) == 0) = false := by simpa using y3'
        obtain ⟨wd, hwd⟩ : ∃ W, W = wr.drew := ⟨_, rfl⟩
        have HOD := Lib.hid (show Own wd w.heap.size s0 (keysUp l k) by rw [hwd]; exact HO.out)
        have HBD := Lib.hid (show Below w.heap.size w wd by rw [hwd]; exact bel2 HBL.out rfl rfl rfl rfl)
        have r0 : wd.cell? ⟨kb, ko + k * 4, none⟩ = some (.string x0) := (HBD.out.cell (p := ⟨kb, ko + k * 4, none⟩) hkb').trans c0
        have HSS := Lib.hid (show (fun W : World => W.cell? ⟨kb, ko + j * 4, none⟩ = some (.string y0) ∧ W.cell? ⟨kb, ko + k * 4, none⟩ = some (.string x0)) wr.drew from by rw [← hwd]; exact ⟨(HBD.out.cell (p := ⟨kb, ko + j * 4, none⟩) hkb').trans d0, r0⟩)
        have HWD := Lib.hid hwd
        clear c0 d0 h0 g0 hjk hwd hk0
        rcases Bool.eq_false_or_eq_true (y0.toList == x0.toList) with hq | hq
        · rw [hq] at hne
          have HNW := Lib.hid hne
          clear hne
          go_wp2_with fail
          refine wp_region_held_drew (S := (fun W : World => W.cell? ⟨kb, ko + j * 4, none⟩ = some (.string y0) ∧ W.cell? ⟨kb, ko + k * 4, none⟩ = some (.string x0))) (by kernel_rfl) (HSS.out) (fun hHeld => ?_)
          refine wpAnyH_take (i := 0) (oi := { dst := Option.some 12, op := Go.Op.move (Go.Operand.tmp 4), type := 3, pos := "l11_run.go:115", after := #[], guard := Option.none }) (v := ?v27) rfl (by kernel_rfl) (by kernel_rfl) (by kernel_rfl) (fun _ _ _ h => h) (Or.inl ⟨by rfl, ?hy27⟩) (by assumption) ?rest27
          case hy27 =>
            intro w9 hSw
            clear hSw
            go_simp
            first | done | with_reducible rfl
          (try simp only [Act.put]); (try simp only [List.setIfInBounds_toArray]); (try simp only [List.set_cons_succ]); (try simp only [List.set_cons_zero])
          refine wpAnyH_take (i := 1) (oi := { dst := Option.some 13, op := Go.Op.binOp Go.BinOp.eql 3 (Go.Operand.tmp 12) (Go.Operand.const (Go.Value.int Go.IntKind.i64 0)) 3, type := 4, pos := "l11_run.go:115", after := #[{ on := 0, ground := Go.Ground.data }], guard := Option.none }) (v := ?v28) rfl (by kernel_rfl) (by kernel_rfl) (by kernel_rfl) (fun _ _ _ h => h) (Or.inl ⟨by rfl, ?hy28⟩) (by assumption) ?rest28
          case hy28 =>
            intro w9 hSw
            clear hSw
            go_simp
            first | done | with_reducible rfl
          (try simp only [Act.put]); (try simp only [List.setIfInBounds_toArray]); (try simp only [List.set_cons_succ]); (try simp only [List.set_cons_zero])
          refine wpAnyH_take (i := 2) (oi := { dst := Option.some 14, op := Go.Op.move (Go.Operand.tmp 13), type := 4, pos := "l11_run.go:115", after := #[{ on := 1, ground := Go.Ground.data }], guard := Option.none }) (v := ?v29) rfl (by kernel_rfl) (by kernel_rfl) (by kernel_rfl) (fun _ _ _ h => h) (Or.inl ⟨by rfl, ?hy29⟩) (by assumption) ?rest29
          case hy29 =>
            intro w9 hSw
            clear hSw
            go_simp
            first | done | with_reducible rfl
          (try simp only [Act.put]); (try simp only [List.setIfInBounds_toArray]); (try simp only [List.set_cons_succ]); (try simp only [List.set_cons_zero])
          refine wpAnyH_take (i := 3) (oi := { dst := Option.some 15, op := Go.Op.move (Go.Operand.tmp 0), type := 22, pos := "l11_run.go:115", after := #[{ on := 2, ground := Go.Ground.guard }], guard := Option.some (2, Bool.false) }) (v := ?v30) rfl (by kernel_rfl) (by kernel_rfl) (by kernel_rfl) (fun _ _ _ h => h) (Or.inl ⟨by rfl, ?hy30⟩) (by assumption) ?rest30
          case hy30 =>
            intro w9 hSw
            clear hSw
            go_simp
            first | done | with_reducible rfl
          (try simp only [Act.put]); (try simp only [List.setIfInBounds_toArray]); (try simp only [List.set_cons_succ]); (try simp only [List.set_cons_zero])
          refine wpAnyH_take (i := 4) (oi := { dst := Option.some 16, op := Go.Op.move (Go.Operand.tmp 4), type := 3, pos := "l11_run.go:115", after := #[{ on := 2, ground := Go.Ground.guard }], guard := Option.some (2, Bool.false) }) (v := ?v31) rfl (by kernel_rfl) (by kernel_rfl) (by kernel_rfl) (fun _ _ _ h => h) (Or.inl ⟨by rfl, ?hy31⟩) (by assumption) ?rest31
          case hy31 =>
            intro w9 hSw
            clear hSw
            go_simp
            first | done | with_reducible rfl
          (try simp only [Act.put]); (try simp only [List.setIfInBounds_toArray]); (try simp only [List.set_cons_succ]); (try simp only [List.set_cons_zero])
          refine wpAnyH_take (i := 5) (oi := { dst := Option.some 17, op := Go.Op.binOp Go.BinOp.sub 3 (Go.Operand.tmp 16) (Go.Operand.const (Go.Value.int Go.IntKind.i64 1)) 3, type := 3, pos := "l11_run.go:115", after := #[{ on := 4, ground := Go.Ground.data }, { on := 2, ground := Go.Ground.guard }], guard := Option.some (2, Bool.false) }) (v := ?v32) rfl (by kernel_rfl) (by kernel_rfl) (by kernel_rfl) (fun _ _ _ h => h) (Or.inl ⟨by rfl, ?hy32⟩) (by assumption) ?rest32
          case hy32 =>
            intro w9 hSw
            clear hSw
            go_simp
            first | done | with_reducible rfl
          (try simp only [Act.put]); (try simp only [List.setIfInBounds_toArray]); (try simp only [List.set_cons_succ]); (try simp only [List.set_cons_zero])
          refine wpAnyH_take (i := 6) (oi := { dst := Option.some 18, op := Go.Op.indexAddr 22 (Go.Operand.tmp 15) (Go.Operand.tmp 17), type := 0, pos := "l11_run.go:115", after := #[{ on := 3, ground := Go.Ground.data }, { on := 5, ground := Go.Ground.data }, { on := 2, ground := Go.Ground.guard }], guard := Option.some (2, Bool.false) }) (v := ?v33) rfl (by kernel_rfl) (by kernel_rfl) (by kernel_rfl) (fun _ _ _ h => h) (Or.inl ⟨by rfl, ?hy33⟩) (by assumption) ?rest33
          case hy33 =>
            intro w9 hSw
            clear hSw
            go_simp
            first | done | with_reducible rfl
          (try simp only [Act.put]); (try simp only [List.setIfInBounds_toArray]); (try simp only [List.set_cons_succ]); (try simp only [List.set_cons_zero])
          refine wpAnyH_take (i := 7) (oi := { dst := Option.some 19, op := Go.Op.fieldAddr 83 (Go.Operand.tmp 18) 0, type := 0, pos := "l11_run.go:115", after := #[{ on := 6, ground := Go.Ground.data }, { on := 2, ground := Go.Ground.guard }], guard := Option.some (2, Bool.false) }) (v := ?v34) rfl (by kernel_rfl) (by kernel_rfl) (by kernel_rfl) (fun _ _ _ h => h) (Or.inl ⟨by rfl, ?hy34⟩) (by assumption) ?rest34
          case hy34 =>
            intro w9 hSw
            clear hSw
            go_simp
            first | done | with_reducible rfl
          (try simp only [Act.put]); (try simp only [List.setIfInBounds_toArray]); (try simp only [List.set_cons_succ]); (try simp only [List.set_cons_zero])
          refine wpAnyH_take (i := 8) (oi := { dst := Option.some 20, op := Go.Op.load 9 (Go.Operand.tmp 19), type := 9, pos := "l11_run.go:115", after := #[{ on := 7, ground := Go.Ground.data }, { on := 2, ground := Go.Ground.guard }], guard := Option.some (2, Bool.false) }) (v := ?v35) rfl (by kernel_rfl) (by kernel_rfl) (by kernel_rfl) (fun _ _ _ h => h) (Or.inl ⟨by rfl, ?hy35⟩) (by assumption) ?rest35
          case hy35 =>
            intro w9 hSw
            obtain ⟨f0, f1⟩ := hSw
            go_simp
            first | done | with_reducible rfl
          (try simp only [Act.put]); (try simp only [List.setIfInBounds_toArray]); (try simp only [List.set_cons_succ]); (try simp only [List.set_cons_zero])
          refine wpAnyH_take (i := 9) (oi := { dst := Option.some 21, op := Go.Op.move (Go.Operand.tmp 0), type := 22, pos := "l11_run.go:115", after := #[{ on := 2, ground := Go.Ground.guard }], guard := Option.some (2, Bool.false) }) (v := ?v36) rfl (by kernel_rfl) (by kernel_rfl) (by kernel_rfl) (fun _ _ _ h => h) (Or.inl ⟨by rfl, ?hy36⟩) (by assumption) ?rest36
          case hy36 =>
            intro w9 hSw
            clear hSw
            go_simp
            first | done | with_reducible rfl
          (try simp only [Act.put]); (try simp only [List.setIfInBounds_toArray]); (try simp only [List.set_cons_succ]); (try simp only [List.set_cons_zero])
          refine wpAnyH_take (i := 10) (oi := { dst := Option.some 22, op := Go.Op.move (Go.Operand.tmp 4), type := 3, pos := "l11_run.go:115", after := #[{ on := 2, ground := Go.Ground.guard }], guard := Option.some (2, Bool.false) }) (v := ?v37) rfl (by kernel_rfl) (by kernel_rfl) (by kernel_rfl) (fun _ _ _ h => h) (Or.inl ⟨by rfl, ?hy37⟩) (by assumption) ?rest37
          case hy37 =>
            intro w9 hSw
            clear hSw
            go_simp
            first | done | with_reducible rfl
          (try simp only [Act.put]); (try simp only [List.setIfInBounds_toArray]); (try simp only [List.set_cons_succ]); (try simp only [List.set_cons_zero])
          refine wpAnyH_take (i := 11) (oi := { dst := Option.some 23, op := Go.Op.indexAddr 22 (Go.Operand.tmp 21) (Go.Operand.tmp 22), type := 0, pos := "l11_run.go:115", after := #[{ on := 9, ground := Go.Ground.data }, { on := 10, ground := Go.Ground.data }, { on := 2, ground := Go.Ground.guard }], guard := Option.some (2, Bool.false) }) (v := ?v38) rfl (by kernel_rfl) (by kernel_rfl) (by kernel_rfl) (fun _ _ _ h => h) (Or.inl ⟨by rfl, ?hy38⟩) (by assumption) ?rest38
          case hy38 =>
            intro w9 hSw
            clear hSw
            go_simp
            first | done | with_reducible rfl
          (try simp only [Act.put]); (try simp only [List.setIfInBounds_toArray]); (try simp only [List.set_cons_succ]); (try simp only [List.set_cons_zero])
          refine wpAnyH_take (i := 12) (oi := { dst := Option.some 24, op := Go.Op.fieldAddr 83 (Go.Operand.tmp 23) 0, type := 0, pos := "l11_run.go:115", after := #[{ on := 11, ground := Go.Ground.data }, { on := 2, ground := Go.Ground.guard }], guard := Option.some (2, Bool.false) }) (v := ?v39) rfl (by kernel_rfl) (by kernel_rfl) (by kernel_rfl) (fun _ _ _ h => h) (Or.inl ⟨by rfl, ?hy39⟩) (by assumption) ?rest39
          case hy39 =>
            intro w9 hSw
            clear hSw
            go_simp
            first | done | with_reducible rfl
          (try simp only [Act.put]); (try simp only [List.setIfInBounds_toArray]); (try simp only [List.set_cons_succ]); (try simp only [List.set_cons_zero])
          refine wpAnyH_take (i := 13) (oi := { dst := Option.some 25, op := Go.Op.load 9 (Go.Operand.tmp 24), type := 9, pos := "l11_run.go:115", after := #[{ on := 12, ground := Go.Ground.data }, { on := 2, ground := Go.Ground.guard }], guard := Option.some (2, Bool.false) }) (v := ?v40) rfl (by kernel_rfl) (by kernel_rfl) (by kernel_rfl) (fun _ _ _ h => h) (Or.inl ⟨by rfl, ?hy40⟩) (by assumption) ?rest40
          case hy40 =>
            intro w9 hSw
            obtain ⟨f0, f1⟩ := hSw
            go_simp
            first | done | with_reducible rfl
          (try simp only [Act.put]); (try simp only [List.setIfInBounds_toArray]); (try simp only [List.set_cons_succ]); (try simp only [List.set_cons_zero])
          refine wpAnyH_take (i := 14) (oi := { dst := Option.some 26, op := Go.Op.binOp Go.BinOp.neq 9 (Go.Operand.tmp 20) (Go.Operand.tmp 25) 9, type := 4, pos := "l11_run.go:115", after := #[{ on := 8, ground := Go.Ground.data }, { on := 13, ground := Go.Ground.data }, { on := 2, ground := Go.Ground.guard }], guard := Option.some (2, Bool.false) }) (v := ?v41) rfl (by kernel_rfl) (by kernel_rfl) (by kernel_rfl) (fun _ _ _ h => h) (Or.inl ⟨by rfl, ?hy41⟩) (by assumption) ?rest41
          case hy41 =>
            intro w9 hSw
            clear hSw
            go_simp
            first | done | with_reducible rfl
          (try simp only [Act.put]); (try simp only [List.setIfInBounds_toArray]); (try simp only [List.set_cons_succ]); (try simp only [List.set_cons_zero])
          refine wpAnyH_take (i := 15) (oi := { dst := Option.some 27, op := Go.Op.pick (Go.Operand.tmp 14) (Go.Operand.const (Go.Value.bool Bool.true)) (Go.Operand.tmp 26), type := 4, pos := "l11_run.go:115", after := #[{ on := 2, ground := Go.Ground.data }, { on := 14, ground := Go.Ground.data }], guard := Option.none }) (v := ?v42) rfl (by kernel_rfl) (by kernel_rfl) (by kernel_rfl) (fun _ _ _ h => h) (Or.inl ⟨by rfl, ?hy42⟩) (by assumption) ?rest42
          case hy42 =>
            intro w9 hSw
            clear hSw
            go_simp
            first | done | with_reducible rfl
          (try simp only [Act.put]); (try simp only [List.setIfInBounds_toArray]); (try simp only [List.set_cons_succ]); (try simp only [List.set_cons_zero])
          refine wpAnyH_done (by kernel_rfl) ?_ _
          rw [← HWD.out]
          go_wp2
          go_roundw
          case rel => exact ⟨k + 1, _, by omega, by go_num, rfl, by rw [keysUp_old HNW.out]; exact HOD.out, HBD.out⟩
          case measure => simp [intOf]; omega
        · rw [hq] at hne
          have HNW := Lib.hid hne
          clear hne
          go_wp2_with fail
          refine wp_region_held_drew (S := (fun W : World => W.cell? ⟨kb, ko + j * 4, none⟩ = some (.string y0) ∧ W.cell? ⟨kb, ko + k * 4, none⟩ = some (.string x0))) (by kernel_rfl) (HSS.out) (fun hHeld => ?_)
          refine wpAnyH_take (i := 0) (oi := { dst := Option.some 12, op := Go.Op.move (Go.Operand.tmp 4), type := 3, pos := "l11_run.go:115", after := #[], guard := Option.none }) (v := ?v43) rfl (by kernel_rfl) (by kernel_rfl) (by kernel_rfl) (fun _ _ _ h => h) (Or.inl ⟨by rfl, ?hy43⟩) (by assumption) ?rest43
          case hy43 =>
            intro w9 hSw
            clear hSw
            go_simp
            first | done | with_reducible rfl
          (try simp only [Act.put]); (try simp only [List.setIfInBounds_toArray]); (try simp only [List.set_cons_succ]); (try simp only [List.set_cons_zero])
          refine wpAnyH_take (i := 1) (oi := { dst := Option.some 13, op := Go.Op.binOp Go.BinOp.eql 3 (Go.Operand.tmp 12) (Go.Operand.const (Go.Value.int Go.IntKind.i64 0)) 3, type := 4, pos := "l11_run.go:115", after := #[{ on := 0, ground := Go.Ground.data }], guard := Option.none }) (v := ?v44) rfl (by kernel_rfl) (by kernel_rfl) (by kernel_rfl) (fun _ _ _ h => h) (Or.inl ⟨by rfl, ?hy44⟩) (by assumption) ?rest44
          case hy44 =>
            intro w9 hSw
            clear hSw
            go_simp
            first | done | with_reducible rfl
          (try simp only [Act.put]); (try simp only [List.setIfInBounds_toArray]); (try simp only [List.set_cons_succ]); (try simp only [List.set_cons_zero])
          refine wpAnyH_take (i := 2) (oi := { dst := Option.some 14, op := Go.Op.move (Go.Operand.tmp 13), type := 4, pos := "l11_run.go:115", after := #[{ on := 1, ground := Go.Ground.data }], guard := Option.none }) (v := ?v45) rfl (by kernel_rfl) (by kernel_rfl) (by kernel_rfl) (fun _ _ _ h => h) (Or.inl ⟨by rfl, ?hy45⟩) (by assumption) ?rest45
          case hy45 =>
            intro w9 hSw
            clear hSw
            go_simp
            first | done | with_reducible rfl
          (try simp only [Act.put]); (try simp only [List.setIfInBounds_toArray]); (try simp only [List.set_cons_succ]); (try simp only [List.set_cons_zero])
          refine wpAnyH_take (i := 3) (oi := { dst := Option.some 15, op := Go.Op.move (Go.Operand.tmp 0), type := 22, pos := "l11_run.go:115", after := #[{ on := 2, ground := Go.Ground.guard }], guard := Option.some (2, Bool.false) }) (v := ?v46) rfl (by kernel_rfl) (by kernel_rfl) (by kernel_rfl) (fun _ _ _ h => h) (Or.inl ⟨by rfl, ?hy46⟩) (by assumption) ?rest46
          case hy46 =>
            intro w9 hSw
            clear hSw
            go_simp
            first | done | with_reducible rfl
          (try simp only [Act.put]); (try simp only [List.setIfInBounds_toArray]); (try simp only [List.set_cons_succ]); (try simp only [List.set_cons_zero])
          refine wpAnyH_take (i := 4) (oi := { dst := Option.some 16, op := Go.Op.move (Go.Operand.tmp 4), type := 3, pos := "l11_run.go:115", after := #[{ on := 2, ground := Go.Ground.guard }], guard := Option.some (2, Bool.false) }) (v := ?v47) rfl (by kernel_rfl) (by kernel_rfl) (by kernel_rfl) (fun _ _ _ h => h) (Or.inl ⟨by rfl, ?hy47⟩) (by assumption) ?rest47
          case hy47 =>
            intro w9 hSw
            clear hSw
            go_simp
            first | done | with_reducible rfl
          (try simp only [Act.put]); (try simp only [List.setIfInBounds_toArray]); (try simp only [List.set_cons_succ]); (try simp only [List.set_cons_zero])
          refine wpAnyH_take (i := 5) (oi := { dst := Option.some 17, op := Go.Op.binOp Go.BinOp.sub 3 (Go.Operand.tmp 16) (Go.Operand.const (Go.Value.int Go.IntKind.i64 1)) 3, type := 3, pos := "l11_run.go:115", after := #[{ on := 4, ground := Go.Ground.data }, { on := 2, ground := Go.Ground.guard }], guard := Option.some (2, Bool.false) }) (v := ?v48) rfl (by kernel_rfl) (by kernel_rfl) (by kernel_rfl) (fun _ _ _ h => h) (Or.inl ⟨by rfl, ?hy48⟩) (by assumption) ?rest48
          case hy48 =>
            intro w9 hSw
            clear hSw
            go_simp
            first | done | with_reducible rfl
          (try simp only [Act.put]); (try simp only [List.setIfInBounds_toArray]); (try simp only [List.set_cons_succ]); (try simp only [List.set_cons_zero])
          refine wpAnyH_take (i := 6) (oi := { dst := Option.some 18, op := Go.Op.indexAddr 22 (Go.Operand.tmp 15) (Go.Operand.tmp 17), type := 0, pos := "l11_run.go:115", after := #[{ on := 3, ground := Go.Ground.data }, { on := 5, ground := Go.Ground.data }, { on := 2, ground := Go.Ground.guard }], guard := Option.some (2, Bool.false) }) (v := ?v49) rfl (by kernel_rfl) (by kernel_rfl) (by kernel_rfl) (fun _ _ _ h => h) (Or.inl ⟨by rfl, ?hy49⟩) (by assumption) ?rest49
          case hy49 =>
            intro w9 hSw
            clear hSw
            go_simp
            first | done | with_reducible rfl
          (try simp only [Act.put]); (try simp only [List.setIfInBounds_toArray]); (try simp only [List.set_cons_succ]); (try simp only [List.set_cons_zero])
          refine wpAnyH_take (i := 7) (oi := { dst := Option.some 19, op := Go.Op.fieldAddr 83 (Go.Operand.tmp 18) 0, type := 0, pos := "l11_run.go:115", after := #[{ on := 6, ground := Go.Ground.data }, { on := 2, ground := Go.Ground.guard }], guard := Option.some (2, Bool.false) }) (v := ?v50) rfl (by kernel_rfl) (by kernel_rfl) (by kernel_rfl) (fun _ _ _ h => h) (Or.inl ⟨by rfl, ?hy50⟩) (by assumption) ?rest50
          case hy50 =>
            intro w9 hSw
            clear hSw
            go_simp
            first | done | with_reducible rfl
          (try simp only [Act.put]); (try simp only [List.setIfInBounds_toArray]); (try simp only [List.set_cons_succ]); (try simp only [List.set_cons_zero])
          refine wpAnyH_take (i := 8) (oi := { dst := Option.some 20, op := Go.Op.load 9 (Go.Operand.tmp 19), type := 9, pos := "l11_run.go:115", after := #[{ on := 7, ground := Go.Ground.data }, { on := 2, ground := Go.Ground.guard }], guard := Option.some (2, Bool.false) }) (v := ?v51) rfl (by kernel_rfl) (by kernel_rfl) (by kernel_rfl) (fun _ _ _ h => h) (Or.inl ⟨by rfl, ?hy51⟩) (by assumption) ?rest51
          case hy51 =>
            intro w9 hSw
            obtain ⟨f0, f1⟩ := hSw
            go_simp
            first | done | with_reducible rfl
          (try simp only [Act.put]); (try simp only [List.setIfInBounds_toArray]); (try simp only [List.set_cons_succ]); (try simp only [List.set_cons_zero])
          refine wpAnyH_take (i := 9) (oi := { dst := Option.some 21, op := Go.Op.move (Go.Operand.tmp 0), type := 22, pos := "l11_run.go:115", after := #[{ on := 2, ground := Go.Ground.guard }], guard := Option.some (2, Bool.false) }) (v := ?v52) rfl (by kernel_rfl) (by kernel_rfl) (by kernel_rfl) (fun _ _ _ h => h) (Or.inl ⟨by rfl, ?hy52⟩) (by assumption) ?rest52
          case hy52 =>
            intro w9 hSw
            clear hSw
            go_simp
            first | done | with_reducible rfl
          (try simp only [Act.put]); (try simp only [List.setIfInBounds_toArray]); (try simp only [List.set_cons_succ]); (try simp only [List.set_cons_zero])
          refine wpAnyH_take (i := 10) (oi := { dst := Option.some 22, op := Go.Op.move (Go.Operand.tmp 4), type := 3, pos := "l11_run.go:115", after := #[{ on := 2, ground := Go.Ground.guard }], guard := Option.some (2, Bool.false) }) (v := ?v53) rfl (by kernel_rfl) (by kernel_rfl) (by kernel_rfl) (fun _ _ _ h => h) (Or.inl ⟨by rfl, ?hy53⟩) (by assumption) ?rest53
          case hy53 =>
            intro w9 hSw
            clear hSw
            go_simp
            first | done | with_reducible rfl
          (try simp only [Act.put]); (try simp only [List.setIfInBounds_toArray]); (try simp only [List.set_cons_succ]); (try simp only [List.set_cons_zero])
          refine wpAnyH_take (i := 11) (oi := { dst := Option.some 23, op := Go.Op.indexAddr 22 (Go.Operand.tmp 21) (Go.Operand.tmp 22), type := 0, pos := "l11_run.go:115", after := #[{ on := 9, ground := Go.Ground.data }, { on := 10, ground := Go.Ground.data }, { on := 2, ground := Go.Ground.guard }], guard := Option.some (2, Bool.false) }) (v := ?v54) rfl (by kernel_rfl) (by kernel_rfl) (by kernel_rfl) (fun _ _ _ h => h) (Or.inl ⟨by rfl, ?hy54⟩) (by assumption) ?rest54
          case hy54 =>
            intro w9 hSw
            clear hSw
            go_simp
            first | done | with_reducible rfl
          (try simp only [Act.put]); (try simp only [List.setIfInBounds_toArray]); (try simp only [List.set_cons_succ]); (try simp only [List.set_cons_zero])
          refine wpAnyH_take (i := 12) (oi := { dst := Option.some 24, op := Go.Op.fieldAddr 83 (Go.Operand.tmp 23) 0, type := 0, pos := "l11_run.go:115", after := #[{ on := 11, ground := Go.Ground.data }, { on := 2, ground := Go.Ground.guard }], guard := Option.some (2, Bool.false) }) (v := ?v55) rfl (by kernel_rfl) (by kernel_rfl) (by kernel_rfl) (fun _ _ _ h => h) (Or.inl ⟨by rfl, ?hy55⟩) (by assumption) ?rest55
          case hy55 =>
            intro w9 hSw
            clear hSw
            go_simp
            first | done | with_reducible rfl
          (try simp only [Act.put]); (try simp only [List.setIfInBounds_toArray]); (try simp only [List.set_cons_succ]); (try simp only [List.set_cons_zero])
          refine wpAnyH_take (i := 13) (oi := { dst := Option.some 25, op := Go.Op.load 9 (Go.Operand.tmp 24), type := 9, pos := "l11_run.go:115", after := #[{ on := 12, ground := Go.Ground.data }, { on := 2, ground := Go.Ground.guard }], guard := Option.some (2, Bool.false) }) (v := ?v56) rfl (by kernel_rfl) (by kernel_rfl) (by kernel_rfl) (fun _ _ _ h => h) (Or.inl ⟨by rfl, ?hy56⟩) (by assumption) ?rest56
          case hy56 =>
            intro w9 hSw
            obtain ⟨f0, f1⟩ := hSw
            go_simp
            first | done | with_reducible rfl
          (try simp only [Act.put]); (try simp only [List.setIfInBounds_toArray]); (try simp only [List.set_cons_succ]); (try simp only [List.set_cons_zero])
          refine wpAnyH_take (i := 14) (oi := { dst := Option.some 26, op := Go.Op.binOp Go.BinOp.neq 9 (Go.Operand.tmp 20) (Go.Operand.tmp 25) 9, type := 4, pos := "l11_run.go:115", after := #[{ on := 8, ground := Go.Ground.data }, { on := 13, ground := Go.Ground.data }, { on := 2, ground := Go.Ground.guard }], guard := Option.some (2, Bool.false) }) (v := ?v57) rfl (by kernel_rfl) (by kernel_rfl) (by kernel_rfl) (fun _ _ _ h => h) (Or.inl ⟨by rfl, ?hy57⟩) (by assumption) ?rest57
          case hy57 =>
            intro w9 hSw
            clear hSw
            go_simp
            first | done | with_reducible rfl
          (try simp only [Act.put]); (try simp only [List.setIfInBounds_toArray]); (try simp only [List.set_cons_succ]); (try simp only [List.set_cons_zero])
          refine wpAnyH_take (i := 15) (oi := { dst := Option.some 27, op := Go.Op.pick (Go.Operand.tmp 14) (Go.Operand.const (Go.Value.bool Bool.true)) (Go.Operand.tmp 26), type := 4, pos := "l11_run.go:115", after := #[{ on := 2, ground := Go.Ground.data }, { on := 14, ground := Go.Ground.data }], guard := Option.none }) (v := ?v58) rfl (by kernel_rfl) (by kernel_rfl) (by kernel_rfl) (fun _ _ _ h => h) (Or.inl ⟨by rfl, ?hy58⟩) (by assumption) ?rest58
          case hy58 =>
            intro w9 hSw
            clear hSw
            go_simp
            first | done | with_reducible rfl
          (try simp only [Act.put]); (try simp only [List.setIfInBounds_toArray]); (try simp only [List.set_cons_succ]); (try simp only [List.set_cons_zero])
          refine wpAnyH_done (by kernel_rfl) ?_ _
          rw [← HWD.out]
          go_wp2_with (at_builtin; refine app_own rfl (.tmp 28) (.tmp 34) rfl _ w.heap.size _ (keysUp l k) rfl (HOD.out.alloc _) (wd.heap.size + 1) 1 1 _ [x0] rfl (one_strs wd x0) (by have := keysUp_len l k; omega) (by have := HBD.out.size; simp; omega) ?_; intro vb wb ob gb; have OB := Lib.hid ob; have BB := Lib.hid (Below.app (HBD.out.alloc HBD.out.size _) (HOD.out.alloc _) (Nat.le_refl _) gb (by have := HBD.out.size; simp; omega)); clear ob gb)
          go_roundw
          case rel => exact ⟨k + 1, _, by omega, by go_num, rfl, by rw [keysUp_new HNW.out, HKE.out]; exact OB.out, BB.out⟩
          case measure => simp [intOf]; omega
    · have hke : k = l.length := by omega
      subst hke
      go_wp2
      go_ret
      exact ⟨_, rfl, HO.out, HBL.out⟩

end Go.Proofs.YtfhpkcamigkmdaaDoor.W
