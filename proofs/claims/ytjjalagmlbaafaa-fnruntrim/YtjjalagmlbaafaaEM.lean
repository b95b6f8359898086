/-
  Whether an entry can be found, as the model says it.
-/
import Derived.Test.YtjjalagmlbaafaaED
namespace Go.Proofs.Ytjjalagmlbaafaa.W
open Go.RowKit K R

/-- a slice of numbers reads as l, in blocks below B -/
structure Nums (w : World) (B : Nat) (A : Option Addr) (n : Nat) (l : List Int) : Prop where
  len : l.length = n
  cell : ∀ i (h : i < l.length), ∃ b off : Nat, A = some ⟨b, off, none⟩ ∧ b < B ∧ w.cell? ⟨b, off + i, none⟩ = some (.int .i64 l[i])
theorem Nums.below {w w' : World} {B B' n : Nat} {A : Option Addr} {l : List Int} (h : Nums w B A n l) (hb : Below B' w w') (hB : B ≤ B') : Nums w' B A n l :=
  ⟨h.len, fun i hi => by
    obtain ⟨b, off, hA, hlt, c0⟩ := h.cell i hi
    exact ⟨b, off, hA, hlt, (hb.cell (p := ⟨b, off + i, none⟩) (Nat.lt_of_lt_of_le hlt hB)).trans c0⟩⟩
def inT (f u t : Int) : Bool := decide (f ≤ t) && decide (t < u)
def noT (times : List Int) (f u : Int) (k : Nat) : Prop := ∀ i (h : i < times.length), i < k → inT f u times[i] = false
theorem noT_succ {times : List Int} {f u : Int} {k : Nat} (h : k < times.length) (hn : noT times f u k) (e : inT f u times[k] = false) : noT times f u (k + 1) := fun i hi h1 => by
  by_cases hik : i = k
  · subst hik; exact e
  · exact hn i hi (by omega)
theorem noT_end {times : List Int} {f u : Int} (hn : noT times f u times.length) : times.any (inT f u) = false := by
  rw [List.any_eq_false]
  intro x hx
  obtain ⟨i, hi, rfl⟩ := List.getElem_of_mem hx
  rw [hn i hi hi]; decide
theorem yesT {times : List Int} {f u : Int} {k : Nat} (h : k < times.length) (e : inT f u times[k] = true) : times.any (inT f u) = true := List.any_eq_true.mpr ⟨_, List.getElem_mem h, e⟩
theorem seen_new {l : List En} {times : List Int} {i : Nat} (h : newAt l i = true) : seenI l times i = true := by unfold seenI; rw [h]; rfl
theorem seen_old {l : List En} {times : List Int} {j i : Nat} (hj : j + 1 = i) (hi : i < l.length) (h : newAt l i = false) : seenI l times i = times.any (inT l[i].time (l[j]'(by omega)).time) := by
  subst hj
  unfold seenI
  rw [h, Bool.false_or, en_at hi, Nat.add_sub_cancel, en_at (by omega)]
  rfl

set_option maxHeartbeats 8000000 in
set_option maxRecDepth 100000 in
theorem seenS (w : World) (B n c nt ct i : Nat) (A A2 : Option Addr) (l : List En) (times : List Int) (hr : Ents w B A n l) (hr2 : Nums w B A2 nt times) (hB : B ≤ w.heap.size) (hn : n ≤ maxLen) (hnt : nt ≤ maxLen) (hi : i < l.length) :
    Calls Try.prog 90 #[.slice A n c, .int .i64 i, .slice A2 nt ct] w fun e w' => e = .returned (.bool (seenI l times i)) ∧ Below w.heap.size w w' := by
  have hlen := hr.len
  subst hlen
  have hlen := hr2.len
  subst hlen
  unfold maxLen at hn hnt
  have HR := Lib.hid hr
  have HT := Lib.hid hr2
  clear hr hr2
  by_cases hk0 : i = 0
  · subst hk0
    have HN := Lib.hid (seen_new (times := times) (new_zero l))
    go_enter Try.func90, Try.ntmps90
    go_wp2_with fail
    refine wp_region_held_drew (S := (fun _ : World => True)) (by kernel_rfl) (trivial) (fun hHeld => ?_)
    refine wpAnyH_take (i := 0) (oi := { dst := Option.some 8, op := Go.Op.move (Go.Operand.tmp 1), type := 3, pos := "l11_run.go:71", after := #[], guard := Option.none }) (v := ?v1) rfl (by kernel_rfl) (by kernel_rfl) (by kernel_rfl) (fun _ _ _ h => h) (Or.inl ⟨by rfl, ?hy1⟩) (by assumption) ?rest1
    case hy1 =>
      intro w9 hSw
      clear hSw
      go_simp
      first | done | with_reducible rfl
    (try simp only [Act.put]); (try simp only [List.setIfInBounds_toArray]); (try simp only [List.set_cons_succ]); (try simp only [List.set_cons_zero])
    refine wpAnyH_take (i := 1) (oi := { dst := Option.some 9, op := Go.Op.binOp Go.BinOp.eql 3 (Go.Operand.tmp 8) (Go.Operand.const (Go.Value.int Go.IntKind.i64 0)) 3, type := 4, pos := "l11_run.go:71", after := #[{ on := 0, ground := Go.Ground.data }], guard := Option.none }) (v := ?v2) rfl (by kernel_rfl) (by kernel_rfl) (by kernel_rfl) (fun _ _ _ h => h) (Or.inl ⟨by rfl, ?hy2⟩) (by assumption) ?rest2
    case hy2 =>
      intro w9 hSw
      clear hSw
      go_simp
      first | done | with_reducible rfl
    (try simp only [Act.put]); (try simp only [List.setIfInBounds_toArray]); (try simp only [List.set_cons_succ]); (try simp only [List.set_cons_zero])
    refine wpAnyH_take (i := 2) (oi := { dst := Option.some 10, op := Go.Op.move (Go.Operand.tmp 9), type := 4, pos := "l11_run.go:71", after := #[{ on := 1, ground := Go.Ground.data }], guard := Option.none }) (v := ?v3) rfl (by kernel_rfl) (by kernel_rfl) (by kernel_rfl) (fun _ _ _ h => h) (Or.inl ⟨by rfl, ?hy3⟩) (by assumption) ?rest3
    case hy3 =>
      intro w9 hSw
      clear hSw
      go_simp
      first | done | with_reducible rfl
    (try simp only [Act.put]); (try simp only [List.setIfInBounds_toArray]); (try simp only [List.set_cons_succ]); (try simp only [List.set_cons_zero])
    refine wpAnyH_take (i := 3) (oi := { dst := Option.some 11, op := Go.Op.move (Go.Operand.tmp 0), type := 23, pos := "l11_run.go:71", after := #[{ on := 2, ground := Go.Ground.guard }], guard := Option.some (2, Bool.false) }) (v := undef) rfl (by kernel_rfl) (by kernel_rfl) (by kernel_rfl) (fun _ _ _ h => h) (Or.inr ⟨by rfl, rfl⟩) (by assumption) ?_
    (try simp only [Act.put]); (try simp only [List.setIfInBounds_toArray]); (try simp only [List.set_cons_succ]); (try simp only [List.set_cons_zero])
    refine wpAnyH_take (i := 4) (oi := { dst := Option.some 12, op := Go.Op.move (Go.Operand.tmp 1), type := 3, pos := "l11_run.go:71", after := #[{ on := 2, ground := Go.Ground.guard }], guard := Option.some (2, Bool.false) }) (v := undef) rfl (by kernel_rfl) (by kernel_rfl) (by kernel_rfl) (fun _ _ _ h => h) (Or.inr ⟨by rfl, rfl⟩) (by assumption) ?_
    (try simp only [Act.put]); (try simp only [List.setIfInBounds_toArray]); (try simp only [List.set_cons_succ]); (try simp only [List.set_cons_zero])
    refine wpAnyH_take (i := 5) (oi := { dst := Option.some 13, op := Go.Op.binOp Go.BinOp.sub 3 (Go.Operand.tmp 12) (Go.Operand.const (Go.Value.int Go.IntKind.i64 1)) 3, type := 3, pos := "l11_run.go:71", after := #[{ on := 4, ground := Go.Ground.data }, { on := 2, ground := Go.Ground.guard }], guard := Option.some (2, Bool.false) }) (v := undef) rfl (by kernel_rfl) (by kernel_rfl) (by kernel_rfl) (fun _ _ _ h => h) (Or.inr ⟨by rfl, rfl⟩) (by assumption) ?_
    (try simp only [Act.put]); (try simp only [List.setIfInBounds_toArray]); (try simp only [List.set_cons_succ]); (try simp only [List.set_cons_zero])
    refine wpAnyH_take (i := 6) (oi := { dst := Option.some 14, op := Go.Op.indexAddr 23 (Go.Operand.tmp 11) (Go.Operand.tmp 13), type := 0, pos := "l11_run.go:71", after := #[{ on := 3, ground := Go.Ground.data }, { on := 5, ground := Go.Ground.data }, { on := 2, ground := Go.Ground.guard }], guard := Option.some (2, Bool.false) }) (v := undef) rfl (by kernel_rfl) (by kernel_rfl) (by kernel_rfl) (fun _ _ _ h => h) (Or.inr ⟨by rfl, rfl⟩) (by assumption) ?_
    (try simp only [Act.put]); (try simp only [List.setIfInBounds_toArray]); (try simp only [List.set_cons_succ]); (try simp only [List.set_cons_zero])
    refine wpAnyH_take (i := 7) (oi := { dst := Option.some 15, op := Go.Op.fieldAddr 33 (Go.Operand.tmp 14) 0, type := 0, pos := "l11_run.go:71", after := #[{ on := 6, ground := Go.Ground.data }, { on := 2, ground := Go.Ground.guard }], guard := Option.some (2, Bool.false) }) (v := undef) rfl (by kernel_rfl) (by kernel_rfl) (by kernel_rfl) (fun _ _ _ h => h) (Or.inr ⟨by rfl, rfl⟩) (by assumption) ?_
    (try simp only [Act.put]); (try simp only [List.setIfInBounds_toArray]); (try simp only [List.set_cons_succ]); (try simp only [List.set_cons_zero])
    refine wpAnyH_take (i := 8) (oi := { dst := Option.some 16, op := Go.Op.load 9 (Go.Operand.tmp 15), type := 9, pos := "l11_run.go:71", after := #[{ on := 7, ground := Go.Ground.data }, { on := 2, ground := Go.Ground.guard }], guard := Option.some (2, Bool.false) }) (v := undef) rfl (by kernel_rfl) (by kernel_rfl) (by kernel_rfl) (fun _ _ _ h => h) (Or.inr ⟨by rfl, rfl⟩) (by assumption) ?_
    (try simp only [Act.put]); (try simp only [List.setIfInBounds_toArray]); (try simp only [List.set_cons_succ]); (try simp only [List.set_cons_zero])
    refine wpAnyH_take (i := 9) (oi := { dst := Option.some 17, op := Go.Op.move (Go.Operand.tmp 0), type := 23, pos := "l11_run.go:71", after := #[{ on := 2, ground := Go.Ground.guard }], guard := Option.some (2, Bool.false) }) (v := undef) rfl (by kernel_rfl) (by kernel_rfl) (by kernel_rfl) (fun _ _ _ h => h) (Or.inr ⟨by rfl, rfl⟩) (by assumption) ?_
    (try simp only [Act.put]); (try simp only [List.setIfInBounds_toArray]); (try simp only [List.set_cons_succ]); (try simp only [List.set_cons_zero])
    refine wpAnyH_take (i := 10) (oi := { dst := Option.some 18, op := Go.Op.move (Go.Operand.tmp 1), type := 3, pos := "l11_run.go:71", after := #[{ on := 2, ground := Go.Ground.guard }], guard := Option.some (2, Bool.false) }) (v := undef) rfl (by kernel_rfl) (by kernel_rfl) (by kernel_rfl) (fun _ _ _ h => h) (Or.inr ⟨by rfl, rfl⟩) (by assumption) ?_
    (try simp only [Act.put]); (try simp only [List.setIfInBounds_toArray]); (try simp only [List.set_cons_succ]); (try simp only [List.set_cons_zero])
    refine wpAnyH_take (i := 11) (oi := { dst := Option.some 19, op := Go.Op.indexAddr 23 (Go.Operand.tmp 17) (Go.Operand.tmp 18), type := 0, pos := "l11_run.go:71", after := #[{ on := 9, ground := Go.Ground.data }, { on := 10, ground := Go.Ground.data }, { on := 2, ground := Go.Ground.guard }], guard := Option.some (2, Bool.false) }) (v := undef) rfl (by kernel_rfl) (by kernel_rfl) (by kernel_rfl) (fun _ _ _ h => h) (Or.inr ⟨by rfl, rfl⟩) (by assumption) ?_
    (try simp only [Act.put]); (try simp only [List.setIfInBounds_toArray]); (try simp only [List.set_cons_succ]); (try simp only [List.set_cons_zero])
    refine wpAnyH_take (i := 12) (oi := { dst := Option.some 20, op := Go.Op.fieldAddr 33 (Go.Operand.tmp 19) 0, type := 0, pos := "l11_run.go:71", after := #[{ on := 11, ground := Go.Ground.data }, { on := 2, ground := Go.Ground.guard }], guard := Option.some (2, Bool.false) }) (v := undef) rfl (by kernel_rfl) (by kernel_rfl) (by kernel_rfl) (fun _ _ _ h => h) (Or.inr ⟨by rfl, rfl⟩) (by assumption) ?_
    (try simp only [Act.put]); (try simp only [List.setIfInBounds_toArray]); (try simp only [List.set_cons_succ]); (try simp only [List.set_cons_zero])
    refine wpAnyH_take (i := 13) (oi := { dst := Option.some 21, op := Go.Op.load 9 (Go.Operand.tmp 20), type := 9, pos := "l11_run.go:71", after := #[{ on := 12, ground := Go.Ground.data }, { on := 2, ground := Go.Ground.guard }], guard := Option.some (2, Bool.false) }) (v := undef) rfl (by kernel_rfl) (by kernel_rfl) (by kernel_rfl) (fun _ _ _ h => h) (Or.inr ⟨by rfl, rfl⟩) (by assumption) ?_
    (try simp only [Act.put]); (try simp only [List.setIfInBounds_toArray]); (try simp only [List.set_cons_succ]); (try simp only [List.set_cons_zero])
    refine wpAnyH_take (i := 14) (oi := { dst := Option.some 22, op := Go.Op.binOp Go.BinOp.neq 9 (Go.Operand.tmp 16) (Go.Operand.tmp 21) 9, type := 4, pos := "l11_run.go:71", after := #[{ on := 8, ground := Go.Ground.data }, { on := 13, ground := Go.Ground.data }, { on := 2, ground := Go.Ground.guard }], guard := Option.some (2, Bool.false) }) (v := undef) rfl (by kernel_rfl) (by kernel_rfl) (by kernel_rfl) (fun _ _ _ h => h) (Or.inr ⟨by rfl, rfl⟩) (by assumption) ?_
    (try simp only [Act.put]); (try simp only [List.setIfInBounds_toArray]); (try simp only [List.set_cons_succ]); (try simp only [List.set_cons_zero])
    refine wpAnyH_take (i := 15) (oi := { dst := Option.some 23, op := Go.Op.pick (Go.Operand.tmp 10) (Go.Operand.const (Go.Value.bool Bool.true)) (Go.Operand.tmp 22), type := 4, pos := "l11_run.go:71", after := #[{ on := 2, ground := Go.Ground.data }, { on := 14, ground := Go.Ground.data }], guard := Option.none }) (v := ?v4) rfl (by kernel_rfl) (by kernel_rfl) (by kernel_rfl) (fun _ _ _ h => h) (Or.inl ⟨by rfl, ?hy4⟩) (by assumption) ?rest4
    case hy4 =>
      intro w9 hSw
      clear hSw
      go_simp
      first | done | with_reducible rfl
    (try simp only [Act.put]); (try simp only [List.setIfInBounds_toArray]); (try simp only [List.set_cons_succ]); (try simp only [List.set_cons_zero])
    refine wpAnyH_done (by kernel_rfl) ?_ _
    go_wp2
    go_ret
    exact ⟨by rw [HN.out]; rfl, bel2 (Below.refl _ _) (by rfl) (by rfl) (by rfl) (by rfl)⟩
  · obtain ⟨j, hjk⟩ : ∃ j, j + 1 = i := ⟨i - 1, by omega⟩
    have hjl : j < l.length := by omega
    obtain ⟨kb, ko, hA, hkb, c0, -, -, c3⟩ := HR.out.cell i hi
    obtain ⟨jb, jo, hA2, hjb, d0, -, -, d3⟩ := HR.out.cell j hjl
    subst hA
    injection hA2 with hA2
    injection hA2 with e1 e2
    subst e1 e2
    have hne := new_pos hjk hi
    obtain ⟨x0, h0⟩ : ∃ y, y = l[i].key := ⟨_, rfl⟩
    obtain ⟨y0, g0⟩ : ∃ y, y = l[j].key := ⟨_, rfl⟩
    obtain ⟨x3, h3⟩ : ∃ y, y = l[i].time := ⟨_, rfl⟩
    obtain ⟨y3, g3⟩ : ∃ y, y = l[j].time := ⟨_, rfl⟩
    rw [← h0, ← g0] at hne
    rw [← h0] at c0
    rw [← g0] at d0
    rw [← h3] at c3
    rw [← g3] at d3
    have hwr : IntKind.i64.wrap ((i : Int) - 1) = (j : Nat) := i64_n j (by omega) _ (by omega)
    have y0' : (0 : Int) ≤ (j : Int) := by omega
    have y1' : (j : Int) < (l.length : Int) := by omega
    have y2' : ¬ (i : Int) = 0 := by omega
    have y3' : ¬ i = 0 := hk0
    have y4' : decide (i = 0) = false := by simpa using y3'
    have y5' : ((i : Int) == 0) = false := by simpa using y3'
    have z0 : (0 : Int) ≤ (i : Int) := by omega
    have z1 : (i : Int) < (l.length : Int) := by omega
    have HSS := Lib.hid (show (fun W : World => W.cell? ⟨kb, ko + j * 4, none⟩ = some (.string y0) ∧ W.cell? ⟨kb, ko + i * 4, none⟩ = some (.string x0)) w.drew from ⟨d0, c0⟩)
    have hkb' : kb < w.heap.size := Nat.lt_of_lt_of_le hkb hB
    have HSO := Lib.hid (show newAt l i = false → seenI l times i = times.any (inT x3 y3) from fun h => by rw [h3, g3]; exact seen_old hjk hi h)
    have HC := Lib.hid (show ∀ W, Below w.heap.size w W → W.cell? ⟨kb, ko + j * 4 + 3, none⟩ = some (.int .i64 y3) ∧ W.cell? ⟨kb, ko + i * 4 + 3, none⟩ = some (.int .i64 x3) from fun W hW => ⟨(hW.cell (p := ⟨kb, ko + j * 4 + 3, none⟩) hkb').trans d3, (hW.cell (p := ⟨kb, ko + i * 4 + 3, none⟩) hkb').trans c3⟩)
    clear c0 d0 c3 d3 h0 g0 h3 g3 hk0 hjk
    rcases Bool.eq_false_or_eq_true (y0.toList == x0.toList) with hq | hq
    · rw [hq] at hne
      have HN := Lib.hid (HSO.out hne)
      clear hne
      go_enter Try.func90, Try.ntmps90
      go_wp2_with fail
      refine wp_region_held_drew (S := (fun W : World => W.cell? ⟨kb, ko + j * 4, none⟩ = some (.string y0) ∧ W.cell? ⟨kb, ko + i * 4, none⟩ = some (.string x0))) (by kernel_rfl) (HSS.out) (fun hHeld => ?_)
      refine wpAnyH_take (i := 0) (oi := { dst := Option.some 8, op := Go.Op.move (Go.Operand.tmp 1), type := 3, pos := "l11_run.go:71", after := #[], guard := Option.none }) (v := ?v21) rfl (by kernel_rfl) (by kernel_rfl) (by kernel_rfl) (fun _ _ _ h => h) (Or.inl ⟨by rfl, ?hy21⟩) (by assumption) ?rest21
      case hy21 =>
        intro w9 hSw
        clear hSw
        go_simp
        first | done | with_reducible rfl
      (try simp only [Act.put]); (try simp only [List.setIfInBounds_toArray]); (try simp only [List.set_cons_succ]); (try simp only [List.set_cons_zero])
      refine wpAnyH_take (i := 1) (oi := { dst := Option.some 9, op := Go.Op.binOp Go.BinOp.eql 3 (Go.Operand.tmp 8) (Go.Operand.const (Go.Value.int Go.IntKind.i64 0)) 3, type := 4, pos := "l11_run.go:71", after := #[{ on := 0, ground := Go.Ground.data }], guard := Option.none }) (v := ?v22) rfl (by kernel_rfl) (by kernel_rfl) (by kernel_rfl) (fun _ _ _ h => h) (Or.inl ⟨by rfl, ?hy22⟩) (by assumption) ?rest22
      case hy22 =>
        intro w9 hSw
        clear hSw
        go_simp
        first | done | with_reducible rfl
      (try simp only [Act.put]); (try simp only [List.setIfInBounds_toArray]); (try simp only [List.set_cons_succ]); (try simp only [List.set_cons_zero])
      refine wpAnyH_take (i := 2) (oi := { dst := Option.some 10, op := Go.Op.move (Go.Operand.tmp 9), type := 4, pos := "l11_run.go:71", after := #[{ on := 1, ground := Go.Ground.data }], guard := Option.none }) (v := ?v23) rfl (by kernel_rfl) (by kernel_rfl) (by kernel_rfl) (fun _ _ _ h => h) (Or.inl ⟨by rfl, ?hy23⟩) (by assumption) ?rest23
      case hy23 =>
        intro w9 hSw
        clear hSw
        go_simp
        first | done | with_reducible rfl
      (try simp only [Act.put]); (try simp only [List.setIfInBounds_toArray]); (try simp only [List.set_cons_succ]); (try simp only [List.set_cons_zero])
      refine wpAnyH_take (i := 3) (oi := { dst := Option.some 11, op := Go.Op.move (Go.Operand.tmp 0), type := 23, pos := "l11_run.go:71", after := #[{ on := 2, ground := Go.Ground.guard }], guard := Option.some (2, Bool.false) }) (v := ?v24) rfl (by kernel_rfl) (by kernel_rfl) (by kernel_rfl) (fun _ _ _ h => h) (Or.inl ⟨by rfl, ?hy24⟩) (by assumption) ?rest24
      case hy24 =>
        intro w9 hSw
        clear hSw
        go_simp
        first | done | with_reducible rfl
      (try simp only [Act.put]); (try simp only [List.setIfInBounds_toArray]); (try simp only [List.set_cons_succ]); (try simp only [List.set_cons_zero])
      refine wpAnyH_take (i := 4) (oi := { dst := Option.some 12, op := Go.Op.move (Go.Operand.tmp 1), type := 3, pos := "l11_run.go:71", after := #[{ on := 2, ground := Go.Ground.guard }], guard := Option.some (2, Bool.false) }) (v := ?v25) rfl (by kernel_rfl) (by kernel_rfl) (by kernel_rfl) (fun _ _ _ h => h) (Or.inl ⟨by rfl, ?hy25⟩) (by assumption) ?rest25
      case hy25 =>
        intro w9 hSw
        clear hSw
        go_simp
        first | done | with_reducible rfl
      (try simp only [Act.put]); (try simp only [List.setIfInBounds_toArray]); (try simp only [List.set_cons_succ]); (try simp only [List.set_cons_zero])
      refine wpAnyH_take (i := 5) (oi := { dst := Option.some 13, op := Go.Op.binOp Go.BinOp.sub 3 (Go.Operand.tmp 12) (Go.Operand.const (Go.Value.int Go.IntKind.i64 1)) 3, type := 3, pos := "l11_run.go:71", after := #[{ on := 4, ground := Go.Ground.data }, { on := 2, ground := Go.Ground.guard }], guard := Option.some (2, Bool.false) }) (v := ?v26) rfl (by kernel_rfl) (by kernel_rfl) (by kernel_rfl) (fun _ _ _ h => h) (Or.inl ⟨by rfl, ?hy26⟩) (by assumption) ?rest26
      case hy26 =>
        intro w9 hSw
        clear hSw
        go_simp
        first | done | with_reducible rfl
      (try simp only [Act.put]); (try simp only [List.setIfInBounds_toArray]); (try simp only [List.set_cons_succ]); (try simp only [List.set_cons_zero])
      refine wpAnyH_take (i := 6) (oi := { dst := Option.some 14, op := Go.Op.indexAddr 23 (Go.Operand.tmp 11) (Go.Operand.tmp 13), type := 0, pos := "l11_run.go:71", after := #[{ on := 3, ground := Go.Ground.data }, { on := 5, ground := Go.Ground.data }, { on := 2, ground := Go.Ground.guard }], guard := Option.some (2, Bool.false) }) (v := ?v27) rfl (by kernel_rfl) (by kernel_rfl) (by kernel_rfl) (fun _ _ _ h => h) (Or.inl ⟨by rfl, ?hy27⟩) (by assumption) ?rest27
      case hy27 =>
        intro w9 hSw
        clear hSw
        go_simp
        first | done | with_reducible rfl
      (try simp only [Act.put]); (try simp only [List.setIfInBounds_toArray]); (try simp only [List.set_cons_succ]); (try simp only [List.set_cons_zero])
      refine wpAnyH_take (i := 7) (oi := { dst := Option.some 15, op := Go.Op.fieldAddr 33 (Go.Operand.tmp 14) 0, type := 0, pos := "l11_run.go:71", after := #[{ on := 6, ground := Go.Ground.data }, { on := 2, ground := Go.Ground.guard }], guard := Option.some (2, Bool.false) }) (v := ?v28) rfl (by kernel_rfl) (by kernel_rfl) (by kernel_rfl) (fun _ _ _ h => h) (Or.inl ⟨by rfl, ?hy28⟩) (by assumption) ?rest28
      case hy28 =>
        intro w9 hSw
        clear hSw
        go_simp
        first | done | with_reducible rfl
      (try simp only [Act.put]); (try simp only [List.setIfInBounds_toArray]); (try simp only [List.set_cons_succ]); (try simp only [List.set_cons_zero])
      refine wpAnyH_take (i := 8) (oi := { dst := Option.some 16, op := Go.Op.load 9 (Go.Operand.tmp 15), type := 9, pos := "l11_run.go:71", after := #[{ on := 7, ground := Go.Ground.data }, { on := 2, ground := Go.Ground.guard }], guard := Option.some (2, Bool.false) }) (v := ?v29) rfl (by kernel_rfl) (by kernel_rfl) (by kernel_rfl) (fun _ _ _ h => h) (Or.inl ⟨by rfl, ?hy29⟩) (by assumption) ?rest29
      case hy29 =>
        intro w9 hSw
        obtain ⟨f0, f1⟩ := hSw
        go_simp
        first | done | with_reducible rfl
      (try simp only [Act.put]); (try simp only [List.setIfInBounds_toArray]); (try simp only [List.set_cons_succ]); (try simp only [List.set_cons_zero])
      refine wpAnyH_take (i := 9) (oi := { dst := Option.some 17, op := Go.Op.move (Go.Operand.tmp 0), type := 23, pos := "l11_run.go:71", after := #[{ on := 2, ground := Go.Ground.guard }], guard := Option.some (2, Bool.false) }) (v := ?v30) rfl (by kernel_rfl) (by kernel_rfl) (by kernel_rfl) (fun _ _ _ h => h) (Or.inl ⟨by rfl, ?hy30⟩) (by assumption) ?rest30
      case hy30 =>
        intro w9 hSw
        clear hSw
        go_simp
        first | done | with_reducible rfl
      (try simp only [Act.put]); (try simp only [List.setIfInBounds_toArray]); (try simp only [List.set_cons_succ]); (try simp only [List.set_cons_zero])
      refine wpAnyH_take (i := 10) (oi := { dst := Option.some 18, op := Go.Op.move (Go.Operand.tmp 1), type := 3, pos := "l11_run.go:71", after := #[{ on := 2, ground := Go.Ground.guard }], guard := Option.some (2, Bool.false) }) (v := ?v31) rfl (by kernel_rfl) (by kernel_rfl) (by kernel_rfl) (fun _ _ _ h => h) (Or.inl ⟨by rfl, ?hy31⟩) (by assumption) ?rest31
      case hy31 =>
        intro w9 hSw
        clear hSw
        go_simp
        first | done | with_reducible rfl
      (try simp only [Act.put]); (try simp only [List.setIfInBounds_toArray]); (try simp only [List.set_cons_succ]); (try simp only [List.set_cons_zero])
      refine wpAnyH_take (i := 11) (oi := { dst := Option.some 19, op := Go.Op.indexAddr 23 (Go.Operand.tmp 17) (Go.Operand.tmp 18), type := 0, pos := "l11_run.go:71", after := #[{ on := 9, ground := Go.Ground.data }, { on := 10, ground := Go.Ground.data }, { on := 2, ground := Go.Ground.guard }], guard := Option.some (2, Bool.false) }) (v := ?v32) rfl (by kernel_rfl) (by kernel_rfl) (by kernel_rfl) (fun _ _ _ h => h) (Or.inl ⟨by rfl, ?hy32⟩) (by assumption) ?rest32
      case hy32 =>
        intro w9 hSw
        clear hSw
        go_simp
        first | done | with_reducible rfl
      (try simp only [Act.put]); (try simp only [List.setIfInBounds_toArray]); (try simp only [List.set_cons_succ]); (try simp only [List.set_cons_zero])
      refine wpAnyH_take (i := 12) (oi := { dst := Option.some 20, op := Go.Op.fieldAddr 33 (Go.Operand.tmp 19) 0, type := 0, pos := "l11_run.go:71", after := #[{ on := 11, ground := Go.Ground.data }, { on := 2, ground := Go.Ground.guard }], guard := Option.some (2, Bool.false) }) (v := ?v33) rfl (by kernel_rfl) (by kernel_rfl) (by kernel_rfl) (fun _ _ _ h => h) (Or.inl ⟨by rfl, ?hy33⟩) (by assumption) ?rest33
      case hy33 =>
        intro w9 hSw
        clear hSw
        go_simp
        first | done | with_reducible rfl
      (try simp only [Act.put]); (try simp only [List.setIfInBounds_toArray]); (try simp only [List.set_cons_succ]); (try simp only [List.set_cons_zero])
      refine wpAnyH_take (i := 13) (oi := { dst := Option.some 21, op := Go.Op.load 9 (Go.Operand.tmp 20), type := 9, pos := "l11_run.go:71", after := #[{ on := 12, ground := Go.Ground.data }, { on := 2, ground := Go.Ground.guard }], guard := Option.some (2, Bool.false) }) (v := ?v34) rfl (by kernel_rfl) (by kernel_rfl) (by kernel_rfl) (fun _ _ _ h => h) (Or.inl ⟨by rfl, ?hy34⟩) (by assumption) ?rest34
      case hy34 =>
        intro w9 hSw
        obtain ⟨f0, f1⟩ := hSw
        go_simp
        first | done | with_reducible rfl
      (try simp only [Act.put]); (try simp only [List.setIfInBounds_toArray]); (try simp only [List.set_cons_succ]); (try simp only [List.set_cons_zero])
      refine wpAnyH_take (i := 14) (oi := { dst := Option.some 22, op := Go.Op.binOp Go.BinOp.neq 9 (Go.Operand.tmp 16) (Go.Operand.tmp 21) 9, type := 4, pos := "l11_run.go:71", after := #[{ on := 8, ground := Go.Ground.data }, { on := 13, ground := Go.Ground.data }, { on := 2, ground := Go.Ground.guard }], guard := Option.some (2, Bool.false) }) (v := ?v35) rfl (by kernel_rfl) (by kernel_rfl) (by kernel_rfl) (fun _ _ _ h => h) (Or.inl ⟨by rfl, ?hy35⟩) (by assumption) ?rest35
      case hy35 =>
        intro w9 hSw
        clear hSw
        go_simp
        first | done | with_reducible rfl
      (try simp only [Act.put]); (try simp only [List.setIfInBounds_toArray]); (try simp only [List.set_cons_succ]); (try simp only [List.set_cons_zero])
      refine wpAnyH_take (i := 15) (oi := { dst := Option.some 23, op := Go.Op.pick (Go.Operand.tmp 10) (Go.Operand.const (Go.Value.bool Bool.true)) (Go.Operand.tmp 22), type := 4, pos := "l11_run.go:71", after := #[{ on := 2, ground := Go.Ground.data }, { on := 14, ground := Go.Ground.data }], guard := Option.none }) (v := ?v36) rfl (by kernel_rfl) (by kernel_rfl) (by kernel_rfl) (fun _ _ _ h => h) (Or.inl ⟨by rfl, ?hy36⟩) (by assumption) ?rest36
      case hy36 =>
        intro w9 hSw
        clear hSw
        go_simp
        first | done | with_reducible rfl
      (try simp only [Act.put]); (try simp only [List.setIfInBounds_toArray]); (try simp only [List.set_cons_succ]); (try simp only [List.set_cons_zero])
      refine wpAnyH_done (by kernel_rfl) ?_ _
      go_wp2_with fail
      go_loopw [7] (fun iv wr => ∃ k : Nat, k ≤ times.length ∧ iv = .int .i64 (k : Nat) ∧ noT times x3 y3 k ∧ Below w.heap.size w wr) (fun iv _ => times.length - (intOf iv).toNat)
      case atStart => exact ⟨0, Nat.zero_le _, rfl, fun i _ h => by omega, bel2 (Below.refl _ _) (by rfl) (by rfl) (by rfl) (by rfl)⟩
      case round =>
        obtain ⟨k, hk, rfl, hno, hbl⟩ := hrel
        have HNO := Lib.hid hno
        have HBL := Lib.hid hbl
        clear hno hbl
        by_cases hlt : k < times.length
        · obtain ⟨tb, to, hA3, htb, t0⟩ := HT.out.cell k hlt
          subst hA3
          have htb' : tb < w.heap.size := Nat.lt_of_lt_of_le htb hB
          obtain ⟨z, hz⟩ : ∃ z, z = times[k] := ⟨_, rfl⟩
          rw [← hz] at t0
          have r0 : wr.cell? ⟨tb, to + k, none⟩ = some (.int .i64 z) := (HBL.out.cell (p := ⟨tb, to + k, none⟩) htb').trans t0
          obtain ⟨r1, r2⟩ := HC.out wr HBL.out
          have k0 : (0 : Int) ≤ (k : Int) := by omega
          have k1 : (k : Int) < (times.length : Int) := by omega
          have HZ := Lib.hid hz
          clear hz t0
          by_cases a1 : x3 ≤ z
          · by_cases a2 : z < y3
            · have HY := Lib.hid (yesT hlt (show inT x3 y3 times[k] = true by rw [← HZ.out]; unfold inT; rw [decide_eq_true a1, decide_eq_true a2]; rfl))
              go_wp2_with fail
              go_quiet (fail)
              go_wp2
              go_ret
              exact ⟨by rw [HN.out, HY.out]; rfl, bel2 HBL.out (by rfl) (by rfl) (by rfl) (by rfl)⟩
            · have HM := Lib.hid (noT_succ hlt HNO.out (show inT x3 y3 times[k] = false by rw [← HZ.out]; unfold inT; rw [decide_eq_false a2, Bool.and_false]))
              have a3 : decide (z < y3) = false := decide_eq_false a2
              have a4 : y3 ≤ z := by omega
              go_wp2_with fail
              go_quiet (fail)
              go_wp2
              go_roundw
              case rel => exact ⟨k + 1, by omega, by go_num, HM.out, bel2 HBL.out (by rfl) (by rfl) (by rfl) (by rfl)⟩
              case measure => simp [intOf]; omega
          · have HM := Lib.hid (noT_succ hlt HNO.out (show inT x3 y3 times[k] = false by rw [← HZ.out]; unfold inT; rw [decide_eq_false a1]; rfl))
            have a3 : decide (x3 ≤ z) = false := decide_eq_false a1
            have a4 : z < x3 := by omega
            go_wp2_with fail
            go_quiet (fail)
            go_wp2
            go_roundw
            case rel => exact ⟨k + 1, by omega, by go_num, HM.out, bel2 HBL.out (by rfl) (by rfl) (by rfl) (by rfl)⟩
            case measure => simp [intOf]; omega
        · have hke : k = times.length := by omega
          subst hke
          have HE := Lib.hid (noT_end HNO.out)
          go_wp2
          go_ret
          exact ⟨by rw [HN.out, HE.out]; rfl, HBL.out⟩
    · rw [hq] at hne
      have HN := Lib.hid (seen_new (times := times) hne)
      clear hne
      go_enter Try.func90, Try.ntmps90
      go_wp2_with fail
      refine wp_region_held_drew (S := (fun W : World => W.cell? ⟨kb, ko + j * 4, none⟩ = some (.string y0) ∧ W.cell? ⟨kb, ko + i * 4, none⟩ = some (.string x0))) (by kernel_rfl) (HSS.out) (fun hHeld => ?_)
      refine wpAnyH_take (i := 0) (oi := { dst := Option.some 8, op := Go.Op.move (Go.Operand.tmp 1), type := 3, pos := "l11_run.go:71", after := #[], guard := Option.none }) (v := ?v5) rfl (by kernel_rfl) (by kernel_rfl) (by kernel_rfl) (fun _ _ _ h => h) (Or.inl ⟨by rfl, ?hy5⟩) (by assumption) ?rest5
      case hy5 =>
        intro w9 hSw
        clear hSw
        go_simp
        first | done | with_reducible rfl
      (try simp only [Act.put]); (try simp only [List.setIfInBounds_toArray]); (try simp only [List.set_cons_succ]); (try simp only [List.set_cons_zero])
      refine wpAnyH_take (i := 1) (oi := { dst := Option.some 9, op := Go.Op.binOp Go.BinOp.eql 3 (Go.Operand.tmp 8) (Go.Operand.const (Go.Value.int Go.IntKind.i64 0)) 3, type := 4, pos := "l11_run.go:71", after := #[{ on := 0, ground := Go.Ground.data }], guard := Option.none }) (v := ?v6) rfl (by kernel_rfl) (by kernel_rfl) (by kernel_rfl) (fun _ _ _ h => h) (Or.inl ⟨by rfl, ?hy6⟩) (by assumption) ?rest6
      case hy6 =>
        intro w9 hSw
        clear hSw
        go_simp
        first | done | with_reducible rfl
      (try simp only [Act.put]); (try simp only [List.setIfInBounds_toArray]); (try simp only [List.set_cons_succ]); (try simp only [List.set_cons_zero])
      refine wpAnyH_take (i := 2) (oi := { dst := Option.some 10, op := Go.Op.move (Go.Operand.tmp 9), type := 4, pos := "l11_run.go:71", after := #[{ on := 1, ground := Go.Ground.data }], guard := Option.none }) (v := ?v7) rfl (by kernel_rfl) (by kernel_rfl) (by kernel_rfl) (fun _ _ _ h => h) (Or.inl ⟨by rfl, ?hy7⟩) (by assumption) ?rest7
      case hy7 =>
        intro w9 hSw
        clear hSw
        go_simp
        first | done | with_reducible rfl
      (try simp only [Act.put]); (try simp only [List.setIfInBounds_toArray]); (try simp only [List.set_cons_succ]); (try simp only [List.set_cons_zero])
      refine wpAnyH_take (i := 3) (oi := { dst := Option.some 11, op := Go.Op.move (Go.Operand.tmp 0), type := 23, pos := "l11_run.go:71", after := #[{ on := 2, ground := Go.Ground.guard }], guard := Option.some (2, Bool.false) }) (v := ?v8) rfl (by kernel_rfl) (by kernel_rfl) (by kernel_rfl) (fun _ _ _ h => h) (Or.inl ⟨by rfl, ?hy8⟩) (by assumption) ?rest8
      case hy8 =>
        intro w9 hSw
        clear hSw
        go_simp
        first | done | with_reducible rfl
      (try simp only [Act.put]); (try simp only [List.setIfInBounds_toArray]); (try simp only [List.set_cons_succ]); (try simp only [List.set_cons_zero])
      refine wpAnyH_take (i := 4) (oi := { dst := Option.some 12, op := Go.Op.move (Go.Operand.tmp 1), type := 3, pos := "l11_run.go:71", after := #[{ on := 2, ground := Go.Ground.guard }], guard := Option.some (2, Bool.false) }) (v := ?v9) rfl (by kernel_rfl) (by kernel_rfl) (by kernel_rfl) (fun _ _ _ h => h) (Or.inl ⟨by rfl, ?hy9⟩) (by assumption) ?rest9
      case hy9 =>
        intro w9 hSw
        clear hSw
        go_simp
        first | done | with_reducible rfl
      (try simp only [Act.put]); (try simp only [List.setIfInBounds_toArray]); (try simp only [List.set_cons_succ]); (try simp only [List.set_cons_zero])
      refine wpAnyH_take (i := 5) (oi := { dst := Option.some 13, op := Go.Op.binOp Go.BinOp.sub 3 (Go.Operand.tmp 12) (Go.Operand.const (Go.Value.int Go.IntKind.i64 1)) 3, type := 3, pos := "l11_run.go:71", after := #[{ on := 4, ground := Go.Ground.data }, { on := 2, ground := Go.Ground.guard }], guard := Option.some (2, Bool.false) }) (v := ?v10) rfl (by kernel_rfl) (by kernel_rfl) (by kernel_rfl) (fun _ _ _ h => h) (Or.inl ⟨by rfl, ?hy10⟩) (by assumption) ?rest10
      case hy10 =>
        intro w9 hSw
        clear hSw
        go_simp
        first | done | with_reducible rfl
      (try simp only [Act.put]); (try simp only [List.setIfInBounds_toArray]); (try simp only [List.set_cons_succ]); (try simp only [List.set_cons_zero])
      refine wpAnyH_take (i := 6) (oi := { dst := Option.some 14, op := Go.Op.indexAddr 23 (Go.Operand.tmp 11) (Go.Operand.tmp 13), type := 0, pos := "l11_run.go:71", after := #[{ on := 3, ground := Go.Ground.data }, { on := 5, ground := Go.Ground.data }, { on := 2, ground := Go.Ground.guard }], guard := Option.some (2, Bool.false) }) (v := ?v11) rfl (by kernel_rfl) (by kernel_rfl) (by kernel_rfl) (fun _ _ _ h => h) (Or.inl ⟨by rfl, ?hy11⟩) (by assumption) ?rest11
      case hy11 =>
        intro w9 hSw
        clear hSw
        go_simp
        first | done | with_reducible rfl
      (try simp only [Act.put]); (try simp only [List.setIfInBounds_toArray]); (try simp only [List.set_cons_succ]); (try simp only [List.set_cons_zero])
      refine wpAnyH_take (i := 7) (oi := { dst := Option.some 15, op := Go.Op.fieldAddr 33 (Go.Operand.tmp 14) 0, type := 0, pos := "l11_run.go:71", after := #[{ on := 6, ground := Go.Ground.data }, { on := 2, ground := Go.Ground.guard }], guard := Option.some (2, Bool.false) }) (v := ?v12) rfl (by kernel_rfl) (by kernel_rfl) (by kernel_rfl) (fun _ _ _ h => h) (Or.inl ⟨by rfl, ?hy12⟩) (by assumption) ?rest12
      case hy12 =>
        intro w9 hSw
        clear hSw
        go_simp
        first | done | with_reducible rfl
      (try simp only [Act.put]); (try simp only [List.setIfInBounds_toArray]); (try simp only [List.set_cons_succ]); (try simp only [List.set_cons_zero])
      refine wpAnyH_take (i := 8) (oi := { dst := Option.some 16, op := Go.Op.load 9 (Go.Operand.tmp 15), type := 9, pos := "l11_run.go:71", after := #[{ on := 7, ground := Go.Ground.data }, { on := 2, ground := Go.Ground.guard }], guard := Option.some (2, Bool.false) }) (v := ?v13) rfl (by kernel_rfl) (by kernel_rfl) (by kernel_rfl) (fun _ _ _ h => h) (Or.inl ⟨by rfl, ?hy13⟩) (by assumption) ?rest13
      case hy13 =>
        intro w9 hSw
        obtain ⟨f0, f1⟩ := hSw
        go_simp
        first | done | with_reducible rfl
      (try simp only [Act.put]); (try simp only [List.setIfInBounds_toArray]); (try simp only [List.set_cons_succ]); (try simp only [List.set_cons_zero])
      refine wpAnyH_take (i := 9) (oi := { dst := Option.some 17, op := Go.Op.move (Go.Operand.tmp 0), type := 23, pos := "l11_run.go:71", after := #[{ on := 2, ground := Go.Ground.guard }], guard := Option.some (2, Bool.false) }) (v := ?v14) rfl (by kernel_rfl) (by kernel_rfl) (by kernel_rfl) (fun _ _ _ h => h) (Or.inl ⟨by rfl, ?hy14⟩) (by assumption) ?rest14
      case hy14 =>
        intro w9 hSw
        clear hSw
        go_simp
        first | done | with_reducible rfl
      (try simp only [Act.put]); (try simp only [List.setIfInBounds_toArray]); (try simp only [List.set_cons_succ]); (try simp only [List.set_cons_zero])
      refine wpAnyH_take (i := 10) (oi := { dst := Option.some 18, op := Go.Op.move (Go.Operand.tmp 1), type := 3, pos := "l11_run.go:71", after := #[{ on := 2, ground := Go.Ground.guard }], guard := Option.some (2, Bool.false) }) (v := ?v15) rfl (by kernel_rfl) (by kernel_rfl) (by kernel_rfl) (fun _ _ _ h => h) (Or.inl ⟨by rfl, ?hy15⟩) (by assumption) ?rest15
      case hy15 =>
        intro w9 hSw
        clear hSw
        go_simp
        first | done | with_reducible rfl
      (try simp only [Act.put]); (try simp only [List.setIfInBounds_toArray]); (try simp only [List.set_cons_succ]); (try simp only [List.set_cons_zero])
      refine wpAnyH_take (i := 11) (oi := { dst := Option.some 19, op := Go.Op.indexAddr 23 (Go.Operand.tmp 17) (Go.Operand.tmp 18), type := 0, pos := "l11_run.go:71", after := #[{ on := 9, ground := Go.Ground.data }, { on := 10, ground := Go.Ground.data }, { on := 2, ground := Go.Ground.guard }], guard := Option.some (2, Bool.false) }) (v := ?v16) rfl (by kernel_rfl) (by kernel_rfl) (by kernel_rfl) (fun _ _ _ h => h) (Or.inl ⟨by rfl, ?hy16⟩) (by assumption) ?rest16
      case hy16 =>
        intro w9 hSw
        clear hSw
        go_simp
        first | done | with_reducible rfl
      (try simp only [Act.put]); (try simp only [List.setIfInBounds_toArray]); (try simp only [List.set_cons_succ]); (try simp only [List.set_cons_zero])
      refine wpAnyH_take (i := 12) (oi := { dst := Option.some 20, op := Go.Op.fieldAddr 33 (Go.Operand.tmp 19) 0, type := 0, pos := "l11_run.go:71", after := #[{ on := 11, ground := Go.Ground.data }, { on := 2, ground := Go.Ground.guard }], guard := Option.some (2, Bool.false) }) (v := ?v17) rfl (by kernel_rfl) (by kernel_rfl) (by kernel_rfl) (fun _ _ _ h => h) (Or.inl ⟨by rfl, ?hy17⟩) (by assumption) ?rest17
      case hy17 =>
        intro w9 hSw
        clear hSw
        go_simp
        first | done | with_reducible rfl
      (try simp only [Act.put]); (try simp only [List.setIfInBounds_toArray]); (try simp only [List.set_cons_succ]); (try simp only [List.set_cons_zero])
      refine wpAnyH_take (i := 13) (oi := { dst := Option.some 21, op := Go.Op.load 9 (Go.Operand.tmp 20), type := 9, pos := "l11_run.go:71", after := #[{ on := 12, ground := Go.Ground.data }, { on := 2, ground := Go.Ground.guard }], guard := Option.some (2, Bool.false) }) (v := ?v18) rfl (by kernel_rfl) (by kernel_rfl) (by kernel_rfl) (fun _ _ _ h => h) (Or.inl ⟨by rfl, ?hy18⟩) (by assumption) ?rest18
      case hy18 =>
        intro w9 hSw
        obtain ⟨f0, f1⟩ := hSw
        go_simp
        first | done | with_reducible rfl
      (try simp only [Act.put]); (try simp only [List.setIfInBounds_toArray]); (try simp only [List.set_cons_succ]); (try simp only [List.set_cons_zero])
      refine wpAnyH_take (i := 14) (oi := { dst := Option.some 22, op := Go.Op.binOp Go.BinOp.neq 9 (Go.Operand.tmp 16) (Go.Operand.tmp 21) 9, type := 4, pos := "l11_run.go:71", after := #[{ on := 8, ground := Go.Ground.data }, { on := 13, ground := Go.Ground.data }, { on := 2, ground := Go.Ground.guard }], guard := Option.some (2, Bool.false) }) (v := ?v19) rfl (by kernel_rfl) (by kernel_rfl) (by kernel_rfl) (fun _ _ _ h => h) (Or.inl ⟨by rfl, ?hy19⟩) (by assumption) ?rest19
      case hy19 =>
        intro w9 hSw
        clear hSw
        go_simp
        first | done | with_reducible rfl
      (try simp only [Act.put]); (try simp only [List.setIfInBounds_toArray]); (try simp only [List.set_cons_succ]); (try simp only [List.set_cons_zero])
      refine wpAnyH_take (i := 15) (oi := { dst := Option.some 23, op := Go.Op.pick (Go.Operand.tmp 10) (Go.Operand.const (Go.Value.bool Bool.true)) (Go.Operand.tmp 22), type := 4, pos := "l11_run.go:71", after := #[{ on := 2, ground := Go.Ground.data }, { on := 14, ground := Go.Ground.data }], guard := Option.none }) (v := ?v20) rfl (by kernel_rfl) (by kernel_rfl) (by kernel_rfl) (fun _ _ _ h => h) (Or.inl ⟨by rfl, ?hy20⟩) (by assumption) ?rest20
      case hy20 =>
        intro w9 hSw
        clear hSw
        go_simp
        first | done | with_reducible rfl
      (try simp only [Act.put]); (try simp only [List.setIfInBounds_toArray]); (try simp only [List.set_cons_succ]); (try simp only [List.set_cons_zero])
      refine wpAnyH_done (by kernel_rfl) ?_ _
      go_wp2
      go_ret
      exact ⟨by rw [HN.out]; rfl, bel2 (Below.refl _ _) (by rfl) (by rfl) (by rfl) (by rfl)⟩

end Go.Proofs.Ytjjalagmlbaafaa.W
