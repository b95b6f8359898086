/-
  visibleEntries: the entries that can be found at some times, or now.
-/
import Derived.Test.YtjjalagmlbaafaaEW
import Derived.Test.YtjjalagmlbaafaaEY
import Derived.Test.YtjjalagmlbaafaaED
import Derived.Test.YtjjalagmlbaafaaEQ
namespace Go.Proofs.Ytjjalagmlbaafaa.W
open Go.RowKit K R

theorem any_seen {l : List En} {times : List Int} {j k : Nat} (hj : j + 1 = k) (hk : k < l.length) (h : newAt l k = false) {a b : Int} (ha : a = l[k].time) (hb : b = (l[j]'(by omega)).time) : seenI l times k = times.any (inT a b) := by
  rw [seen_old hj hk h, ha, hb]
theorem nilE2 (w : World) (base : Nat) : OwnE w base (.slice none 0 0) [] := ⟨rfl, .inl ⟨rfl, rfl⟩⟩

set_option maxHeartbeats 8000000 in
set_option maxRecDepth 100000 in
theorem visI (w : World) (B n c nt ct : Nat) (A A2 : Option Addr) (l : List En) (times : List Int) (hr : Ents w B A n l) (hr2 : Nums w B A2 nt times) (hB : B ≤ w.heap.size) (hn : n ≤ 1000000) (hnt : nt ≤ maxLen) :
    Calls Try.prog 70 #[.slice A n c, .slice A2 nt ct] w fun e w' => ∃ v, e = .returned v ∧ OwnE w' w.heap.size v (selUp l (seenI l times) l.length) ∧ Below w.heap.size w w' := by
  have hlen := hr.len
  subst hlen
  have HR := Lib.hid hr
  have HR2 := Lib.hid hr2
  clear hr hr2
  go_enter Try.func70, Try.ntmps70
  go_wp2_with fail
  go_loopw [5, 10] (fun s i wr => ∃ (v : Value) (k : Nat), k ≤ l.length ∧ i = .int .i64 (k : Nat) ∧ s = v ∧ OwnE wr w.heap.size v (selUp l (seenI l times) k) ∧ Below w.heap.size w wr) (fun _ i _ => l.length - (intOf i).toNat)
  case atStart => exact ⟨_, 0, Nat.zero_le _, rfl, rfl, nilE2 _ _, Below.refl _ _⟩
  case round =>
    obtain ⟨v, k, hk, rfl, hv, ho, hb⟩ := hrel
    have hv1 := hv.symm
    clear hv
    subst hv1
    have HOL := Lib.hid ho
    have HBL := Lib.hid hb
    clear ho hb
    by_cases hlt : k < l.length
    · have hsl := selUp_len l (seenI l times) k
      obtain ⟨OUT, hOUT⟩ : ∃ OUT, OUT = selUp l (seenI l times) k := ⟨_, rfl⟩
      have HOUT := Lib.hid hOUT
      rw [← hOUT] at HOL hsl
      clear hOUT
      obtain ⟨kb, ko, hA, hkb, d0, d1, d2, d3⟩ := (HR.out.below HBL.out hB).cell k hlt
      subst hA
      obtain ⟨x0, h0⟩ : ∃ y, y = l[k].key := ⟨_, rfl⟩
      rw [← h0] at d0
      obtain ⟨x1, h1⟩ : ∃ y, y = l[k].val := ⟨_, rfl⟩
      rw [← h1] at d1
      obtain ⟨x2, h2⟩ : ∃ y, y = l[k].gone := ⟨_, rfl⟩
      rw [← h2] at d2
      obtain ⟨x3, h3⟩ : ∃ y, y = l[k].time := ⟨_, rfl⟩
      rw [← h3] at d3
      have HE := Lib.hid (show en l (k) = ⟨x0, x1, x2, x3⟩ by rw [en_at (by omega), h0, h1, h2, h3])
      clear h0 h1 h2 h3
      have hkbw : kb < wr.heap.size := Nat.lt_of_lt_of_le (Nat.lt_of_lt_of_le hkb hB) HBL.out.size
      have z0 : (0 : Int) ≤ (k : Int) := by omega
      have z1 : (k : Int) < (l.length : Int) := by omega
      obtain ⟨W1, hW1⟩ : ∃ W, W = wr.alloc (.cells #[.string x0, .int .i64 x1, .bool x2, .int .i64 x3] 33) := ⟨_, rfl⟩
      have b1 : Below wr.heap.size wr W1 := by rw [hW1]; exact new_box wr x0 x1 x2 x3
      have HBX := Lib.hid (show Box W1 wr.heap.size x0 x1 x2 x3 by rw [hW1]; exact Box.new _ _ _ _ _)
      have HO1 := Lib.hid (rowBelow HOL.out b1)
      have HB1 := Lib.hid (HBL.out.trans (b1.mono HBL.out.size))
      have HBW := Lib.hid b1
      have HFO := Lib.hid (show ∀ W, Below W1.heap.size W1 W → Calls Try.prog 73 #[.slice (some ⟨kb, ko, none⟩) l.length c, .int .i64 (k : Nat)] W fun e w' => e = .returned (.bool (!newAt l k)) ∧ Below W1.heap.size W1 w' from fun W hW => (followsI W B l.length c k _ l (HR.out.below (HB1.out.trans (hW.mono HB1.out.size)) hB) (by unfold maxLen; omega) hlt).mono fun _ _ ⟨he, hs⟩ => ⟨he, hW.trans ((hs.below _).mono hW.size)⟩)
      have HW1 := Lib.hid hW1
      clear hW1 b1 HOL
      rcases Bool.eq_false_or_eq_true (newAt l k) with hnew | hnew
      · have HQ := Lib.hid (seen_new (times := times) hnew)
        rw [hnew] at HFO
        clear hnew
        go_upto_region 5 with fail
        rw [← HW1.out]
        clear d0 d1 d2 d3
        refine wp_region_held_drew (S := (fun _ : World => True)) (by kernel_rfl) (trivial) (fun hHeld => ?_)
        refine wpAnyH_take (i := 0) (oi := { dst := Option.some 15, op := Go.Op.move (Go.Operand.tmp 0), type := 23, pos := "l11_run.go:168", after := #[], guard := Option.none }) (v := ?v1) rfl (by kernel_rfl) (by kernel_rfl) (by kernel_rfl) (fun _ _ _ h => h) (Or.inl ⟨by rfl, ?hy1⟩) (by assumption) ?rest1
        case hy1 =>
          intro w9 hSw
          clear hSw
          go_simp
          first | done | with_reducible rfl
        (try simp only [Act.put]); (try simp only [List.setIfInBounds_toArray]); (try simp only [List.set_cons_succ]); (try simp only [List.set_cons_zero])
        refine wpAnyH_take (i := 1) (oi := { dst := Option.some 16, op := Go.Op.move (Go.Operand.tmp 6), type := 3, pos := "l11_run.go:168", after := #[], guard := Option.none }) (v := ?v2) rfl (by kernel_rfl) (by kernel_rfl) (by kernel_rfl) (fun _ _ _ h => h) (Or.inl ⟨by rfl, ?hy2⟩) (by assumption) ?rest2
        case hy2 =>
          intro w9 hSw
          clear hSw
          go_simp
          first | done | with_reducible rfl
        (try simp only [Act.put]); (try simp only [List.setIfInBounds_toArray]); (try simp only [List.set_cons_succ]); (try simp only [List.set_cons_zero])
        refine wpAnyH_ready (rs := [2]) (by kernel_rfl) (by simp) ?_
        refine AllReadyH.cons (o := { dst := Option.some 17, op := Go.Op.call { callee := Go.Callee.value (Go.Operand.func 73), args := #[Go.Operand.tmp 15, Go.Operand.tmp 16], argTypes := #[23, 3] }, type := 4, pos := "l11_run.go:168", after := #[{ on := 0, ground := Go.Ground.data }, { on := 1, ground := Go.Ground.data }], guard := Option.none }) rfl (fun K hK => ?_) AllReadyH.nil
        go_simp
        (go_at_call 73; refine Calls.mono (HFO.out _ (by first | exact HB9.out | exact bel2 (Below.refl W1.heap.size W1) (by rfl) (by rfl) (by rfl) (by rfl))) ?_; rintro e w9 ⟨rfl, hb9⟩; have HB9 := Lib.hid hb9; clear hb9)
        (try go_wp2_with fail)
        refine hK.out _ _ (trivial) (fun hHeld => ?_)
        clear hK K
        (try simp only [Act.put]); (try simp only [List.setIfInBounds_toArray]); (try simp only [List.set_cons_succ]); (try simp only [List.set_cons_zero])
        refine wpAnyH_take (i := 3) (oi := { dst := Option.some 18, op := Go.Op.unOp Go.UnOp.not 4 (Go.Operand.tmp 17), type := 4, pos := "l11_run.go:168", after := #[{ on := 2, ground := Go.Ground.data }], guard := Option.none }) (v := ?v3) rfl (by kernel_rfl) (by kernel_rfl) (by kernel_rfl) (fun _ _ _ h => h) (Or.inl ⟨by rfl, ?hy3⟩) (by assumption) ?rest3
        case hy3 =>
          intro w9 hSw
          clear hSw
          go_simp
          first | done | with_reducible rfl
        (try simp only [Act.put]); (try simp only [List.setIfInBounds_toArray]); (try simp only [List.set_cons_succ]); (try simp only [List.set_cons_zero])
        refine wpAnyH_take (i := 4) (oi := { dst := Option.some 19, op := Go.Op.move (Go.Operand.tmp 18), type := 4, pos := "l11_run.go:168", after := #[{ on := 3, ground := Go.Ground.data }, { on := 2, ground := Go.Ground.chain }], guard := Option.none }) (v := ?v4) rfl (by kernel_rfl) (by kernel_rfl) (by kernel_rfl) (fun _ _ _ h => h) (Or.inl ⟨by rfl, ?hy4⟩) (by assumption) ?rest4
        case hy4 =>
          intro w9 hSw
          clear hSw
          go_simp
          first | done | with_reducible rfl
        (try simp only [Act.put]); (try simp only [List.setIfInBounds_toArray]); (try simp only [List.set_cons_succ]); (try simp only [List.set_cons_zero])
        refine wpAnyH_take (i := 5) (oi := { dst := Option.some 20, op := Go.Op.move (Go.Operand.tmp 1), type := 39, pos := "l11_run.go:168", after := #[{ on := 4, ground := Go.Ground.guard }], guard := Option.some (4, Bool.false) }) (v := undef) rfl (by kernel_rfl) (by kernel_rfl) (by kernel_rfl) (fun _ _ _ h => h) (Or.inr ⟨by rfl, rfl⟩) (by assumption) ?_
        (try simp only [Act.put]); (try simp only [List.setIfInBounds_toArray]); (try simp only [List.set_cons_succ]); (try simp only [List.set_cons_zero])
        refine wpAnyH_take (i := 6) (oi := { dst := Option.some 21, op := Go.Op.fieldAddr 33 (Go.Operand.tmp 7) 3, type := 0, pos := "l11_run.go:168", after := #[{ on := 4, ground := Go.Ground.guard }], guard := Option.some (4, Bool.false) }) (v := undef) rfl (by kernel_rfl) (by kernel_rfl) (by kernel_rfl) (fun _ _ _ h => h) (Or.inr ⟨by rfl, rfl⟩) (by assumption) ?_
        (try simp only [Act.put]); (try simp only [List.setIfInBounds_toArray]); (try simp only [List.set_cons_succ]); (try simp only [List.set_cons_zero])
        refine wpAnyH_take (i := 7) (oi := { dst := Option.some 22, op := Go.Op.load 3 (Go.Operand.tmp 21), type := 3, pos := "l11_run.go:168", after := #[{ on := 6, ground := Go.Ground.data }, { on := 4, ground := Go.Ground.guard }], guard := Option.some (4, Bool.false) }) (v := undef) rfl (by kernel_rfl) (by kernel_rfl) (by kernel_rfl) (fun _ _ _ h => h) (Or.inr ⟨by rfl, rfl⟩) (by assumption) ?_
        (try simp only [Act.put]); (try simp only [List.setIfInBounds_toArray]); (try simp only [List.set_cons_succ]); (try simp only [List.set_cons_zero])
        refine wpAnyH_take (i := 8) (oi := { dst := Option.some 23, op := Go.Op.move (Go.Operand.tmp 0), type := 23, pos := "l11_run.go:168", after := #[{ on := 4, ground := Go.Ground.guard }], guard := Option.some (4, Bool.false) }) (v := undef) rfl (by kernel_rfl) (by kernel_rfl) (by kernel_rfl) (fun _ _ _ h => h) (Or.inr ⟨by rfl, rfl⟩) (by assumption) ?_
        (try simp only [Act.put]); (try simp only [List.setIfInBounds_toArray]); (try simp only [List.set_cons_succ]); (try simp only [List.set_cons_zero])
        refine wpAnyH_take (i := 9) (oi := { dst := Option.some 24, op := Go.Op.move (Go.Operand.tmp 6), type := 3, pos := "l11_run.go:168", after := #[{ on := 4, ground := Go.Ground.guard }], guard := Option.some (4, Bool.false) }) (v := undef) rfl (by kernel_rfl) (by kernel_rfl) (by kernel_rfl) (fun _ _ _ h => h) (Or.inr ⟨by rfl, rfl⟩) (by assumption) ?_
        (try simp only [Act.put]); (try simp only [List.setIfInBounds_toArray]); (try simp only [List.set_cons_succ]); (try simp only [List.set_cons_zero])
        refine wpAnyH_take (i := 10) (oi := { dst := Option.some 25, op := Go.Op.binOp Go.BinOp.sub 3 (Go.Operand.tmp 24) (Go.Operand.const (Go.Value.int Go.IntKind.i64 1)) 3, type := 3, pos := "l11_run.go:168", after := #[{ on := 9, ground := Go.Ground.data }, { on := 4, ground := Go.Ground.guard }], guard := Option.some (4, Bool.false) }) (v := undef) rfl (by kernel_rfl) (by kernel_rfl) (by kernel_rfl) (fun _ _ _ h => h) (Or.inr ⟨by rfl, rfl⟩) (by assumption) ?_
        (try simp only [Act.put]); (try simp only [List.setIfInBounds_toArray]); (try simp only [List.set_cons_succ]); (try simp only [List.set_cons_zero])
        refine wpAnyH_take (i := 11) (oi := { dst := Option.some 26, op := Go.Op.indexAddr 23 (Go.Operand.tmp 23) (Go.Operand.tmp 25), type := 0, pos := "l11_run.go:168", after := #[{ on := 8, ground := Go.Ground.data }, { on := 10, ground := Go.Ground.data }, { on := 4, ground := Go.Ground.guard }], guard := Option.some (4, Bool.false) }) (v := undef) rfl (by kernel_rfl) (by kernel_rfl) (by kernel_rfl) (fun _ _ _ h => h) (Or.inr ⟨by rfl, rfl⟩) (by assumption) ?_
        (try simp only [Act.put]); (try simp only [List.setIfInBounds_toArray]); (try simp only [List.set_cons_succ]); (try simp only [List.set_cons_zero])
        refine wpAnyH_take (i := 12) (oi := { dst := Option.some 27, op := Go.Op.fieldAddr 33 (Go.Operand.tmp 26) 3, type := 0, pos := "l11_run.go:168", after := #[{ on := 11, ground := Go.Ground.data }, { on := 4, ground := Go.Ground.guard }], guard := Option.some (4, Bool.false) }) (v := undef) rfl (by kernel_rfl) (by kernel_rfl) (by kernel_rfl) (fun _ _ _ h => h) (Or.inr ⟨by rfl, rfl⟩) (by assumption) ?_
        (try simp only [Act.put]); (try simp only [List.setIfInBounds_toArray]); (try simp only [List.set_cons_succ]); (try simp only [List.set_cons_zero])
        refine wpAnyH_take (i := 13) (oi := { dst := Option.some 28, op := Go.Op.load 3 (Go.Operand.tmp 27), type := 3, pos := "l11_run.go:168", after := #[{ on := 12, ground := Go.Ground.data }, { on := 4, ground := Go.Ground.guard }], guard := Option.some (4, Bool.false) }) (v := undef) rfl (by kernel_rfl) (by kernel_rfl) (by kernel_rfl) (fun _ _ _ h => h) (Or.inr ⟨by rfl, rfl⟩) (by assumption) ?_
        (try simp only [Act.put]); (try simp only [List.setIfInBounds_toArray]); (try simp only [List.set_cons_succ]); (try simp only [List.set_cons_zero])
        refine wpAnyH_take (i := 14) (oi := { dst := Option.some 29, op := Go.Op.call { callee := Go.Callee.value (Go.Operand.func 89), args := #[Go.Operand.tmp 20, Go.Operand.tmp 22, Go.Operand.tmp 28], argTypes := #[39, 3, 3] }, type := 4, pos := "l11_run.go:168", after := #[{ on := 5, ground := Go.Ground.data }, { on := 7, ground := Go.Ground.data }, { on := 13, ground := Go.Ground.data }, { on := 4, ground := Go.Ground.chain }, { on := 4, ground := Go.Ground.guard }], guard := Option.some (4, Bool.false) }) (v := undef) rfl (by kernel_rfl) (by kernel_rfl) (by kernel_rfl) (fun _ _ _ h => h) (Or.inr ⟨by rfl, rfl⟩) (by assumption) ?_
        (try simp only [Act.put]); (try simp only [List.setIfInBounds_toArray]); (try simp only [List.set_cons_succ]); (try simp only [List.set_cons_zero])
        refine wpAnyH_take (i := 15) (oi := { dst := Option.some 30, op := Go.Op.pick (Go.Operand.tmp 19) (Go.Operand.const (Go.Value.bool Bool.true)) (Go.Operand.tmp 29), type := 4, pos := "l11_run.go:168", after := #[{ on := 4, ground := Go.Ground.data }, { on := 14, ground := Go.Ground.data }], guard := Option.none }) (v := ?v5) rfl (by kernel_rfl) (by kernel_rfl) (by kernel_rfl) (fun _ _ _ h => h) (Or.inl ⟨by rfl, ?hy5⟩) (by assumption) ?rest5
        case hy5 =>
          intro w9 hSw
          clear hSw
          go_simp
          first | done | with_reducible rfl
        (try simp only [Act.put]); (try simp only [List.setIfInBounds_toArray]); (try simp only [List.set_cons_succ]); (try simp only [List.set_cons_zero])
        refine wpAnyH_done (by kernel_rfl) ?_ _
        have HN := Lib.hid (show selUp l (seenI l times) (k + 1) = OUT ++ [⟨x0, x1, x2, x3⟩] by rw [selUp_yes HQ.out, HOUT.out, HE.out])
        have HO3 := Lib.hid (rowBelow HO1.out HB9.out)
        have HB3 := Lib.hid (HB1.out.trans (HB9.out.mono HB1.out.size))
        obtain ⟨c0, c1, c2, c3⟩ := (Box.keep (HBX.out) HB9.out).cells
        have HOA := Lib.hid (show OwnE (w9.alloc (.cells #[.string x0, .int .i64 x1, .bool x2, .int .i64 x3] 33)) w.heap.size v OUT from World.ownsRow.alloc HO3.out _)
        have HBA := Lib.hid (HB3.out.alloc HB3.out.size (.cells #[.string x0, .int .i64 x1, .bool x2, .int .i64 x3] 33))
        have hc0 : (w9.alloc (.cells #[.string x0, .int .i64 x1, .bool x2, .int .i64 x3] 33)).cell? ⟨w9.heap.size, 0, none⟩ = some (.string x0) := by rw [cell_of_row _ _ _ _ _ _ (heap_alloc_new _ _)]; rfl
        have hc1 : (w9.alloc (.cells #[.string x0, .int .i64 x1, .bool x2, .int .i64 x3] 33)).cell? ⟨w9.heap.size, 1, none⟩ = some (.int .i64 x1) := by rw [cell_of_row _ _ _ _ _ _ (heap_alloc_new _ _)]; rfl
        have hc2 : (w9.alloc (.cells #[.string x0, .int .i64 x1, .bool x2, .int .i64 x3] 33)).cell? ⟨w9.heap.size, 2, none⟩ = some (.bool x2) := by rw [cell_of_row _ _ _ _ _ _ (heap_alloc_new _ _)]; rfl
        have hc3 : (w9.alloc (.cells #[.string x0, .int .i64 x1, .bool x2, .int .i64 x3] 33)).cell? ⟨w9.heap.size, 3, none⟩ = some (.int .i64 x3) := by rw [cell_of_row _ _ _ _ _ _ (heap_alloc_new _ _)]; rfl
        go_wp2_with (at_builtin; refine app_en rfl (.tmp 31) (.tmp 33) rfl (w9.alloc (.cells #[.string x0, .int .i64 x1, .bool x2, .int .i64 x3] 33)) w.heap.size v OUT rfl HOA.out w9.heap.size 1 ⟨x0, x1, x2, x3⟩ rfl hc0 hc1 hc2 hc3 (by omega) HBA.out.size ?_; intro vb wb ob gb; have OB := Lib.hid ob; have BB := Lib.hid (HBA.out.grown gb HBA.out.size fun k hk => (World.ownsRow.lt HOA.out k hk).1); clear ob gb)
        go_roundw
        case rel => exact ⟨_, k + 1, by omega, by go_num, rfl, by rw [HN.out]; exact OB.out, BB.out⟩
        case measure => simp [intOf]; omega
      · obtain ⟨j, hj⟩ : ∃ j, j + 1 = k := ⟨k - 1, by
          have : k ≠ 0 := fun h => by rw [h, new_zero] at hnew; cases hnew
          omega⟩
        obtain ⟨jb, jo, hA2, hjb, -, -, -, g3⟩ := (HR.out.below HBL.out hB).cell j (by omega)
        injection hA2 with hA2
        injection hA2 with e1 e2
        subst e1 e2
        have hjl : j < l.length := by omega
        obtain ⟨y3, hy3⟩ : ∃ y, y = l[j].time := ⟨_, rfl⟩
        rw [← hy3] at g3
        have hx3 : x3 = l[k].time := by have h := HE.out; rw [en_at hlt] at h; rw [h]
        obtain ⟨q, hq⟩ : ∃ q, q = times.any (inT x3 y3) := ⟨_, rfl⟩
        have hsq : seenI l times k = q := by rw [any_seen hj hlt hnew hx3 hy3, hq]
        have HAN := Lib.hid (show ∀ W, Below W1.heap.size W1 W → Calls Try.prog 89 #[.slice A2 nt ct, .int .i64 x3, .int .i64 y3] W fun e w' => e = .returned (.bool q) ∧ Below W1.heap.size W1 w' from fun W hW => by
          rw [hq]
          exact (anyI W B nt ct A2 times x3 y3 (HR2.out.below (HB1.out.trans (hW.mono HB1.out.size)) hB) (Nat.le_trans hB (HB1.out.trans (hW.mono HB1.out.size)).size) hnt).mono fun _ _ ⟨he, hs⟩ => ⟨he, hW.trans (hs.mono hW.size)⟩)
        have HSS := Lib.hid (show ∀ W, Below W1.heap.size W1 W → (fun W : World => W.cell? ⟨wr.heap.size, 3, none⟩ = some (.int .i64 x3) ∧ W.cell? ⟨kb, ko + j * 4 + 3, none⟩ = some (.int .i64 y3)) W from fun W hW => ⟨(Box.keep HBX.out hW).cells.2.2.2, ((HBW.out.trans (hW.mono HBW.out.size)).cell (p := ⟨kb, ko + j * 4 + 3, none⟩) hkbw).trans g3⟩)
        have ej : IntKind.i64.wrap ((k : Int) - 1) = (j : Int) := by rw [show (k : Int) - 1 = (j : Int) by omega]; exact i64_z _ (by omega) (by omega)
        have j0 : (0 : Int) ≤ (j : Int) := by omega
        have j1 : (j : Int) < (l.length : Int) := by omega
        have HQ := Lib.hid hsq
        rw [hnew] at HFO
        clear hnew hj hx3 hy3 hq hsq g3
        go_upto_region 5 with fail
        rw [← HW1.out]
        clear d0 d1 d2 d3
        cases q with
        | true =>
          refine wp_region_held_drew (S := (fun W : World => W.cell? ⟨wr.heap.size, 3, none⟩ = some (.int .i64 x3) ∧ W.cell? ⟨kb, ko + j * 4 + 3, none⟩ = some (.int .i64 y3))) (by kernel_rfl) (HSS.out _ (by first | exact HB9.out | exact bel2 (Below.refl W1.heap.size W1) (by rfl) (by rfl) (by rfl) (by rfl))) (fun hHeld => ?_)
          refine wpAnyH_take (i := 0) (oi := { dst := Option.some 15, op := Go.Op.move (Go.Operand.tmp 0), type := 23, pos := "l11_run.go:168", after := #[], guard := Option.none }) (v := ?v6) rfl (by kernel_rfl) (by kernel_rfl) (by kernel_rfl) (fun _ _ _ h => h) (Or.inl ⟨by rfl, ?hy6⟩) (by assumption) ?rest6
          case hy6 =>
            intro w9 hSw
            clear hSw
            go_simp
            first | done | with_reducible rfl
          (try simp only [Act.put]); (try simp only [List.setIfInBounds_toArray]); (try simp only [List.set_cons_succ]); (try simp only [List.set_cons_zero])
          refine wpAnyH_take (i := 1) (oi := { dst := Option.some 16, op := Go.Op.move (Go.Operand.tmp 6), type := 3, pos := "l11_run.go:168", after := #[], guard := Option.none }) (v := ?v7) rfl (by kernel_rfl) (by kernel_rfl) (by kernel_rfl) (fun _ _ _ h => h) (Or.inl ⟨by rfl, ?hy7⟩) (by assumption) ?rest7
          case hy7 =>
            intro w9 hSw
            clear hSw
            go_simp
            first | done | with_reducible rfl
          (try simp only [Act.put]); (try simp only [List.setIfInBounds_toArray]); (try simp only [List.set_cons_succ]); (try simp only [List.set_cons_zero])
          refine wpAnyH_ready (rs := [2]) (by kernel_rfl) (by simp) ?_
          refine AllReadyH.cons (o := { dst := Option.some 17, op := Go.Op.call { callee := Go.Callee.value (Go.Operand.func 73), args := #[Go.Operand.tmp 15, Go.Operand.tmp 16], argTypes := #[23, 3] }, type := 4, pos := "l11_run.go:168", after := #[{ on := 0, ground := Go.Ground.data }, { on := 1, ground := Go.Ground.data }], guard := Option.none }) rfl (fun K hK => ?_) AllReadyH.nil
          go_simp
          (go_at_call 73; refine Calls.mono (HFO.out _ (by first | exact HB9.out | exact bel2 (Below.refl W1.heap.size W1) (by rfl) (by rfl) (by rfl) (by rfl))) ?_; rintro e w9 ⟨rfl, hb9⟩; have HB9 := Lib.hid hb9; clear hb9)
          (try go_wp2_with fail)
          refine hK.out _ _ (HSS.out _ (by first | exact HB9.out | exact bel2 (Below.refl W1.heap.size W1) (by rfl) (by rfl) (by rfl) (by rfl))) (fun hHeld => ?_)
          clear hK K
          (try simp only [Act.put]); (try simp only [List.setIfInBounds_toArray]); (try simp only [List.set_cons_succ]); (try simp only [List.set_cons_zero])
          refine wpAnyH_take (i := 3) (oi := { dst := Option.some 18, op := Go.Op.unOp Go.UnOp.not 4 (Go.Operand.tmp 17), type := 4, pos := "l11_run.go:168", after := #[{ on := 2, ground := Go.Ground.data }], guard := Option.none }) (v := ?v8) rfl (by kernel_rfl) (by kernel_rfl) (by kernel_rfl) (fun _ _ _ h => h) (Or.inl ⟨by rfl, ?hy8⟩) (by assumption) ?rest8
          case hy8 =>
            intro w9 hSw
            clear hSw
            go_simp
            first | done | with_reducible rfl
          (try simp only [Act.put]); (try simp only [List.setIfInBounds_toArray]); (try simp only [List.set_cons_succ]); (try simp only [List.set_cons_zero])
          refine wpAnyH_take (i := 4) (oi := { dst := Option.some 19, op := Go.Op.move (Go.Operand.tmp 18), type := 4, pos := "l11_run.go:168", after := #[{ on := 3, ground := Go.Ground.data }, { on := 2, ground := Go.Ground.chain }], guard := Option.none }) (v := ?v9) rfl (by kernel_rfl) (by kernel_rfl) (by kernel_rfl) (fun _ _ _ h => h) (Or.inl ⟨by rfl, ?hy9⟩) (by assumption) ?rest9
          case hy9 =>
            intro w9 hSw
            clear hSw
            go_simp
            first | done | with_reducible rfl
          (try simp only [Act.put]); (try simp only [List.setIfInBounds_toArray]); (try simp only [List.set_cons_succ]); (try simp only [List.set_cons_zero])
          refine wpAnyH_take (i := 5) (oi := { dst := Option.some 20, op := Go.Op.move (Go.Operand.tmp 1), type := 39, pos := "l11_run.go:168", after := #[{ on := 4, ground := Go.Ground.guard }], guard := Option.some (4, Bool.false) }) (v := ?v10) rfl (by kernel_rfl) (by kernel_rfl) (by kernel_rfl) (fun _ _ _ h => h) (Or.inl ⟨by rfl, ?hy10⟩) (by assumption) ?rest10
          case hy10 =>
            intro w9 hSw
            clear hSw
            go_simp
            first | done | with_reducible rfl
          (try simp only [Act.put]); (try simp only [List.setIfInBounds_toArray]); (try simp only [List.set_cons_succ]); (try simp only [List.set_cons_zero])
          refine wpAnyH_take (i := 6) (oi := { dst := Option.some 21, op := Go.Op.fieldAddr 33 (Go.Operand.tmp 7) 3, type := 0, pos := "l11_run.go:168", after := #[{ on := 4, ground := Go.Ground.guard }], guard := Option.some (4, Bool.false) }) (v := ?v11) rfl (by kernel_rfl) (by kernel_rfl) (by kernel_rfl) (fun _ _ _ h => h) (Or.inl ⟨by rfl, ?hy11⟩) (by assumption) ?rest11
          case hy11 =>
            intro w9 hSw
            clear hSw
            go_simp
            first | done | with_reducible rfl
          (try simp only [Act.put]); (try simp only [List.setIfInBounds_toArray]); (try simp only [List.set_cons_succ]); (try simp only [List.set_cons_zero])
          refine wpAnyH_take (i := 7) (oi := { dst := Option.some 22, op := Go.Op.load 3 (Go.Operand.tmp 21), type := 3, pos := "l11_run.go:168", after := #[{ on := 6, ground := Go.Ground.data }, { on := 4, ground := Go.Ground.guard }], guard := Option.some (4, Bool.false) }) (v := ?v12) rfl (by kernel_rfl) (by kernel_rfl) (by kernel_rfl) (fun _ _ _ h => h) (Or.inl ⟨by rfl, ?hy12⟩) (by assumption) ?rest12
          case hy12 =>
            intro w9 hSw
            obtain ⟨f0, f1⟩ := hSw
            go_simp
            first | done | with_reducible rfl
          (try simp only [Act.put]); (try simp only [List.setIfInBounds_toArray]); (try simp only [List.set_cons_succ]); (try simp only [List.set_cons_zero])
          refine wpAnyH_take (i := 8) (oi := { dst := Option.some 23, op := Go.Op.move (Go.Operand.tmp 0), type := 23, pos := "l11_run.go:168", after := #[{ on := 4, ground := Go.Ground.guard }], guard := Option.some (4, Bool.false) }) (v := ?v13) rfl (by kernel_rfl) (by kernel_rfl) (by kernel_rfl) (fun _ _ _ h => h) (Or.inl ⟨by rfl, ?hy13⟩) (by assumption) ?rest13
          case hy13 =>
            intro w9 hSw
            clear hSw
            go_simp
            first | done | with_reducible rfl
          (try simp only [Act.put]); (try simp only [List.setIfInBounds_toArray]); (try simp only [List.set_cons_succ]); (try simp only [List.set_cons_zero])
          refine wpAnyH_take (i := 9) (oi := { dst := Option.some 24, op := Go.Op.move (Go.Operand.tmp 6), type := 3, pos := "l11_run.go:168", after := #[{ on := 4, ground := Go.Ground.guard }], guard := Option.some (4, Bool.false) }) (v := ?v14) rfl (by kernel_rfl) (by kernel_rfl) (by kernel_rfl) (fun _ _ _ h => h) (Or.inl ⟨by rfl, ?hy14⟩) (by assumption) ?rest14
          case hy14 =>
            intro w9 hSw
            clear hSw
            go_simp
            first | done | with_reducible rfl
          (try simp only [Act.put]); (try simp only [List.setIfInBounds_toArray]); (try simp only [List.set_cons_succ]); (try simp only [List.set_cons_zero])
          refine wpAnyH_take (i := 10) (oi := { dst := Option.some 25, op := Go.Op.binOp Go.BinOp.sub 3 (Go.Operand.tmp 24) (Go.Operand.const (Go.Value.int Go.IntKind.i64 1)) 3, type := 3, pos := "l11_run.go:168", after := #[{ on := 9, ground := Go.Ground.data }, { on := 4, ground := Go.Ground.guard }], guard := Option.some (4, Bool.false) }) (v := ?v15) rfl (by kernel_rfl) (by kernel_rfl) (by kernel_rfl) (fun _ _ _ h => h) (Or.inl ⟨by rfl, ?hy15⟩) (by assumption) ?rest15
          case hy15 =>
            intro w9 hSw
            clear hSw
            go_simp
            first | done | with_reducible rfl
          (try simp only [Act.put]); (try simp only [List.setIfInBounds_toArray]); (try simp only [List.set_cons_succ]); (try simp only [List.set_cons_zero])
          refine wpAnyH_take (i := 11) (oi := { dst := Option.some 26, op := Go.Op.indexAddr 23 (Go.Operand.tmp 23) (Go.Operand.tmp 25), type := 0, pos := "l11_run.go:168", after := #[{ on := 8, ground := Go.Ground.data }, { on := 10, ground := Go.Ground.data }, { on := 4, ground := Go.Ground.guard }], guard := Option.some (4, Bool.false) }) (v := ?v16) rfl (by kernel_rfl) (by kernel_rfl) (by kernel_rfl) (fun _ _ _ h => h) (Or.inl ⟨by rfl, ?hy16⟩) (by assumption) ?rest16
          case hy16 =>
            intro w9 hSw
            clear hSw
            go_simp
            first | done | with_reducible rfl
          (try simp only [Act.put]); (try simp only [List.setIfInBounds_toArray]); (try simp only [List.set_cons_succ]); (try simp only [List.set_cons_zero])
          refine wpAnyH_take (i := 12) (oi := { dst := Option.some 27, op := Go.Op.fieldAddr 33 (Go.Operand.tmp 26) 3, type := 0, pos := "l11_run.go:168", after := #[{ on := 11, ground := Go.Ground.data }, { on := 4, ground := Go.Ground.guard }], guard := Option.some (4, Bool.false) }) (v := ?v17) rfl (by kernel_rfl) (by kernel_rfl) (by kernel_rfl) (fun _ _ _ h => h) (Or.inl ⟨by rfl, ?hy17⟩) (by assumption) ?rest17
          case hy17 =>
            intro w9 hSw
            clear hSw
            go_simp
            first | done | with_reducible rfl
          (try simp only [Act.put]); (try simp only [List.setIfInBounds_toArray]); (try simp only [List.set_cons_succ]); (try simp only [List.set_cons_zero])
          refine wpAnyH_take (i := 13) (oi := { dst := Option.some 28, op := Go.Op.load 3 (Go.Operand.tmp 27), type := 3, pos := "l11_run.go:168", after := #[{ on := 12, ground := Go.Ground.data }, { on := 4, ground := Go.Ground.guard }], guard := Option.some (4, Bool.false) }) (v := ?v18) rfl (by kernel_rfl) (by kernel_rfl) (by kernel_rfl) (fun _ _ _ h => h) (Or.inl ⟨by rfl, ?hy18⟩) (by assumption) ?rest18
          case hy18 =>
            intro w9 hSw
            obtain ⟨f0, f1⟩ := hSw
            go_simp
            first | done | with_reducible rfl
          (try simp only [Act.put]); (try simp only [List.setIfInBounds_toArray]); (try simp only [List.set_cons_succ]); (try simp only [List.set_cons_zero])
          refine wpAnyH_ready (rs := [14]) (by kernel_rfl) (by simp) ?_
          refine AllReadyH.cons (o := { dst := Option.some 29, op := Go.Op.call { callee := Go.Callee.value (Go.Operand.func 89), args := #[Go.Operand.tmp 20, Go.Operand.tmp 22, Go.Operand.tmp 28], argTypes := #[39, 3, 3] }, type := 4, pos := "l11_run.go:168", after := #[{ on := 5, ground := Go.Ground.data }, { on := 7, ground := Go.Ground.data }, { on := 13, ground := Go.Ground.data }, { on := 4, ground := Go.Ground.chain }, { on := 4, ground := Go.Ground.guard }], guard := Option.some (4, Bool.false) }) rfl (fun K hK => ?_) AllReadyH.nil
          go_simp
          (go_at_call 89; refine Calls.mono (HAN.out _ (by first | exact HB9.out | exact bel2 (Below.refl W1.heap.size W1) (by rfl) (by rfl) (by rfl) (by rfl))) ?_; rintro e w9 ⟨rfl, hb9⟩; have HB9 := Lib.hid hb9; clear hb9)
          (try go_wp2_with fail)
          refine hK.out _ _ (HSS.out _ (by first | exact HB9.out | exact bel2 (Below.refl W1.heap.size W1) (by rfl) (by rfl) (by rfl) (by rfl))) (fun hHeld => ?_)
          clear hK K
          (try simp only [Act.put]); (try simp only [List.setIfInBounds_toArray]); (try simp only [List.set_cons_succ]); (try simp only [List.set_cons_zero])
          refine wpAnyH_take (i := 15) (oi := { dst := Option.some 30, op := Go.Op.pick (Go.Operand.tmp 19) (Go.Operand.const (Go.Value.bool Bool.true)) (Go.Operand.tmp 29), type := 4, pos := "l11_run.go:168", after := #[{ on := 4, ground := Go.Ground.data }, { on := 14, ground := Go.Ground.data }], guard := Option.none }) (v := ?v19) rfl (by kernel_rfl) (by kernel_rfl) (by kernel_rfl) (fun _ _ _ h => h) (Or.inl ⟨by rfl, ?hy19⟩) (by assumption) ?rest19
          case hy19 =>
            intro w9 hSw
            clear hSw
            go_simp
            first | done | with_reducible rfl
          (try simp only [Act.put]); (try simp only [List.setIfInBounds_toArray]); (try simp only [List.set_cons_succ]); (try simp only [List.set_cons_zero])
          refine wpAnyH_done (by kernel_rfl) ?_ _
          have HN := Lib.hid (show selUp l (seenI l times) (k + 1) = OUT ++ [⟨x0, x1, x2, x3⟩] by rw [selUp_yes HQ.out, HOUT.out, HE.out])
          have HO3 := Lib.hid (rowBelow HO1.out HB9.out)
          have HB3 := Lib.hid (HB1.out.trans (HB9.out.mono HB1.out.size))
          obtain ⟨c0, c1, c2, c3⟩ := (Box.keep (HBX.out) HB9.out).cells
          have HOA := Lib.hid (show OwnE (w9.alloc (.cells #[.string x0, .int .i64 x1, .bool x2, .int .i64 x3] 33)) w.heap.size v OUT from World.ownsRow.alloc HO3.out _)
          have HBA := Lib.hid (HB3.out.alloc HB3.out.size (.cells #[.string x0, .int .i64 x1, .bool x2, .int .i64 x3] 33))
          have hc0 : (w9.alloc (.cells #[.string x0, .int .i64 x1, .bool x2, .int .i64 x3] 33)).cell? ⟨w9.heap.size, 0, none⟩ = some (.string x0) := by rw [cell_of_row _ _ _ _ _ _ (heap_alloc_new _ _)]; rfl
          have hc1 : (w9.alloc (.cells #[.string x0, .int .i64 x1, .bool x2, .int .i64 x3] 33)).cell? ⟨w9.heap.size, 1, none⟩ = some (.int .i64 x1) := by rw [cell_of_row _ _ _ _ _ _ (heap_alloc_new _ _)]; rfl
          have hc2 : (w9.alloc (.cells #[.string x0, .int .i64 x1, .bool x2, .int .i64 x3] 33)).cell? ⟨w9.heap.size, 2, none⟩ = some (.bool x2) := by rw [cell_of_row _ _ _ _ _ _ (heap_alloc_new _ _)]; rfl
          have hc3 : (w9.alloc (.cells #[.string x0, .int .i64 x1, .bool x2, .int .i64 x3] 33)).cell? ⟨w9.heap.size, 3, none⟩ = some (.int .i64 x3) := by rw [cell_of_row _ _ _ _ _ _ (heap_alloc_new _ _)]; rfl
          go_wp2_with (at_builtin; refine app_en rfl (.tmp 31) (.tmp 33) rfl (w9.alloc (.cells #[.string x0, .int .i64 x1, .bool x2, .int .i64 x3] 33)) w.heap.size v OUT rfl HOA.out w9.heap.size 1 ⟨x0, x1, x2, x3⟩ rfl hc0 hc1 hc2 hc3 (by omega) HBA.out.size ?_; intro vb wb ob gb; have OB := Lib.hid ob; have BB := Lib.hid (HBA.out.grown gb HBA.out.size fun k hk => (World.ownsRow.lt HOA.out k hk).1); clear ob gb)
          go_roundw
          case rel => exact ⟨_, k + 1, by omega, by go_num, rfl, by rw [HN.out]; exact OB.out, BB.out⟩
          case measure => simp [intOf]; omega
        | false =>
          refine wp_region_held_drew (S := (fun W : World => W.cell? ⟨wr.heap.size, 3, none⟩ = some (.int .i64 x3) ∧ W.cell? ⟨kb, ko + j * 4 + 3, none⟩ = some (.int .i64 y3))) (by kernel_rfl) (HSS.out _ (by first | exact HB9.out | exact bel2 (Below.refl W1.heap.size W1) (by rfl) (by rfl) (by rfl) (by rfl))) (fun hHeld => ?_)
          refine wpAnyH_take (i := 0) (oi := { dst := Option.some 15, op := Go.Op.move (Go.Operand.tmp 0), type := 23, pos := "l11_run.go:168", after := #[], guard := Option.none }) (v := ?v20) rfl (by kernel_rfl) (by kernel_rfl) (by kernel_rfl) (fun _ _ _ h => h) (Or.inl ⟨by rfl, ?hy20⟩) (by assumption) ?rest20
          case hy20 =>
            intro w9 hSw
            clear hSw
            go_simp
            first | done | with_reducible rfl
          (try simp only [Act.put]); (try simp only [List.setIfInBounds_toArray]); (try simp only [List.set_cons_succ]); (try simp only [List.set_cons_zero])
          refine wpAnyH_take (i := 1) (oi := { dst := Option.some 16, op := Go.Op.move (Go.Operand.tmp 6), type := 3, pos := "l11_run.go:168", after := #[], guard := Option.none }) (v := ?v21) rfl (by kernel_rfl) (by kernel_rfl) (by kernel_rfl) (fun _ _ _ h => h) (Or.inl ⟨by rfl, ?hy21⟩) (by assumption) ?rest21
          case hy21 =>
            intro w9 hSw
            clear hSw
            go_simp
            first | done | with_reducible rfl
          (try simp only [Act.put]); (try simp only [List.setIfInBounds_toArray]); (try simp only [List.set_cons_succ]); (try simp only [List.set_cons_zero])
          refine wpAnyH_ready (rs := [2]) (by kernel_rfl) (by simp) ?_
          refine AllReadyH.cons (o := { dst := Option.some 17, op := Go.Op.call { callee := Go.Callee.value (Go.Operand.func 73), args := #[Go.Operand.tmp 15, Go.Operand.tmp 16], argTypes := #[23, 3] }, type := 4, pos := "l11_run.go:168", after := #[{ on := 0, ground := Go.Ground.data }, { on := 1, ground := Go.Ground.data }], guard := Option.none }) rfl (fun K hK => ?_) AllReadyH.nil
          go_simp
          (go_at_call 73; refine Calls.mono (HFO.out _ (by first | exact HB9.out | exact bel2 (Below.refl W1.heap.size W1) (by rfl) (by rfl) (by rfl) (by rfl))) ?_; rintro e w9 ⟨rfl, hb9⟩; have HB9 := Lib.hid hb9; clear hb9)
          (try go_wp2_with fail)
          refine hK.out _ _ (HSS.out _ (by first | exact HB9.out | exact bel2 (Below.refl W1.heap.size W1) (by rfl) (by rfl) (by rfl) (by rfl))) (fun hHeld => ?_)
          clear hK K
          (try simp only [Act.put]); (try simp only [List.setIfInBounds_toArray]); (try simp only [List.set_cons_succ]); (try simp only [List.set_cons_zero])
          refine wpAnyH_take (i := 3) (oi := { dst := Option.some 18, op := Go.Op.unOp Go.UnOp.not 4 (Go.Operand.tmp 17), type := 4, pos := "l11_run.go:168", after := #[{ on := 2, ground := Go.Ground.data }], guard := Option.none }) (v := ?v22) rfl (by kernel_rfl) (by kernel_rfl) (by kernel_rfl) (fun _ _ _ h => h) (Or.inl ⟨by rfl, ?hy22⟩) (by assumption) ?rest22
          case hy22 =>
            intro w9 hSw
            clear hSw
            go_simp
            first | done | with_reducible rfl
          (try simp only [Act.put]); (try simp only [List.setIfInBounds_toArray]); (try simp only [List.set_cons_succ]); (try simp only [List.set_cons_zero])
          refine wpAnyH_take (i := 4) (oi := { dst := Option.some 19, op := Go.Op.move (Go.Operand.tmp 18), type := 4, pos := "l11_run.go:168", after := #[{ on := 3, ground := Go.Ground.data }, { on := 2, ground := Go.Ground.chain }], guard := Option.none }) (v := ?v23) rfl (by kernel_rfl) (by kernel_rfl) (by kernel_rfl) (fun _ _ _ h => h) (Or.inl ⟨by rfl, ?hy23⟩) (by assumption) ?rest23
          case hy23 =>
            intro w9 hSw
            clear hSw
            go_simp
            first | done | with_reducible rfl
          (try simp only [Act.put]); (try simp only [List.setIfInBounds_toArray]); (try simp only [List.set_cons_succ]); (try simp only [List.set_cons_zero])
          refine wpAnyH_take (i := 5) (oi := { dst := Option.some 20, op := Go.Op.move (Go.Operand.tmp 1), type := 39, pos := "l11_run.go:168", after := #[{ on := 4, ground := Go.Ground.guard }], guard := Option.some (4, Bool.false) }) (v := ?v24) rfl (by kernel_rfl) (by kernel_rfl) (by kernel_rfl) (fun _ _ _ h => h) (Or.inl ⟨by rfl, ?hy24⟩) (by assumption) ?rest24
          case hy24 =>
            intro w9 hSw
            clear hSw
            go_simp
            first | done | with_reducible rfl
          (try simp only [Act.put]); (try simp only [List.setIfInBounds_toArray]); (try simp only [List.set_cons_succ]); (try simp only [List.set_cons_zero])
          refine wpAnyH_take (i := 6) (oi := { dst := Option.some 21, op := Go.Op.fieldAddr 33 (Go.Operand.tmp 7) 3, type := 0, pos := "l11_run.go:168", after := #[{ on := 4, ground := Go.Ground.guard }], guard := Option.some (4, Bool.false) }) (v := ?v25) rfl (by kernel_rfl) (by kernel_rfl) (by kernel_rfl) (fun _ _ _ h => h) (Or.inl ⟨by rfl, ?hy25⟩) (by assumption) ?rest25
          case hy25 =>
            intro w9 hSw
            clear hSw
            go_simp
            first | done | with_reducible rfl
          (try simp only [Act.put]); (try simp only [List.setIfInBounds_toArray]); (try simp only [List.set_cons_succ]); (try simp only [List.set_cons_zero])
          refine wpAnyH_take (i := 7) (oi := { dst := Option.some 22, op := Go.Op.load 3 (Go.Operand.tmp 21), type := 3, pos := "l11_run.go:168", after := #[{ on := 6, ground := Go.Ground.data }, { on := 4, ground := Go.Ground.guard }], guard := Option.some (4, Bool.false) }) (v := ?v26) rfl (by kernel_rfl) (by kernel_rfl) (by kernel_rfl) (fun _ _ _ h => h) (Or.inl ⟨by rfl, ?hy26⟩) (by assumption) ?rest26
          case hy26 =>
            intro w9 hSw
            obtain ⟨f0, f1⟩ := hSw
            go_simp
            first | done | with_reducible rfl
          (try simp only [Act.put]); (try simp only [List.setIfInBounds_toArray]); (try simp only [List.set_cons_succ]); (try simp only [List.set_cons_zero])
          refine wpAnyH_take (i := 8) (oi := { dst := Option.some 23, op := Go.Op.move (Go.Operand.tmp 0), type := 23, pos := "l11_run.go:168", after := #[{ on := 4, ground := Go.Ground.guard }], guard := Option.some (4, Bool.false) }) (v := ?v27) rfl (by kernel_rfl) (by kernel_rfl) (by kernel_rfl) (fun _ _ _ h => h) (Or.inl ⟨by rfl, ?hy27⟩) (by assumption) ?rest27
          case hy27 =>
            intro w9 hSw
            clear hSw
            go_simp
            first | done | with_reducible rfl
          (try simp only [Act.put]); (try simp only [List.setIfInBounds_toArray]); (try simp only [List.set_cons_succ]); (try simp only [List.set_cons_zero])
          refine wpAnyH_take (i := 9) (oi := { dst := Option.some 24, op := Go.Op.move (Go.Operand.tmp 6), type := 3, pos := "l11_run.go:168", after := #[{ on := 4, ground := Go.Ground.guard }], guard := Option.some (4, Bool.false) }) (v := ?v28) rfl (by kernel_rfl) (by kernel_rfl) (by kernel_rfl) (fun _ _ _ h => h) (Or.inl ⟨by rfl, ?hy28⟩) (by assumption) ?rest28
          case hy28 =>
            intro w9 hSw
            clear hSw
            go_simp
            first | done | with_reducible rfl
          (try simp only [Act.put]); (try simp only [List.setIfInBounds_toArray]); (try simp only [List.set_cons_succ]); (try simp only [List.set_cons_zero])
          refine wpAnyH_take (i := 10) (oi := { dst := Option.some 25, op := Go.Op.binOp Go.BinOp.sub 3 (Go.Operand.tmp 24) (Go.Operand.const (Go.Value.int Go.IntKind.i64 1)) 3, type := 3, pos := "l11_run.go:168", after := #[{ on := 9, ground := Go.Ground.data }, { on := 4, ground := Go.Ground.guard }], guard := Option.some (4, Bool.false) }) (v := ?v29) rfl (by kernel_rfl) (by kernel_rfl) (by kernel_rfl) (fun _ _ _ h => h) (Or.inl ⟨by rfl, ?hy29⟩) (by assumption) ?rest29
          case hy29 =>
            intro w9 hSw
            clear hSw
            go_simp
            first | done | with_reducible rfl
          (try simp only [Act.put]); (try simp only [List.setIfInBounds_toArray]); (try simp only [List.set_cons_succ]); (try simp only [List.set_cons_zero])
          refine wpAnyH_take (i := 11) (oi := { dst := Option.some 26, op := Go.Op.indexAddr 23 (Go.Operand.tmp 23) (Go.Operand.tmp 25), type := 0, pos := "l11_run.go:168", after := #[{ on := 8, ground := Go.Ground.data }, { on := 10, ground := Go.Ground.data }, { on := 4, ground := Go.Ground.guard }], guard := Option.some (4, Bool.false) }) (v := ?v30) rfl (by kernel_rfl) (by kernel_rfl) (by kernel_rfl) (fun _ _ _ h => h) (Or.inl ⟨by rfl, ?hy30⟩) (by assumption) ?rest30
          case hy30 =>
            intro w9 hSw
            clear hSw
            go_simp
            first | done | with_reducible rfl
          (try simp only [Act.put]); (try simp only [List.setIfInBounds_toArray]); (try simp only [List.set_cons_succ]); (try simp only [List.set_cons_zero])
          refine wpAnyH_take (i := 12) (oi := { dst := Option.some 27, op := Go.Op.fieldAddr 33 (Go.Operand.tmp 26) 3, type := 0, pos := "l11_run.go:168", after := #[{ on := 11, ground := Go.Ground.data }, { on := 4, ground := Go.Ground.guard }], guard := Option.some (4, Bool.false) }) (v := ?v31) rfl (by kernel_rfl) (by kernel_rfl) (by kernel_rfl) (fun _ _ _ h => h) (Or.inl ⟨by rfl, ?hy31⟩) (by assumption) ?rest31
          case hy31 =>
            intro w9 hSw
            clear hSw
            go_simp
            first | done | with_reducible rfl
          (try simp only [Act.put]); (try simp only [List.setIfInBounds_toArray]); (try simp only [List.set_cons_succ]); (try simp only [List.set_cons_zero])
          refine wpAnyH_take (i := 13) (oi := { dst := Option.some 28, op := Go.Op.load 3 (Go.Operand.tmp 27), type := 3, pos := "l11_run.go:168", after := #[{ on := 12, ground := Go.Ground.data }, { on := 4, ground := Go.Ground.guard }], guard := Option.some (4, Bool.false) }) (v := ?v32) rfl (by kernel_rfl) (by kernel_rfl) (by kernel_rfl) (fun _ _ _ h => h) (Or.inl ⟨by rfl, ?hy32⟩) (by assumption) ?rest32
          case hy32 =>
            intro w9 hSw
            obtain ⟨f0, f1⟩ := hSw
            go_simp
            first | done | with_reducible rfl
          (try simp only [Act.put]); (try simp only [List.setIfInBounds_toArray]); (try simp only [List.set_cons_succ]); (try simp only [List.set_cons_zero])
          refine wpAnyH_ready (rs := [14]) (by kernel_rfl) (by simp) ?_
          refine AllReadyH.cons (o := { dst := Option.some 29, op := Go.Op.call { callee := Go.Callee.value (Go.Operand.func 89), args := #[Go.Operand.tmp 20, Go.Operand.tmp 22, Go.Operand.tmp 28], argTypes := #[39, 3, 3] }, type := 4, pos := "l11_run.go:168", after := #[{ on := 5, ground := Go.Ground.data }, { on := 7, ground := Go.Ground.data }, { on := 13, ground := Go.Ground.data }, { on := 4, ground := Go.Ground.chain }, { on := 4, ground := Go.Ground.guard }], guard := Option.some (4, Bool.false) }) rfl (fun K hK => ?_) AllReadyH.nil
          go_simp
          (go_at_call 89; refine Calls.mono (HAN.out _ (by first | exact HB9.out | exact bel2 (Below.refl W1.heap.size W1) (by rfl) (by rfl) (by rfl) (by rfl))) ?_; rintro e w9 ⟨rfl, hb9⟩; have HB9 := Lib.hid hb9; clear hb9)
          (try go_wp2_with fail)
          refine hK.out _ _ (HSS.out _ (by first | exact HB9.out | exact bel2 (Below.refl W1.heap.size W1) (by rfl) (by rfl) (by rfl) (by rfl))) (fun hHeld => ?_)
          clear hK K
          (try simp only [Act.put]); (try simp only [List.setIfInBounds_toArray]); (try simp only [List.set_cons_succ]); (try simp only [List.set_cons_zero])
          refine wpAnyH_take (i := 15) (oi := { dst := Option.some 30, op := Go.Op.pick (Go.Operand.tmp 19) (Go.Operand.const (Go.Value.bool Bool.true)) (Go.Operand.tmp 29), type := 4, pos := "l11_run.go:168", after := #[{ on := 4, ground := Go.Ground.data }, { on := 14, ground := Go.Ground.data }], guard := Option.none }) (v := ?v33) rfl (by kernel_rfl) (by kernel_rfl) (by kernel_rfl) (fun _ _ _ h => h) (Or.inl ⟨by rfl, ?hy33⟩) (by assumption) ?rest33
          case hy33 =>
            intro w9 hSw
            clear hSw
            go_simp
            first | done | with_reducible rfl
          (try simp only [Act.put]); (try simp only [List.setIfInBounds_toArray]); (try simp only [List.set_cons_succ]); (try simp only [List.set_cons_zero])
          refine wpAnyH_done (by kernel_rfl) ?_ _
          have HN := Lib.hid (show selUp l (seenI l times) (k + 1) = OUT by rw [selUp_no HQ.out, HOUT.out])
          have HO3 := Lib.hid (rowBelow HO1.out HB9.out)
          have HB3 := Lib.hid (HB1.out.trans (HB9.out.mono HB1.out.size))
          go_wp2
          go_roundw
          case rel => exact ⟨_, k + 1, by omega, by go_num, rfl, by rw [HN.out]; exact HO3.out, HB3.out⟩
          case measure => simp [intOf]; omega
    · have hke : k = l.length := by omega
      subst hke
      go_wp2
      go_ret
      exact ⟨_, rfl, HOL.out, HBL.out⟩

end Go.Proofs.Ytjjalagmlbaafaa.W
