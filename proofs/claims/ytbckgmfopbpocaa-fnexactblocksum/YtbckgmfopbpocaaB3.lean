/-
  Contracts of the model's texts of entries and of runs, and of BlockText.
-/
import Derived.Test.YtbckgmfopbpocaaB2
import Derived.Test.YtbckgmfopbpocaaE2
import Derived.OrdersHeld
import Derived.Deep.RegionHeld
import Derived.Deep.Cut
namespace Go.Proofs.Ytbckgmfopbpocaa.W
open Go.RowKit K R B

theorem dec_size (n : Nat) (h : n < 1000) : (ofL (decL n)).size ≤ 3 := by rw [ofL_size]; exact dec_len3 h
theorem en_gone (k : ByteArray) (v t : Int) (D : ByteArray) (hD : D = ofL (decL t.toNat)) : k ++ (⟨#[45]⟩ : ByteArray) ++ D ++ (⟨#[59]⟩ : ByteArray) = ofL (enL ⟨k, v, true, t⟩) := by
  subst hD
  unfold enL bodyL
  simp only [if_true, List.nil_append]
  rw [ofL_app, ofL_app, show (45 : UInt8) :: decL t.toNat = [45] ++ decL t.toNat from rfl, ofL_app, of_data, ByteArray.append_assoc, ByteArray.append_assoc, ByteArray.append_assoc, ByteArray.append_assoc]
  rfl
theorem en_there (k : ByteArray) (v t : Int) (D V : ByteArray) (hD : D = ofL (decL t.toNat)) (hV : V = ofL (decL v.toNat)) : k ++ (⟨#[61]⟩ : ByteArray) ++ V ++ (⟨#[45]⟩ : ByteArray) ++ D ++ (⟨#[59]⟩ : ByteArray) = ofL (enL ⟨k, v, false, t⟩) := by
  subst hD hV
  unfold enL bodyL
  simp only [Bool.false_eq_true, if_false]
  rw [show (61 : UInt8) :: decL v.toNat = [61] ++ decL v.toNat from rfl, show (45 : UInt8) :: decL t.toNat = [45] ++ decL t.toNat from rfl]
  rw [ofL_app, ofL_app, ofL_app, ofL_app, ofL_app, of_data]
  simp only [ByteArray.append_assoc]
  rfl

set_option maxHeartbeats 8000000 in
set_option maxRecDepth 100000 in
/-- the text of an entry -/
theorem entS (k : ByteArray) (v : Int) (g : Bool) (t : Int) (w : World) (hk : k.size ≤ 5) (hv0 : 0 ≤ v) (hv1 : v ≤ 999) (ht0 : 0 ≤ t) (ht1 : t ≤ 999) :
    Calls Try.prog 12 #[.agg #[.string k, .int .i64 v, .bool g, .int .i64 t]] w fun e w' => e = .returned (.string (ofL (enL ⟨k, v, g, t⟩))) ∧ Below w.heap.size w w' := by
  obtain ⟨D, hD⟩ : ∃ D, D = ofL (decL t.toNat) := ⟨_, rfl⟩
  obtain ⟨V, hV⟩ : ∃ V, V = ofL (decL v.toNat) := ⟨_, rfl⟩
  have hDs : D.size ≤ 3 := by rw [hD]; exact dec_size _ (by omega)
  have hVs : V.size ≤ 3 := by rw [hV]; exact dec_size _ (by omega)
  have HDEC := Lib.hid (show ∀ (W : World) (x : Int) (r : ByteArray), (x = t ∧ r = D ∨ x = v ∧ r = V) → Calls Try.prog 18 #[.int .i64 x] W fun e w' => e = .returned (.string r) ∧ Below W.heap.size W w' from fun W x r h => by
    rcases h with ⟨rfl, rfl⟩ | ⟨rfl, rfl⟩
    · have := decS x.toNat W (by omega)
      rw [Int.toNat_of_nonneg ht0] at this
      rw [hD]; exact this
    · have := decS x.toNat W (by omega)
      rw [Int.toNat_of_nonneg hv0] at this
      rw [hV]; exact this)
  have HD := Lib.hid hD
  have HV := Lib.hid hV
  have n1 : ¬ 9223372036854775807 < k.size + 1 := by omega
  clear hD hV
  obtain ⟨WX, hWX⟩ : ∃ W, W = w.alloc (.cells #[.string k, .int .i64 v, .bool g, .int .i64 t] 38) := ⟨_, rfl⟩
  have HYX := Lib.hid (show ∀ W, Below WX.heap.size WX W → W.heap[w.heap.size]? = some (.cells #[.string k, .int .i64 v, .bool g, .int .i64 t] 38 (0, 0)) from fun W hW => by rw [hW.block _ (by rw [hWX]; simp), hWX]; exact heap_alloc_new _ _)
  have HBW := Lib.hid (show Below w.heap.size w WX by rw [hWX]; exact (Below.refl _ _).alloc (Nat.le_refl _) _)
  have HBX := Lib.hid (Below.refl WX.heap.size WX)
  have HSS := Lib.hid (show ∀ W, Below WX.heap.size WX W → (fun W : World => W.cell? ⟨w.heap.size, 0, none⟩ = some (.string k) ∧ W.cell? ⟨w.heap.size, 1, none⟩ = some (.int .i64 v) ∧ W.cell? ⟨w.heap.size, 2, none⟩ = some (.bool g) ∧ W.cell? ⟨w.heap.size, 3, none⟩ = some (.int .i64 t)) W from fun W hW => by
    have h := HYX.out W hW
    refine ⟨?_, ?_, ?_, ?_⟩ <;> (rw [cell_of_row _ _ _ _ _ _ h]; rfl))
  have HWX := Lib.hid hWX
  clear hWX HYX
  cases g with
  | true =>
    have n2 : ¬ 9223372036854775807 < k.size + 1 + D.size := by omega
    have n3 : ¬ 9223372036854775807 < k.size + 1 + D.size + 1 := by omega
    go_enter Try.func12, Try.ntmps12
    go_upto_region 2 with fail
    rw [← HWX.out]
    refine wp_region_held_drew (S := (fun W : World => W.cell? ⟨w.heap.size, 0, none⟩ = some (.string k) ∧ W.cell? ⟨w.heap.size, 1, none⟩ = some (.int .i64 v) ∧ W.cell? ⟨w.heap.size, 2, none⟩ = some (.bool true) ∧ W.cell? ⟨w.heap.size, 3, none⟩ = some (.int .i64 t))) (by kernel_rfl) (HSS.out _ (by exact bel2 HBX.out (by rfl) (by rfl) (by rfl) (by rfl))) (fun hHeld => ?_)
    refine wpAnyH_take (i := 0) (oi := { dst := Option.some 5, op := Go.Op.fieldAddr 38 (Go.Operand.tmp 1) 0, type := 0, pos := "l21_block.go:17", after := #[], guard := Option.none }) (v := ?v1) rfl (by kernel_rfl) (by kernel_rfl) (by kernel_rfl) (fun _ _ _ h => h) (Or.inl ⟨by rfl, ?hy1⟩) (by assumption) ?rest1
    case hy1 =>
      intro w9 hSw
      clear hSw
      go_simp
      first | done | with_reducible rfl
    (try simp only [Act.put]); (try simp only [List.setIfInBounds_toArray]); (try simp only [List.set_cons_succ]); (try simp only [List.set_cons_zero])
    refine wpAnyH_take (i := 1) (oi := { dst := Option.some 6, op := Go.Op.load 9 (Go.Operand.tmp 5), type := 9, pos := "l21_block.go:17", after := #[{ on := 0, ground := Go.Ground.data }], guard := Option.none }) (v := ?v2) rfl (by kernel_rfl) (by kernel_rfl) (by kernel_rfl) (fun _ _ _ h => h) (Or.inl ⟨by rfl, ?hy2⟩) (by assumption) ?rest2
    case hy2 =>
      intro w9 hSw
      obtain ⟨f0, f1, f2, f3⟩ := hSw
      go_simp
      first | done | with_reducible rfl
    (try simp only [Act.put]); (try simp only [List.setIfInBounds_toArray]); (try simp only [List.set_cons_succ]); (try simp only [List.set_cons_zero])
    refine wpAnyH_take (i := 2) (oi := { dst := Option.some 7, op := Go.Op.binOp Go.BinOp.add 9 (Go.Operand.tmp 6) (Go.Operand.const (Go.Value.string { data := #[45] })) 9, type := 9, pos := "l21_block.go:17", after := #[{ on := 1, ground := Go.Ground.data }], guard := Option.none }) (v := ?v3) rfl (by kernel_rfl) (by kernel_rfl) (by kernel_rfl) (fun _ _ _ h => h) (Or.inl ⟨by rfl, ?hy3⟩) (by assumption) ?rest3
    case hy3 =>
      intro w9 hSw
      clear hSw
      go_simp
      first | done | with_reducible rfl
    (try simp only [Act.put]); (try simp only [List.setIfInBounds_toArray]); (try simp only [List.set_cons_succ]); (try simp only [List.set_cons_zero])
    refine wpAnyH_take (i := 3) (oi := { dst := Option.some 8, op := Go.Op.fieldAddr 38 (Go.Operand.tmp 1) 3, type := 0, pos := "l21_block.go:17", after := #[], guard := Option.none }) (v := ?v4) rfl (by kernel_rfl) (by kernel_rfl) (by kernel_rfl) (fun _ _ _ h => h) (Or.inl ⟨by rfl, ?hy4⟩) (by assumption) ?rest4
    case hy4 =>
      intro w9 hSw
      clear hSw
      go_simp
      first | done | with_reducible rfl
    (try simp only [Act.put]); (try simp only [List.setIfInBounds_toArray]); (try simp only [List.set_cons_succ]); (try simp only [List.set_cons_zero])
    refine wpAnyH_take (i := 4) (oi := { dst := Option.some 9, op := Go.Op.load 3 (Go.Operand.tmp 8), type := 3, pos := "l21_block.go:17", after := #[{ on := 3, ground := Go.Ground.data }], guard := Option.none }) (v := ?v5) rfl (by kernel_rfl) (by kernel_rfl) (by kernel_rfl) (fun _ _ _ h => h) (Or.inl ⟨by rfl, ?hy5⟩) (by assumption) ?rest5
    case hy5 =>
      intro w9 hSw
      obtain ⟨f0, f1, f2, f3⟩ := hSw
      go_simp
      first | done | with_reducible rfl
    (try simp only [Act.put]); (try simp only [List.setIfInBounds_toArray]); (try simp only [List.set_cons_succ]); (try simp only [List.set_cons_zero])
    refine wpAnyH_ready (rs := [5]) (by kernel_rfl) (by simp) ?_
    refine AllReadyH.cons (o := { dst := Option.some 10, op := Go.Op.call { callee := Go.Callee.value (Go.Operand.func 18), args := #[Go.Operand.tmp 9], argTypes := #[3] }, type := 9, pos := "l21_block.go:17", after := #[{ on := 4, ground := Go.Ground.data }], guard := Option.none }) rfl (fun K hK => ?_) AllReadyH.nil
    go_simp
    (go_at_call 18; refine Calls.mono (HDEC.out _ t D (by first | exact .inl ⟨rfl, rfl⟩ | exact .inr ⟨rfl, rfl⟩)) ?_; rintro e w9 ⟨rfl, hb9⟩; have HB9 := Lib.hid (show Below WX.heap.size WX w9 from (show Below WX.heap.size WX _ from bel2 HBX.out (by rfl) (by rfl) (by rfl) (by rfl)).trans (hb9.mono (Nat.le_refl _))); clear hb9)
    (try go_wp2_with fail)
    refine hK.out _ _ (HSS.out _ (by first | exact HB9.out | exact bel2 HBX.out (by rfl) (by rfl) (by rfl) (by rfl))) (fun hHeld => ?_)
    clear hK K
    (try simp only [Act.put]); (try simp only [List.setIfInBounds_toArray]); (try simp only [List.set_cons_succ]); (try simp only [List.set_cons_zero])
    refine wpAnyH_take (i := 6) (oi := { dst := Option.some 11, op := Go.Op.binOp Go.BinOp.add 9 (Go.Operand.tmp 7) (Go.Operand.tmp 10) 9, type := 9, pos := "l21_block.go:17", after := #[{ on := 2, ground := Go.Ground.data }, { on := 5, ground := Go.Ground.data }], guard := Option.none }) (v := ?v6) rfl (by kernel_rfl) (by kernel_rfl) (by kernel_rfl) (fun _ _ _ h => h) (Or.inl ⟨by rfl, ?hy6⟩) (by assumption) ?rest6
    case hy6 =>
      intro w9 hSw
      clear hSw
      go_simp
      first | done | with_reducible rfl
    (try simp only [Act.put]); (try simp only [List.setIfInBounds_toArray]); (try simp only [List.set_cons_succ]); (try simp only [List.set_cons_zero])
    refine wpAnyH_take (i := 7) (oi := { dst := Option.some 12, op := Go.Op.binOp Go.BinOp.add 9 (Go.Operand.tmp 11) (Go.Operand.const (Go.Value.string { data := #[59] })) 9, type := 9, pos := "l21_block.go:17", after := #[{ on := 6, ground := Go.Ground.data }], guard := Option.none }) (v := ?v7) rfl (by kernel_rfl) (by kernel_rfl) (by kernel_rfl) (fun _ _ _ h => h) (Or.inl ⟨by rfl, ?hy7⟩) (by assumption) ?rest7
    case hy7 =>
      intro w9 hSw
      clear hSw
      go_simp
      first | done | with_reducible rfl
    (try simp only [Act.put]); (try simp only [List.setIfInBounds_toArray]); (try simp only [List.set_cons_succ]); (try simp only [List.set_cons_zero])
    refine wpAnyH_take (i := 8) (oi := { dst := Option.some 2, op := Go.Op.assign (Go.Operand.tmp 12), type := 9, pos := "l21_block.go:17", after := #[{ on := 7, ground := Go.Ground.data }, { on := 5, ground := Go.Ground.chain }, { on := 0, ground := Go.Ground.phase }, { on := 1, ground := Go.Ground.phase }, { on := 2, ground := Go.Ground.phase }, { on := 3, ground := Go.Ground.phase }, { on := 4, ground := Go.Ground.phase }, { on := 5, ground := Go.Ground.phase }, { on := 6, ground := Go.Ground.phase }, { on := 7, ground := Go.Ground.phase }], guard := Option.none }) (v := ?v8) rfl (by kernel_rfl) (by kernel_rfl) (by kernel_rfl) (fun _ _ _ h => h) (Or.inl ⟨by rfl, ?hy8⟩) (by assumption) ?rest8
    case hy8 =>
      intro w9 hSw
      clear hSw
      go_simp
      first | done | with_reducible rfl
    (try simp only [Act.put]); (try simp only [List.setIfInBounds_toArray]); (try simp only [List.set_cons_succ]); (try simp only [List.set_cons_zero])
    refine wpAnyH_done (by kernel_rfl) ?_ _
    go_wp2
    go_ret
    refine ⟨?_, HBW.out.trans (HB9.out.mono HBW.out.size)⟩
    rw [← en_gone k v t D HD.out]; rfl
  | false =>
    have n2 : ¬ 9223372036854775807 < k.size + 1 + V.size := by omega
    have n3 : ¬ 9223372036854775807 < k.size + 1 + V.size + 1 := by omega
    have n4 : ¬ 9223372036854775807 < k.size + 1 + V.size + 1 + D.size := by omega
    have n5 : ¬ 9223372036854775807 < k.size + 1 + V.size + 1 + D.size + 1 := by omega
    go_enter Try.func12, Try.ntmps12
    go_upto_region 3 with fail
    rw [← HWX.out]
    refine wp_region_held_drew (S := (fun W : World => W.cell? ⟨w.heap.size, 0, none⟩ = some (.string k) ∧ W.cell? ⟨w.heap.size, 1, none⟩ = some (.int .i64 v) ∧ W.cell? ⟨w.heap.size, 2, none⟩ = some (.bool false) ∧ W.cell? ⟨w.heap.size, 3, none⟩ = some (.int .i64 t))) (by kernel_rfl) (HSS.out _ (by exact bel2 HBX.out (by rfl) (by rfl) (by rfl) (by rfl))) (fun hHeld => ?_)
    refine wpAnyH_take (i := 0) (oi := { dst := Option.some 13, op := Go.Op.fieldAddr 38 (Go.Operand.tmp 1) 0, type := 0, pos := "l21_block.go:19", after := #[], guard := Option.none }) (v := ?v9) rfl (by kernel_rfl) (by kernel_rfl) (by kernel_rfl) (fun _ _ _ h => h) (Or.inl ⟨by rfl, ?hy9⟩) (by assumption) ?rest9
    case hy9 =>
      intro w9 hSw
      clear hSw
      go_simp
      first | done | with_reducible rfl
    (try simp only [Act.put]); (try simp only [List.setIfInBounds_toArray]); (try simp only [List.set_cons_succ]); (try simp only [List.set_cons_zero])
    refine wpAnyH_take (i := 1) (oi := { dst := Option.some 14, op := Go.Op.load 9 (Go.Operand.tmp 13), type := 9, pos := "l21_block.go:19", after := #[{ on := 0, ground := Go.Ground.data }], guard := Option.none }) (v := ?v10) rfl (by kernel_rfl) (by kernel_rfl) (by kernel_rfl) (fun _ _ _ h => h) (Or.inl ⟨by rfl, ?hy10⟩) (by assumption) ?rest10
    case hy10 =>
      intro w9 hSw
      obtain ⟨f0, f1, f2, f3⟩ := hSw
      go_simp
      first | done | with_reducible rfl
    (try simp only [Act.put]); (try simp only [List.setIfInBounds_toArray]); (try simp only [List.set_cons_succ]); (try simp only [List.set_cons_zero])
    refine wpAnyH_take (i := 2) (oi := { dst := Option.some 15, op := Go.Op.binOp Go.BinOp.add 9 (Go.Operand.tmp 14) (Go.Operand.const (Go.Value.string { data := #[61] })) 9, type := 9, pos := "l21_block.go:19", after := #[{ on := 1, ground := Go.Ground.data }], guard := Option.none }) (v := ?v11) rfl (by kernel_rfl) (by kernel_rfl) (by kernel_rfl) (fun _ _ _ h => h) (Or.inl ⟨by rfl, ?hy11⟩) (by assumption) ?rest11
    case hy11 =>
      intro w9 hSw
      clear hSw
      go_simp
      first | done | with_reducible rfl
    (try simp only [Act.put]); (try simp only [List.setIfInBounds_toArray]); (try simp only [List.set_cons_succ]); (try simp only [List.set_cons_zero])
    refine wpAnyH_take (i := 3) (oi := { dst := Option.some 16, op := Go.Op.fieldAddr 38 (Go.Operand.tmp 1) 1, type := 0, pos := "l21_block.go:19", after := #[], guard := Option.none }) (v := ?v12) rfl (by kernel_rfl) (by kernel_rfl) (by kernel_rfl) (fun _ _ _ h => h) (Or.inl ⟨by rfl, ?hy12⟩) (by assumption) ?rest12
    case hy12 =>
      intro w9 hSw
      clear hSw
      go_simp
      first | done | with_reducible rfl
    (try simp only [Act.put]); (try simp only [List.setIfInBounds_toArray]); (try simp only [List.set_cons_succ]); (try simp only [List.set_cons_zero])
    refine wpAnyH_take (i := 4) (oi := { dst := Option.some 17, op := Go.Op.load 3 (Go.Operand.tmp 16), type := 3, pos := "l21_block.go:19", after := #[{ on := 3, ground := Go.Ground.data }], guard := Option.none }) (v := ?v13) rfl (by kernel_rfl) (by kernel_rfl) (by kernel_rfl) (fun _ _ _ h => h) (Or.inl ⟨by rfl, ?hy13⟩) (by assumption) ?rest13
    case hy13 =>
      intro w9 hSw
      obtain ⟨f0, f1, f2, f3⟩ := hSw
      go_simp
      first | done | with_reducible rfl
    (try simp only [Act.put]); (try simp only [List.setIfInBounds_toArray]); (try simp only [List.set_cons_succ]); (try simp only [List.set_cons_zero])
    refine wpAnyH_take (i := 8) (oi := { dst := Option.some 21, op := Go.Op.fieldAddr 38 (Go.Operand.tmp 1) 3, type := 0, pos := "l21_block.go:19", after := #[], guard := Option.none }) (v := ?v14) rfl (by kernel_rfl) (by kernel_rfl) (by kernel_rfl) (fun _ _ _ h => h) (Or.inl ⟨by rfl, ?hy14⟩) (by assumption) ?rest14
    case hy14 =>
      intro w9 hSw
      clear hSw
      go_simp
      first | done | with_reducible rfl
    (try simp only [Act.put]); (try simp only [List.setIfInBounds_toArray]); (try simp only [List.set_cons_succ]); (try simp only [List.set_cons_zero])
    refine wpAnyH_take (i := 9) (oi := { dst := Option.some 22, op := Go.Op.load 3 (Go.Operand.tmp 21), type := 3, pos := "l21_block.go:19", after := #[{ on := 8, ground := Go.Ground.data }], guard := Option.none }) (v := ?v15) rfl (by kernel_rfl) (by kernel_rfl) (by kernel_rfl) (fun _ _ _ h => h) (Or.inl ⟨by rfl, ?hy15⟩) (by assumption) ?rest15
    case hy15 =>
      intro w9 hSw
      obtain ⟨f0, f1, f2, f3⟩ := hSw
      go_simp
      first | done | with_reducible rfl
    (try simp only [Act.put]); (try simp only [List.setIfInBounds_toArray]); (try simp only [List.set_cons_succ]); (try simp only [List.set_cons_zero])
    refine wpAnyH_ready (rs := [5]) (by kernel_rfl) (by simp) ?_
    refine AllReadyH.cons (o := { dst := Option.some 18, op := Go.Op.call { callee := Go.Callee.value (Go.Operand.func 18), args := #[Go.Operand.tmp 17], argTypes := #[3] }, type := 9, pos := "l21_block.go:19", after := #[{ on := 4, ground := Go.Ground.data }], guard := Option.none }) rfl (fun K hK => ?_) AllReadyH.nil
    go_simp
    (go_at_call 18; refine Calls.mono (HDEC.out _ v V (by first | exact .inl ⟨rfl, rfl⟩ | exact .inr ⟨rfl, rfl⟩)) ?_; rintro e w9 ⟨rfl, hb9⟩; have HB9 := Lib.hid (show Below WX.heap.size WX w9 from (show Below WX.heap.size WX _ from bel2 HBX.out (by rfl) (by rfl) (by rfl) (by rfl)).trans (hb9.mono (Nat.le_refl _))); clear hb9)
    (try go_wp2_with fail)
    refine hK.out _ _ (HSS.out _ (by first | exact HB9.out | exact bel2 HBX.out (by rfl) (by rfl) (by rfl) (by rfl))) (fun hHeld => ?_)
    clear hK K
    (try simp only [Act.put]); (try simp only [List.setIfInBounds_toArray]); (try simp only [List.set_cons_succ]); (try simp only [List.set_cons_zero])
    refine wpAnyH_take (i := 6) (oi := { dst := Option.some 19, op := Go.Op.binOp Go.BinOp.add 9 (Go.Operand.tmp 15) (Go.Operand.tmp 18) 9, type := 9, pos := "l21_block.go:19", after := #[{ on := 2, ground := Go.Ground.data }, { on := 5, ground := Go.Ground.data }], guard := Option.none }) (v := ?v16) rfl (by kernel_rfl) (by kernel_rfl) (by kernel_rfl) (fun _ _ _ h => h) (Or.inl ⟨by rfl, ?hy16⟩) (by assumption) ?rest16
    case hy16 =>
      intro w9 hSw
      clear hSw
      go_simp
      first | done | with_reducible rfl
    (try simp only [Act.put]); (try simp only [List.setIfInBounds_toArray]); (try simp only [List.set_cons_succ]); (try simp only [List.set_cons_zero])
    refine wpAnyH_take (i := 7) (oi := { dst := Option.some 20, op := Go.Op.binOp Go.BinOp.add 9 (Go.Operand.tmp 19) (Go.Operand.const (Go.Value.string { data := #[45] })) 9, type := 9, pos := "l21_block.go:19", after := #[{ on := 6, ground := Go.Ground.data }], guard := Option.none }) (v := ?v17) rfl (by kernel_rfl) (by kernel_rfl) (by kernel_rfl) (fun _ _ _ h => h) (Or.inl ⟨by rfl, ?hy17⟩) (by assumption) ?rest17
    case hy17 =>
      intro w9 hSw
      clear hSw
      go_simp
      first | done | with_reducible rfl
    (try simp only [Act.put]); (try simp only [List.setIfInBounds_toArray]); (try simp only [List.set_cons_succ]); (try simp only [List.set_cons_zero])
    refine wpAnyH_ready (rs := [10]) (by kernel_rfl) (by simp) ?_
    refine AllReadyH.cons (o := { dst := Option.some 23, op := Go.Op.call { callee := Go.Callee.value (Go.Operand.func 18), args := #[Go.Operand.tmp 22], argTypes := #[3] }, type := 9, pos := "l21_block.go:19", after := #[{ on := 9, ground := Go.Ground.data }, { on := 5, ground := Go.Ground.chain }], guard := Option.none }) rfl (fun K hK => ?_) AllReadyH.nil
    go_simp
    (go_at_call 18; refine Calls.mono (HDEC.out _ t D (by first | exact .inl ⟨rfl, rfl⟩ | exact .inr ⟨rfl, rfl⟩)) ?_; rintro e w10 ⟨rfl, hb9⟩; have HB10 := Lib.hid (show Below WX.heap.size WX w10 from (show Below WX.heap.size WX _ from bel2 HB9.out (by rfl) (by rfl) (by rfl) (by rfl)).trans (hb9.mono (HB9.out.size))); clear hb9)
    (try go_wp2_with fail)
    refine hK.out _ _ (HSS.out _ (by first | exact HB10.out | exact bel2 HBX.out (by rfl) (by rfl) (by rfl) (by rfl))) (fun hHeld => ?_)
    clear hK K
    (try simp only [Act.put]); (try simp only [List.setIfInBounds_toArray]); (try simp only [List.set_cons_succ]); (try simp only [List.set_cons_zero])
    refine wpAnyH_take (i := 11) (oi := { dst := Option.some 24, op := Go.Op.binOp Go.BinOp.add 9 (Go.Operand.tmp 20) (Go.Operand.tmp 23) 9, type := 9, pos := "l21_block.go:19", after := #[{ on := 7, ground := Go.Ground.data }, { on := 10, ground := Go.Ground.data }], guard := Option.none }) (v := ?v18) rfl (by kernel_rfl) (by kernel_rfl) (by kernel_rfl) (fun _ _ _ h => h) (Or.inl ⟨by rfl, ?hy18⟩) (by assumption) ?rest18
    case hy18 =>
      intro w9 hSw
      clear hSw
      go_simp
      first | done | with_reducible rfl
    (try simp only [Act.put]); (try simp only [List.setIfInBounds_toArray]); (try simp only [List.set_cons_succ]); (try simp only [List.set_cons_zero])
    refine wpAnyH_take (i := 12) (oi := { dst := Option.some 25, op := Go.Op.binOp Go.BinOp.add 9 (Go.Operand.tmp 24) (Go.Operand.const (Go.Value.string { data := #[59] })) 9, type := 9, pos := "l21_block.go:19", after := #[{ on := 11, ground := Go.Ground.data }], guard := Option.none }) (v := ?v19) rfl (by kernel_rfl) (by kernel_rfl) (by kernel_rfl) (fun _ _ _ h => h) (Or.inl ⟨by rfl, ?hy19⟩) (by assumption) ?rest19
    case hy19 =>
      intro w9 hSw
      clear hSw
      go_simp
      first | done | with_reducible rfl
    (try simp only [Act.put]); (try simp only [List.setIfInBounds_toArray]); (try simp only [List.set_cons_succ]); (try simp only [List.set_cons_zero])
    refine wpAnyH_take (i := 13) (oi := { dst := Option.some 2, op := Go.Op.assign (Go.Operand.tmp 25), type := 9, pos := "l21_block.go:19", after := #[{ on := 12, ground := Go.Ground.data }, { on := 10, ground := Go.Ground.chain }, { on := 0, ground := Go.Ground.phase }, { on := 1, ground := Go.Ground.phase }, { on := 2, ground := Go.Ground.phase }, { on := 3, ground := Go.Ground.phase }, { on := 4, ground := Go.Ground.phase }, { on := 5, ground := Go.Ground.phase }, { on := 6, ground := Go.Ground.phase }, { on := 7, ground := Go.Ground.phase }, { on := 8, ground := Go.Ground.phase }, { on := 9, ground := Go.Ground.phase }, { on := 10, ground := Go.Ground.phase }, { on := 11, ground := Go.Ground.phase }, { on := 12, ground := Go.Ground.phase }], guard := Option.none }) (v := ?v20) rfl (by kernel_rfl) (by kernel_rfl) (by kernel_rfl) (fun _ _ _ h => h) (Or.inl ⟨by rfl, ?hy20⟩) (by assumption) ?rest20
    case hy20 =>
      intro w9 hSw
      clear hSw
      go_simp
      first | done | with_reducible rfl
    (try simp only [Act.put]); (try simp only [List.setIfInBounds_toArray]); (try simp only [List.set_cons_succ]); (try simp only [List.set_cons_zero])
    refine wpAnyH_done (by kernel_rfl) ?_ _
    go_wp2
    go_ret
    refine ⟨?_, HBW.out.trans (HB10.out.mono HBW.out.size)⟩
    rw [← en_there k v t D V HD.out HV.out]; rfl

end Go.Proofs.Ytbckgmfopbpocaa.W
