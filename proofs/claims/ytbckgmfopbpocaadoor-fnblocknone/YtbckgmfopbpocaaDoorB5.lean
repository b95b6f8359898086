/-
  Contracts of the program's texts of entries, and of a text with its sum.
-/
import Derived.Test.YtbckgmfopbpocaaDoorB4
import Derived.Test.YtbckgmfopbpocaaDoorSh
import Derived.Lib.AppendIntMem
namespace Go.Proofs.YtbckgmfopbpocaaDoor.W
open Go.RowKit K R B

/-- the table of powers of ten lies there, whatever is laid behind -/
def Tab (w : World) : Prop := Lib.TabBelow Tryd.prog w.heap.size w "internal/strconv.uint64pow10" .u64 Lib.pow10Tab
theorem Tab.on {w w' : World} (h : Tab w) (hb : Below w.heap.size w w') : Tab w' := fun W hW => h W (hb.trans (hW.mono hb.size))
theorem itoaI (n : Nat) (w : World) (hn : n ≤ 1000000) (hT : Tab w) :
    Calls Tryd.prog 45 #[.int .i64 ((n : Nat) : Int)] w fun e w' => e = .returned (.string (ofL (decL n))) ∧ Below w.heap.size w w' := by
  refine (Any.strconv_Itoa Tryd.laysM171 (n : Int) (by omega) (by omega) w hT.here).mono ?_
  rintro e w' ⟨rfl, k, os, rfl⟩
  refine ⟨?_, Lib.below_grow _ _ (Nat.le_refl _) _ _⟩
  unfold Lib.itoa
  rw [if_neg (by omega), Int.toNat_natCast]
  rfl

theorem en_goneI (k : ByteArray) (v t : Int) (D : ByteArray) (hD : D = ofL (decL t.toNat)) : k ++ (⟨#[]⟩ : ByteArray) ++ (⟨#[45]⟩ : ByteArray) ++ D ++ (⟨#[59]⟩ : ByteArray) = ofL (enL ⟨k, v, true, t⟩) := by
  rw [← en_gone k v t D hD]
  congr 3
  apply ByteArray.ext; simp
theorem en_thereI (k : ByteArray) (v t : Int) (D V X : ByteArray) (hD : D = ofL (decL t.toNat)) (hV : V = ofL (decL v.toNat)) (hX : X = (⟨#[61]⟩ : ByteArray) ++ V) : k ++ X ++ (⟨#[45]⟩ : ByteArray) ++ D ++ (⟨#[59]⟩ : ByteArray) = ofL (enL ⟨k, v, false, t⟩) := by
  rw [← en_there k v t D V hD hV, hX]
  simp only [ByteArray.append_assoc]

set_option maxHeartbeats 8000000 in
set_option maxRecDepth 100000 in
/-- the text of an entry, as the program has it -/
theorem entI (k : ByteArray) (v : Int) (g : Bool) (t : Int) (w : World) (hk : k.size ≤ 5) (hv0 : 0 ≤ v) (hv1 : v ≤ 999) (ht0 : 0 ≤ t) (ht1 : t ≤ 999) (hT : Tab w) :
    Calls Tryd.prog 27 #[.agg #[.string k, .int .i64 v, .bool g, .int .i64 t]] w fun e w' => e = .returned (.string (ofL (enL ⟨k, v, g, t⟩))) ∧ Below w.heap.size w w' := by
  obtain ⟨D, hD⟩ : ∃ D, D = ofL (decL t.toNat) := ⟨_, rfl⟩
  obtain ⟨V, hV⟩ : ∃ V, V = ofL (decL v.toNat) := ⟨_, rfl⟩
  have hDs : D.size ≤ 3 := by rw [hD]; exact dec_size _ (by omega)
  have hVs : V.size ≤ 3 := by rw [hV]; exact dec_size _ (by omega)
  have HDT := Lib.hid (show ∀ (W : World), Below w.heap.size w W → Calls Tryd.prog 45 #[.int .i64 t] W fun e w' => e = .returned (.string D) ∧ Below W.heap.size W w' from fun W h => by
    have := itoaI t.toNat W (by omega) (hT.on h)
    rw [Int.toNat_of_nonneg ht0] at this
    rw [hD]; exact this)
  have HDV := Lib.hid (show ∀ (W : World), Below w.heap.size w W → Calls Tryd.prog 45 #[.int .i64 v] W fun e w' => e = .returned (.string V) ∧ Below W.heap.size W w' from fun W h => by
    have := itoaI v.toNat W (by omega) (hT.on h)
    rw [Int.toNat_of_nonneg hv0] at this
    rw [hV]; exact this)
  have HD := Lib.hid hD
  have HV := Lib.hid hV
  clear hD hV hT
  obtain ⟨WX, hWX⟩ : ∃ W, W = w.alloc (.cells #[.string k, .int .i64 v, .bool g, .int .i64 t] 43) := ⟨_, rfl⟩
  have HYX := Lib.hid (show ∀ W, Below WX.heap.size WX W → W.heap[w.heap.size]? = some (.cells #[.string k, .int .i64 v, .bool g, .int .i64 t] 43 (0, 0)) from fun W hW => by rw [hW.block _ (by rw [hWX]; simp), hWX]; exact heap_alloc_new _ _)
  have HBW := Lib.hid (show Below w.heap.size w WX by rw [hWX]; exact (Below.refl _ _).alloc (Nat.le_refl _) _)
  have HBX := Lib.hid (Below.refl WX.heap.size WX)
  have HSS := Lib.hid (show ∀ W, Below WX.heap.size WX W → (fun W : World => W.cell? ⟨w.heap.size, 0, none⟩ = some (.string k) ∧ W.cell? ⟨w.heap.size, 1, none⟩ = some (.int .i64 v) ∧ W.cell? ⟨w.heap.size, 2, none⟩ = some (.bool g) ∧ W.cell? ⟨w.heap.size, 3, none⟩ = some (.int .i64 t)) W from fun W hW => by
    have h := HYX.out W hW
    refine ⟨?_, ?_, ?_, ?_⟩ <;> (rw [cell_of_row _ _ _ _ _ _ h]; rfl))
  have HWX := Lib.hid hWX
  clear hWX HYX
  cases g with
  | true =>
    have n1 : ¬ 9223372036854775807 < k.size + 0 := by omega
    have n1b : ¬ 9223372036854775807 < k.size := by omega
    have n2 : ¬ 9223372036854775807 < k.size + 1 := by omega
    have n3 : ¬ 9223372036854775807 < k.size + 1 + D.size := by omega
    have n4 : ¬ 9223372036854775807 < k.size + 1 + D.size + 1 := by omega
    go_enter Tryd.func27, Tryd.ntmps27
    go_upto_region 4 with fail
    rw [← HWX.out]
    refine wp_region_held_drew (S := (fun W : World => W.cell? ⟨w.heap.size, 0, none⟩ = some (.string k) ∧ W.cell? ⟨w.heap.size, 1, none⟩ = some (.int .i64 v) ∧ W.cell? ⟨w.heap.size, 2, none⟩ = some (.bool true) ∧ W.cell? ⟨w.heap.size, 3, none⟩ = some (.int .i64 t))) (by kernel_rfl) (HSS.out _ (by exact bel2 HBX.out (by rfl) (by rfl) (by rfl) (by rfl))) (fun hHeld => ?_)
    refine wpAnyH_take (i := 0) (oi := { dst := Option.some 11, op := Go.Op.fieldAddr 43 (Go.Operand.tmp 1) 0, type := 0, pos := "l21_block.go:72", after := #[], guard := Option.none }) (v := ?v1) rfl (by kernel_rfl) (by kernel_rfl) (by kernel_rfl) (fun _ _ _ h => h) (Or.inl ⟨by rfl, ?hy1⟩) (by assumption) ?rest1
    case hy1 =>
      intro w9 hSw
      clear hSw
      go_simp
      first | done | with_reducible rfl
    (try simp only [Act.put]); (try simp only [List.setIfInBounds_toArray]); (try simp only [List.set_cons_succ]); (try simp only [List.set_cons_zero])
    refine wpAnyH_take (i := 1) (oi := { dst := Option.some 12, op := Go.Op.load 9 (Go.Operand.tmp 11), type := 9, pos := "l21_block.go:72", after := #[{ on := 0, ground := Go.Ground.data }], guard := Option.none }) (v := ?v2) rfl (by kernel_rfl) (by kernel_rfl) (by kernel_rfl) (fun _ _ _ h => h) (Or.inl ⟨by rfl, ?hy2⟩) (by assumption) ?rest2
    case hy2 =>
      intro w9 hSw
      obtain ⟨f0, f1, f2, f3⟩ := hSw
      go_simp
      first | done | with_reducible rfl
    (try simp only [Act.put]); (try simp only [List.setIfInBounds_toArray]); (try simp only [List.set_cons_succ]); (try simp only [List.set_cons_zero])
    refine wpAnyH_take (i := 2) (oi := { dst := Option.some 13, op := Go.Op.move (Go.Operand.tmp 3), type := 9, pos := "l21_block.go:72", after := #[], guard := Option.none }) (v := ?v3) rfl (by kernel_rfl) (by kernel_rfl) (by kernel_rfl) (fun _ _ _ h => h) (Or.inl ⟨by rfl, ?hy3⟩) (by assumption) ?rest3
    case hy3 =>
      intro w9 hSw
      clear hSw
      go_simp
      first | done | with_reducible rfl
    (try simp only [Act.put]); (try simp only [List.setIfInBounds_toArray]); (try simp only [List.set_cons_succ]); (try simp only [List.set_cons_zero])
    refine wpAnyH_take (i := 3) (oi := { dst := Option.some 14, op := Go.Op.binOp Go.BinOp.add 9 (Go.Operand.tmp 12) (Go.Operand.tmp 13) 9, type := 9, pos := "l21_block.go:72", after := #[{ on := 1, ground := Go.Ground.data }, { on := 2, ground := Go.Ground.data }], guard := Option.none }) (v := ?v4) rfl (by kernel_rfl) (by kernel_rfl) (by kernel_rfl) (fun _ _ _ h => h) (Or.inl ⟨by rfl, ?hy4⟩) (by assumption) ?rest4
    case hy4 =>
      intro w9 hSw
      clear hSw
      go_simp
      first | done | with_reducible rfl
    (try simp only [Act.put]); (try simp only [List.setIfInBounds_toArray]); (try simp only [List.set_cons_succ]); (try simp only [List.set_cons_zero])
    refine wpAnyH_take (i := 4) (oi := { dst := Option.some 15, op := Go.Op.binOp Go.BinOp.add 9 (Go.Operand.tmp 14) (Go.Operand.const (Go.Value.string { data := #[45] })) 9, type := 9, pos := "l21_block.go:72", after := #[{ on := 3, ground := Go.Ground.data }], guard := Option.none }) (v := ?v5) rfl (by kernel_rfl) (by kernel_rfl) (by kernel_rfl) (fun _ _ _ h => h) (Or.inl ⟨by rfl, ?hy5⟩) (by assumption) ?rest5
    case hy5 =>
      intro w9 hSw
      clear hSw
      go_simp
      first | done | with_reducible rfl
    (try simp only [Act.put]); (try simp only [List.setIfInBounds_toArray]); (try simp only [List.set_cons_succ]); (try simp only [List.set_cons_zero])
    refine wpAnyH_take (i := 5) (oi := { dst := Option.some 16, op := Go.Op.fieldAddr 43 (Go.Operand.tmp 1) 3, type := 0, pos := "l21_block.go:72", after := #[], guard := Option.none }) (v := ?v6) rfl (by kernel_rfl) (by kernel_rfl) (by kernel_rfl) (fun _ _ _ h => h) (Or.inl ⟨by rfl, ?hy6⟩) (by assumption) ?rest6
    case hy6 =>
      intro w9 hSw
      clear hSw
      go_simp
      first | done | with_reducible rfl
    (try simp only [Act.put]); (try simp only [List.setIfInBounds_toArray]); (try simp only [List.set_cons_succ]); (try simp only [List.set_cons_zero])
    refine wpAnyH_take (i := 6) (oi := { dst := Option.some 17, op := Go.Op.load 3 (Go.Operand.tmp 16), type := 3, pos := "l21_block.go:72", after := #[{ on := 5, ground := Go.Ground.data }], guard := Option.none }) (v := ?v7) rfl (by kernel_rfl) (by kernel_rfl) (by kernel_rfl) (fun _ _ _ h => h) (Or.inl ⟨by rfl, ?hy7⟩) (by assumption) ?rest7
    case hy7 =>
      intro w9 hSw
      obtain ⟨f0, f1, f2, f3⟩ := hSw
      go_simp
      first | done | with_reducible rfl
    (try simp only [Act.put]); (try simp only [List.setIfInBounds_toArray]); (try simp only [List.set_cons_succ]); (try simp only [List.set_cons_zero])
    refine wpAnyH_ready (rs := [7]) (by kernel_rfl) (by simp) ?_
    refine AllReadyH.cons (o := { dst := Option.some 18, op := Go.Op.call { callee := Go.Callee.value (Go.Operand.func 45), args := #[Go.Operand.tmp 17], argTypes := #[3] }, type := 9, pos := "l21_block.go:72", after := #[{ on := 6, ground := Go.Ground.data }], guard := Option.none }) rfl (fun K hK => ?_) AllReadyH.nil
    go_simp
    (go_at_call 45; refine Calls.mono (HDT.out _ (by exact bel2 (HBW.out) (by rfl) (by rfl) (by rfl) (by rfl))) ?_; rintro e w9 ⟨rfl, hb9⟩; have HB9 := Lib.hid (show Below WX.heap.size WX w9 from (show Below WX.heap.size WX _ from bel2 HBX.out (by rfl) (by rfl) (by rfl) (by rfl)).trans (hb9.mono (Nat.le_refl _))); clear hb9)
    (try go_wp2_with fail)
    refine hK.out _ _ (HSS.out _ (by first | exact HB9.out | exact bel2 HBX.out (by rfl) (by rfl) (by rfl) (by rfl))) (fun hHeld => ?_)
    clear hK K
    (try simp only [Act.put]); (try simp only [List.setIfInBounds_toArray]); (try simp only [List.set_cons_succ]); (try simp only [List.set_cons_zero])
    refine wpAnyH_take (i := 8) (oi := { dst := Option.some 19, op := Go.Op.binOp Go.BinOp.add 9 (Go.Operand.tmp 15) (Go.Operand.tmp 18) 9, type := 9, pos := "l21_block.go:72", after := #[{ on := 4, ground := Go.Ground.data }, { on := 7, ground := Go.Ground.data }], guard := Option.none }) (v := ?v8) rfl (by kernel_rfl) (by kernel_rfl) (by kernel_rfl) (fun _ _ _ h => h) (Or.inl ⟨by rfl, ?hy8⟩) (by assumption) ?rest8
    case hy8 =>
      intro w9 hSw
      clear hSw
      go_simp
      first | done | with_reducible rfl
    (try simp only [Act.put]); (try simp only [List.setIfInBounds_toArray]); (try simp only [List.set_cons_succ]); (try simp only [List.set_cons_zero])
    refine wpAnyH_take (i := 9) (oi := { dst := Option.some 20, op := Go.Op.binOp Go.BinOp.add 9 (Go.Operand.tmp 19) (Go.Operand.const (Go.Value.string { data := #[59] })) 9, type := 9, pos := "l21_block.go:72", after := #[{ on := 8, ground := Go.Ground.data }], guard := Option.none }) (v := ?v9) rfl (by kernel_rfl) (by kernel_rfl) (by kernel_rfl) (fun _ _ _ h => h) (Or.inl ⟨by rfl, ?hy9⟩) (by assumption) ?rest9
    case hy9 =>
      intro w9 hSw
      clear hSw
      go_simp
      first | done | with_reducible rfl
    (try simp only [Act.put]); (try simp only [List.setIfInBounds_toArray]); (try simp only [List.set_cons_succ]); (try simp only [List.set_cons_zero])
    refine wpAnyH_take (i := 10) (oi := { dst := Option.some 2, op := Go.Op.assign (Go.Operand.tmp 20), type := 9, pos := "l21_block.go:72", after := #[{ on := 9, ground := Go.Ground.data }, { on := 7, ground := Go.Ground.chain }, { on := 0, ground := Go.Ground.phase }, { on := 1, ground := Go.Ground.phase }, { on := 2, ground := Go.Ground.phase }, { on := 3, ground := Go.Ground.phase }, { on := 4, ground := Go.Ground.phase }, { on := 5, ground := Go.Ground.phase }, { on := 6, ground := Go.Ground.phase }, { on := 7, ground := Go.Ground.phase }, { on := 8, ground := Go.Ground.phase }, { on := 9, ground := Go.Ground.phase }], guard := Option.none }) (v := ?v10) rfl (by kernel_rfl) (by kernel_rfl) (by kernel_rfl) (fun _ _ _ h => h) (Or.inl ⟨by rfl, ?hy10⟩) (by assumption) ?rest10
    case hy10 =>
      intro w9 hSw
      clear hSw
      go_simp
      first | done | with_reducible rfl
    (try simp only [Act.put]); (try simp only [List.setIfInBounds_toArray]); (try simp only [List.set_cons_succ]); (try simp only [List.set_cons_zero])
    refine wpAnyH_done (by kernel_rfl) ?_ _
    go_wp2
    go_ret
    refine ⟨?_, HBW.out.trans (HB9.out.mono HBW.out.size)⟩
    rw [← en_goneI k v t D HD.out]; rfl
  | false =>
    obtain ⟨X, hX⟩ : ∃ X, X = (⟨#[61]⟩ : ByteArray) ++ V := ⟨_, rfl⟩
    have hXs : X.size = 1 + V.size := by rw [hX, ByteArray.size_append]; rfl
    have n1 : ¬ 9223372036854775807 < k.size + X.size := by omega
    have n2 : ¬ 9223372036854775807 < k.size + X.size + 1 := by omega
    have n3 : ¬ 9223372036854775807 < k.size + X.size + 1 + D.size := by omega
    have n4 : ¬ 9223372036854775807 < k.size + X.size + 1 + D.size + 1 := by omega
    have n5 : ¬ 9223372036854775807 < 1 + V.size := by omega
    have HX := Lib.hid hX
    have HS1 := Lib.hid (show ∀ W, Below WX.heap.size WX W → W.cell? ⟨w.heap.size, 1, none⟩ = some (.int .i64 v) ∧ W.cell? ⟨w.heap.size, 2, none⟩ = some (.bool false) from fun W hW => ⟨(HSS.out W hW).2.1, (HSS.out W hW).2.2.1⟩)
    clear hX hXs
    go_enter Tryd.func27, Tryd.ntmps27
    go_wp2_with fail
    rw [← HWX.out]
    go_at_call 45
    refine Calls.mono (HDV.out _ (by first | exact HBW.out | exact bel2 HBW.out (by rfl) (by rfl) (by rfl) (by rfl))) ?_
    rintro e w8 ⟨rfl, hb8⟩
    have HB8 := Lib.hid (show Below WX.heap.size WX w8 from hb8)
    clear hb8
    go_upto_region 4 with fail
    rw [← HX.out]
    refine wp_region_held_drew (S := (fun W : World => W.cell? ⟨w.heap.size, 0, none⟩ = some (.string k) ∧ W.cell? ⟨w.heap.size, 1, none⟩ = some (.int .i64 v) ∧ W.cell? ⟨w.heap.size, 2, none⟩ = some (.bool false) ∧ W.cell? ⟨w.heap.size, 3, none⟩ = some (.int .i64 t))) (by kernel_rfl) (HSS.out _ (by exact bel2 HB8.out (by rfl) (by rfl) (by rfl) (by rfl))) (fun hHeld => ?_)
    refine wpAnyH_take (i := 0) (oi := { dst := Option.some 11, op := Go.Op.fieldAddr 43 (Go.Operand.tmp 1) 0, type := 0, pos := "l21_block.go:72", after := #[], guard := Option.none }) (v := ?v11) rfl (by kernel_rfl) (by kernel_rfl) (by kernel_rfl) (fun _ _ _ h => h) (Or.inl ⟨by rfl, ?hy11⟩) (by assumption) ?rest11
    case hy11 =>
      intro w9 hSw
      clear hSw
      go_simp
      first | done | with_reducible rfl
    (try simp only [Act.put]); (try simp only [List.setIfInBounds_toArray]); (try simp only [List.set_cons_succ]); (try simp only [List.set_cons_zero])
    refine wpAnyH_take (i := 1) (oi := { dst := Option.some 12, op := Go.Op.load 9 (Go.Operand.tmp 11), type := 9, pos := "l21_block.go:72", after := #[{ on := 0, ground := Go.Ground.data }], guard := Option.none }) (v := ?v12) rfl (by kernel_rfl) (by kernel_rfl) (by kernel_rfl) (fun _ _ _ h => h) (Or.inl ⟨by rfl, ?hy12⟩) (by assumption) ?rest12
    case hy12 =>
      intro w9 hSw
      obtain ⟨f0, f1, f2, f3⟩ := hSw
      go_simp
      first | done | with_reducible rfl
    (try simp only [Act.put]); (try simp only [List.setIfInBounds_toArray]); (try simp only [List.set_cons_succ]); (try simp only [List.set_cons_zero])
    refine wpAnyH_take (i := 2) (oi := { dst := Option.some 13, op := Go.Op.move (Go.Operand.tmp 3), type := 9, pos := "l21_block.go:72", after := #[], guard := Option.none }) (v := ?v13) rfl (by kernel_rfl) (by kernel_rfl) (by kernel_rfl) (fun _ _ _ h => h) (Or.inl ⟨by rfl, ?hy13⟩) (by assumption) ?rest13
    case hy13 =>
      intro w9 hSw
      clear hSw
      go_simp
      first | done | with_reducible rfl
    (try simp only [Act.put]); (try simp only [List.setIfInBounds_toArray]); (try simp only [List.set_cons_succ]); (try simp only [List.set_cons_zero])
    refine wpAnyH_take (i := 3) (oi := { dst := Option.some 14, op := Go.Op.binOp Go.BinOp.add 9 (Go.Operand.tmp 12) (Go.Operand.tmp 13) 9, type := 9, pos := "l21_block.go:72", after := #[{ on := 1, ground := Go.Ground.data }, { on := 2, ground := Go.Ground.data }], guard := Option.none }) (v := ?v14) rfl (by kernel_rfl) (by kernel_rfl) (by kernel_rfl) (fun _ _ _ h => h) (Or.inl ⟨by rfl, ?hy14⟩) (by assumption) ?rest14
    case hy14 =>
      intro w9 hSw
      clear hSw
      go_simp
      first | done | with_reducible rfl
    (try simp only [Act.put]); (try simp only [List.setIfInBounds_toArray]); (try simp only [List.set_cons_succ]); (try simp only [List.set_cons_zero])
    refine wpAnyH_take (i := 4) (oi := { dst := Option.some 15, op := Go.Op.binOp Go.BinOp.add 9 (Go.Operand.tmp 14) (Go.Operand.const (Go.Value.string { data := #[45] })) 9, type := 9, pos := "l21_block.go:72", after := #[{ on := 3, ground := Go.Ground.data }], guard := Option.none }) (v := ?v15) rfl (by kernel_rfl) (by kernel_rfl) (by kernel_rfl) (fun _ _ _ h => h) (Or.inl ⟨by rfl, ?hy15⟩) (by assumption) ?rest15
    case hy15 =>
      intro w9 hSw
      clear hSw
      go_simp
      first | done | with_reducible rfl
    (try simp only [Act.put]); (try simp only [List.setIfInBounds_toArray]); (try simp only [List.set_cons_succ]); (try simp only [List.set_cons_zero])
    refine wpAnyH_take (i := 5) (oi := { dst := Option.some 16, op := Go.Op.fieldAddr 43 (Go.Operand.tmp 1) 3, type := 0, pos := "l21_block.go:72", after := #[], guard := Option.none }) (v := ?v16) rfl (by kernel_rfl) (by kernel_rfl) (by kernel_rfl) (fun _ _ _ h => h) (Or.inl ⟨by rfl, ?hy16⟩) (by assumption) ?rest16
    case hy16 =>
      intro w9 hSw
      clear hSw
      go_simp
      first | done | with_reducible rfl
    (try simp only [Act.put]); (try simp only [List.setIfInBounds_toArray]); (try simp only [List.set_cons_succ]); (try simp only [List.set_cons_zero])
    refine wpAnyH_take (i := 6) (oi := { dst := Option.some 17, op := Go.Op.load 3 (Go.Operand.tmp 16), type := 3, pos := "l21_block.go:72", after := #[{ on := 5, ground := Go.Ground.data }], guard := Option.none }) (v := ?v17) rfl (by kernel_rfl) (by kernel_rfl) (by kernel_rfl) (fun _ _ _ h => h) (Or.inl ⟨by rfl, ?hy17⟩) (by assumption) ?rest17
    case hy17 =>
      intro w9 hSw
      obtain ⟨f0, f1, f2, f3⟩ := hSw
      go_simp
      first | done | with_reducible rfl
    (try simp only [Act.put]); (try simp only [List.setIfInBounds_toArray]); (try simp only [List.set_cons_succ]); (try simp only [List.set_cons_zero])
    refine wpAnyH_ready (rs := [7]) (by kernel_rfl) (by simp) ?_
    refine AllReadyH.cons (o := { dst := Option.some 18, op := Go.Op.call { callee := Go.Callee.value (Go.Operand.func 45), args := #[Go.Operand.tmp 17], argTypes := #[3] }, type := 9, pos := "l21_block.go:72", after := #[{ on := 6, ground := Go.Ground.data }], guard := Option.none }) rfl (fun K hK => ?_) AllReadyH.nil
    go_simp
    (go_at_call 45; refine Calls.mono (HDT.out _ (by exact bel2 (HBW.out.trans (HB8.out.mono HBW.out.size)) (by rfl) (by rfl) (by rfl) (by rfl))) ?_; rintro e w9 ⟨rfl, hb9⟩; have HB9 := Lib.hid (show Below WX.heap.size WX w9 from (show Below WX.heap.size WX _ from bel2 HB8.out (by rfl) (by rfl) (by rfl) (by rfl)).trans (hb9.mono (HB8.out.size))); clear hb9)
    (try go_wp2_with fail)
    refine hK.out _ _ (HSS.out _ (by first | exact HB9.out | exact bel2 HB8.out (by rfl) (by rfl) (by rfl) (by rfl))) (fun hHeld => ?_)
    clear hK K
    (try simp only [Act.put]); (try simp only [List.setIfInBounds_toArray]); (try simp only [List.set_cons_succ]); (try simp only [List.set_cons_zero])
    refine wpAnyH_take (i := 8) (oi := { dst := Option.some 19, op := Go.Op.binOp Go.BinOp.add 9 (Go.Operand.tmp 15) (Go.Operand.tmp 18) 9, type := 9, pos := "l21_block.go:72", after := #[{ on := 4, ground := Go.Ground.data }, { on := 7, ground := Go.Ground.data }], guard := Option.none }) (v := ?v18) rfl (by kernel_rfl) (by kernel_rfl) (by kernel_rfl) (fun _ _ _ h => h) (Or.inl ⟨by rfl, ?hy18⟩) (by assumption) ?rest18
    case hy18 =>
      intro w9 hSw
      clear hSw
      go_simp
      first | done | with_reducible rfl
    (try simp only [Act.put]); (try simp only [List.setIfInBounds_toArray]); (try simp only [List.set_cons_succ]); (try simp only [List.set_cons_zero])
    refine wpAnyH_take (i := 9) (oi := { dst := Option.some 20, op := Go.Op.binOp Go.BinOp.add 9 (Go.Operand.tmp 19) (Go.Operand.const (Go.Value.string { data := #[59] })) 9, type := 9, pos := "l21_block.go:72", after := #[{ on := 8, ground := Go.Ground.data }], guard := Option.none }) (v := ?v19) rfl (by kernel_rfl) (by kernel_rfl) (by kernel_rfl) (fun _ _ _ h => h) (Or.inl ⟨by rfl, ?hy19⟩) (by assumption) ?rest19
    case hy19 =>
      intro w9 hSw
      clear hSw
      go_simp
      first | done | with_reducible rfl
    (try simp only [Act.put]); (try simp only [List.setIfInBounds_toArray]); (try simp only [List.set_cons_succ]); (try simp only [List.set_cons_zero])
    refine wpAnyH_take (i := 10) (oi := { dst := Option.some 2, op := Go.Op.assign (Go.Operand.tmp 20), type := 9, pos := "l21_block.go:72", after := #[{ on := 9, ground := Go.Ground.data }, { on := 7, ground := Go.Ground.chain }, { on := 0, ground := Go.Ground.phase }, { on := 1, ground := Go.Ground.phase }, { on := 2, ground := Go.Ground.phase }, { on := 3, ground := Go.Ground.phase }, { on := 4, ground := Go.Ground.phase }, { on := 5, ground := Go.Ground.phase }, { on := 6, ground := Go.Ground.phase }, { on := 7, ground := Go.Ground.phase }, { on := 8, ground := Go.Ground.phase }, { on := 9, ground := Go.Ground.phase }], guard := Option.none }) (v := ?v20) rfl (by kernel_rfl) (by kernel_rfl) (by kernel_rfl) (fun _ _ _ h => h) (Or.inl ⟨by rfl, ?hy20⟩) (by assumption) ?rest20
    case hy20 =>
      intro w9 hSw
      clear hSw
      go_simp
      first | done | with_reducible rfl
    (try simp only [Act.put]); (try simp only [List.setIfInBounds_toArray]); (try simp only [List.set_cons_succ]); (try simp only [List.set_cons_zero])
    refine wpAnyH_done (by kernel_rfl) ?_ _
    go_wp2
    go_ret
    refine ⟨?_, HBW.out.trans (HB9.out.mono HBW.out.size)⟩
    rw [← en_thereI k v t D V X HD.out HV.out HX.out]; rfl

set_option maxHeartbeats 2000000 in
set_option maxRecDepth 100000 in
/-- a text with its sum -/
theorem sealI (l : List UInt8) (w : World) (hl : l.length ≤ 2000000) (hT : Tab w) :
    Calls Tryd.prog 28 #[.string (ofL l)] w fun e w' => e = .returned (.string (ofL (sealL l))) ∧ Below w.heap.size w w' := by
  have hs := ofL_size l
  have hS := sumI (ofL l) w (by unfold maxLen; omega)
  rw [sum_of] at hS
  have hD := itoaI (sumB l) w (Nat.le_trans (Nat.le_of_lt (sum_lt l)) (by decide)) hT
  have hds : (ofL (decL (sumB l))).size ≤ 4 := by rw [ofL_size]; exact dec_len4 (Nat.lt_trans (sum_lt l) (by decide))
  have hse := seal_is l
  obtain ⟨S, hSS⟩ : ∃ S, S = ofL l := ⟨_, rfl⟩
  obtain ⟨D, hDD⟩ : ∃ D, D = ofL (decL (sumB l)) := ⟨_, rfl⟩
  obtain ⟨N, hN⟩ : ∃ N : Int, N = ((sumB l : Nat) : Int) := ⟨_, rfl⟩
  rw [← hSS] at hs hS hse ⊢
  rw [← hDD] at hds hD hse
  rw [← hN] at hS hD
  have HS := Lib.hid hS
  have HD := Lib.hid hD
  have HE := Lib.hid hse
  have hs2 : S.size ≤ 2000000 := by omega
  clear hS hD hse hSS hDD hN hs hl hT
  go_enter Tryd.func28, Tryd.ntmps28
  go_wp2_with (first | (go_at_call 46; refine Calls.mono HS.out ?_; rintro e w2 ⟨rfl, rfl⟩) | (go_at_call 45; refine Calls.mono HD.out ?_; rintro e w3 ⟨rfl, hb3⟩))
  go_ret
  exact ⟨by rw [← HE.out]; rfl, hb3⟩

end Go.Proofs.YtbckgmfopbpocaaDoor.W
