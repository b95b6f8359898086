/-
  What the laws of blocks draw: texts.
-/
import Derived.Test.YtbckgmfopbpocaaDoorDB1
namespace Go.Proofs.YtbckgmfopbpocaaDoor.W
open Go.RowKit K R B

/-- a text was drawn -/
def TextA (w : World) (e : Ending) (w' : World) : Prop := ∃ s : ByteArray, e = .returned (.string s) ∧ s.size ≤ 2000 ∧ Below w.heap.size w w'
theorem seal_len (l : List UInt8) : (sealL l).length ≤ l.length + 5 := by
  unfold sealL
  have := dec_len4 (Nat.lt_trans (sum_lt l) (by decide : 9973 < 10000))
  rw [List.length_append, List.length_cons]; omega
theorem ext_size (s : ByteArray) (a b : Nat) : (s.extract a b).size ≤ s.size := by
  have := ByteArray.size_extract (a := s) (b := a) (e := b)
  omega

set_option maxHeartbeats 8000000 in
set_option maxRecDepth 100000 in
theorem drawBlockRead (w : World) (A : Option Addr) (n c : Nat) (hb : Bytes w w.heap.size A n) (hnc : n ≤ c) (hc : c ≤ maxLen) :
    Calls Tryd.prog 15 #[.slice A n c] w (TextA w) := by
  go_enter Tryd.func15, Tryd.ntmps15
  go_wp2_with fail
  go_at_call 23
  refine Calls.mono (openR w A n c hb hnc hc) ?_
  rintro e w1 ⟨A1, n1, c1, rfl, hr1, hb1⟩
  have hg1 : w.heap.size < w1.heap.size := (Array.getElem?_eq_some_iff.1 hr1.blk).1
  have HB1 := Lib.hid hb1
  have HR1 := Lib.hid hr1
  clear hb hr1 hb1
  go_wp2_with fail
  go_at_call 34
  refine Calls.mono (runDr w1 w.heap.size 0 n1 c1 8 A1 HR1.out (by omega) (by omega)) ?_
  rintro e w2 ⟨v, l, p2, hrun, hp2, rfl, ho2, hr2, hg2⟩
  obtain ⟨A2, c2, rfl, hc2, hm2, hen2⟩ := ownE_parts ho2
  have HB2 := Lib.hid (below_g HB1.out hg2 (Nat.le_refl _))
  have HR2 := Lib.hid hr2
  have hgs2 := hg2.size
  have HBK := Lib.hid (blockS w2 w2.heap.size _ c2 A2 l hen2 (Nat.le_refl _) (by have := run_len hrun; unfold maxLen; omega) (fun e he => by have := run_key hrun e he; unfold maxLen; omega))
  have hTs : (ofL (blockL l)).size ≤ 400 := by rw [ofL_size]; exact block_len l
  obtain ⟨T, hT⟩ : ∃ T, T = ofL (blockL l) := ⟨_, rfl⟩
  rw [← hT] at HBK hTs
  clear hrun ho2 hr2 hg2 hen2 hT HR1 HB1
  go_wp2_with fail
  go_at_call 12
  refine Calls.mono HBK.out ?_
  rintro e w3 ⟨rfl, hb3⟩
  have HB3 := Lib.hid (HB2.out.trans (hb3.mono HB2.out.size))
  have HR3 := Lib.hid (HR2.out.below hb3 (by omega))
  have hs3 := hb3.size
  clear hb3 HB2 HR2 HBK
  go_wp2_with fail
  go_at_call 24
  refine Calls.mono (pick w3 w.heap.size p2 n1 c1 A1 2 HR3.out (by omega) (by omega)) ?_
  rintro e w4 ⟨x, rfl, hx0, hx1, hr4, hg4⟩
  have HB4 := Lib.hid (below_g HB3.out hg4 (Nat.le_refl _))
  have HR4 := Lib.hid hr4
  have hs4 := hg4.size
  clear hx1 hr4 hg4 HB3 HR3
  by_cases hx : x = 0
  · subst hx
    go_wp2
    go_ret
    exact ⟨T, rfl, by omega, HB4.out⟩
  cases hte : T.toList.isEmpty with
  | true =>
    go_wp2
    go_ret
    exact ⟨T, rfl, by omega, HB4.out⟩
  | false =>
    have hTp : 1 ≤ T.size := by
      rcases Nat.eq_zero_or_pos T.size with h | h
      · rw [ByteArray.toList_eq, show T.data.toList = [] from List.eq_nil_of_length_eq_zero (by rw [len_l]; exact h)] at hte; cases hte
      · exact h
    go_wp2_with fail
    go_at_call 24
    refine Calls.mono (pick w4 w.heap.size (p2 + 1) n1 c1 A1 (T.size : Int) HR4.out (by omega) (by omega)) ?_
    rintro e w4b ⟨i, rfl, hi0, hi1, hr5, hg5⟩
    obtain ⟨I, rfl⟩ := Int.eq_ofNat_of_zero_le hi0
    have hI : I < T.size := by omega
    have HB4b := Lib.hid (below_g HB4.out hg5 (Nat.le_refl _))
    have HR4b := Lib.hid hr5
    have hs4b := hg5.size
    clear hi1 hr5 hg5 HB4 HR4
    go_wp2_with fail
    go_at_call 24
    refine Calls.mono (pick w4b w.heap.size (p2 + 1 + 1) n1 c1 A1 5 HR4b.out (by omega) (by omega)) ?_
    rintro e w5 ⟨y, rfl, hy0, hy1, hr5, hg5⟩
    have HB5 := Lib.hid (below_g HB4b.out hg5 (Nat.le_refl _))
    have HR5 := Lib.hid hr5
    have hs5 := hg5.size
    have hgw5 : w.heap.size < w5.heap.size := by omega
    obtain ⟨p4, hp4⟩ : ∃ p4, p4 = p2 + 1 + 1 + 1 := ⟨_, rfl⟩
    have hp4b : p4 ≤ 100000 := by omega
    rw [← hp4] at HR5
    have z0 : (0 : Int) ≤ (I : Int) := by omega
    have z1 : (I : Int) < (T.size : Int) := by omega
    have z2 : (I : Int) ≤ (T.size : Int) := by omega
    have z3 : (I : Int) + 1 ≤ (T.size : Int) := by omega
    have s1 := ext_size T 0 I
    have s2 := ext_size T I T.size
    have s3 := ext_size T (I + 1) T.size
    clear hy1 hr5 hg5 HB4b HR4b hp4 hi0
    have z4 : (0 : Int) ≤ (I : Int) + 1 := by omega
    have e1 : IntKind.i64.wrap ((I : Int) + 1) = (I : Int) + 1 := z64 _ (by omega) (by omega)
    have s4 : (T.extract 0 I).size = min I T.size := by rw [ByteArray.size_extract]; omega
    by_cases hy : y = 0
    · subst hy
      have n1_ : ¬ 9223372036854775807 < min I T.size + (T.size - (I + 1)) := by omega
      go_upto_region 8 with fail
      refine wp_region_held_drew (S := (fun _ : World => True)) (by kernel_rfl) (trivial) (fun hHeld => ?_)
      refine wpAnyH_take (i := 0) (oi := { dst := Option.some 27, op := Go.Op.move (Go.Operand.tmp 4), type := 9, pos := "l71_draw.go:589", after := #[], guard := Option.none }) (v := ?v11) rfl (by kernel_rfl) (by kernel_rfl) (by kernel_rfl) (fun _ _ _ h => h) (Or.inl ⟨by rfl, ?hy11⟩) (by assumption) ?rest11
      case hy11 =>
        intro w9 hSw
        clear hSw
        go_simp
        first | done | with_reducible rfl
      (try simp only [Act.put]); (try simp only [List.setIfInBounds_toArray]); (try simp only [List.set_cons_succ]); (try simp only [List.set_cons_zero])
      refine wpAnyH_take (i := 1) (oi := { dst := Option.some 28, op := Go.Op.move (Go.Operand.tmp 5), type := 3, pos := "l71_draw.go:589", after := #[], guard := Option.none }) (v := ?v12) rfl (by kernel_rfl) (by kernel_rfl) (by kernel_rfl) (fun _ _ _ h => h) (Or.inl ⟨by rfl, ?hy12⟩) (by assumption) ?rest12
      case hy12 =>
        intro w9 hSw
        clear hSw
        go_simp
        first | done | with_reducible rfl
      (try simp only [Act.put]); (try simp only [List.setIfInBounds_toArray]); (try simp only [List.set_cons_succ]); (try simp only [List.set_cons_zero])
      refine wpAnyH_take (i := 2) (oi := { dst := Option.some 29, op := Go.Op.slice 9 (Go.Operand.tmp 27) Option.none (Option.some (Go.Operand.tmp 28)) Option.none, type := 9, pos := "l71_draw.go:589", after := #[{ on := 0, ground := Go.Ground.data }, { on := 1, ground := Go.Ground.data }], guard := Option.none }) (v := ?v13) rfl (by kernel_rfl) (by kernel_rfl) (by kernel_rfl) (fun _ _ _ h => h) (Or.inl ⟨by rfl, ?hy13⟩) (by assumption) ?rest13
      case hy13 =>
        intro w9 hSw
        clear hSw
        go_simp
        first | done | with_reducible rfl
      (try simp only [Act.put]); (try simp only [List.setIfInBounds_toArray]); (try simp only [List.set_cons_succ]); (try simp only [List.set_cons_zero])
      refine wpAnyH_take (i := 3) (oi := { dst := Option.some 30, op := Go.Op.move (Go.Operand.tmp 4), type := 9, pos := "l71_draw.go:589", after := #[], guard := Option.none }) (v := ?v14) rfl (by kernel_rfl) (by kernel_rfl) (by kernel_rfl) (fun _ _ _ h => h) (Or.inl ⟨by rfl, ?hy14⟩) (by assumption) ?rest14
      case hy14 =>
        intro w9 hSw
        clear hSw
        go_simp
        first | done | with_reducible rfl
      (try simp only [Act.put]); (try simp only [List.setIfInBounds_toArray]); (try simp only [List.set_cons_succ]); (try simp only [List.set_cons_zero])
      refine wpAnyH_take (i := 4) (oi := { dst := Option.some 31, op := Go.Op.move (Go.Operand.tmp 5), type := 3, pos := "l71_draw.go:589", after := #[], guard := Option.none }) (v := ?v15) rfl (by kernel_rfl) (by kernel_rfl) (by kernel_rfl) (fun _ _ _ h => h) (Or.inl ⟨by rfl, ?hy15⟩) (by assumption) ?rest15
      case hy15 =>
        intro w9 hSw
        clear hSw
        go_simp
        first | done | with_reducible rfl
      (try simp only [Act.put]); (try simp only [List.setIfInBounds_toArray]); (try simp only [List.set_cons_succ]); (try simp only [List.set_cons_zero])
      refine wpAnyH_take (i := 5) (oi := { dst := Option.some 32, op := Go.Op.binOp Go.BinOp.add 3 (Go.Operand.tmp 31) (Go.Operand.const (Go.Value.int Go.IntKind.i64 1)) 3, type := 3, pos := "l71_draw.go:589", after := #[{ on := 4, ground := Go.Ground.data }], guard := Option.none }) (v := ?v16) rfl (by kernel_rfl) (by kernel_rfl) (by kernel_rfl) (fun _ _ _ h => h) (Or.inl ⟨by rfl, ?hy16⟩) (by assumption) ?rest16
      case hy16 =>
        intro w9 hSw
        clear hSw
        go_simp
        first | done | with_reducible rfl
      (try simp only [Act.put]); (try simp only [List.setIfInBounds_toArray]); (try simp only [List.set_cons_succ]); (try simp only [List.set_cons_zero])
      refine wpAnyH_take (i := 6) (oi := { dst := Option.some 33, op := Go.Op.slice 9 (Go.Operand.tmp 30) (Option.some (Go.Operand.tmp 32)) Option.none Option.none, type := 9, pos := "l71_draw.go:589", after := #[{ on := 3, ground := Go.Ground.data }, { on := 5, ground := Go.Ground.data }], guard := Option.none }) (v := ?v17) rfl (by kernel_rfl) (by kernel_rfl) (by kernel_rfl) (fun _ _ _ h => h) (Or.inl ⟨by rfl, ?hy17⟩) (by assumption) ?rest17
      case hy17 =>
        intro w9 hSw
        clear hSw
        go_simp
        first | done | with_reducible rfl
      (try simp only [Act.put]); (try simp only [List.setIfInBounds_toArray]); (try simp only [List.set_cons_succ]); (try simp only [List.set_cons_zero])
      refine wpAnyH_take (i := 7) (oi := { dst := Option.some 34, op := Go.Op.binOp Go.BinOp.add 9 (Go.Operand.tmp 29) (Go.Operand.tmp 33) 9, type := 9, pos := "l71_draw.go:589", after := #[{ on := 2, ground := Go.Ground.data }, { on := 6, ground := Go.Ground.data }], guard := Option.none }) (v := ?v18) rfl (by kernel_rfl) (by kernel_rfl) (by kernel_rfl) (fun _ _ _ h => h) (Or.inl ⟨by rfl, ?hy18⟩) (by assumption) ?rest18
      case hy18 =>
        intro w9 hSw
        clear hSw
        go_simp
        first | done | with_reducible rfl
      (try simp only [Act.put]); (try simp only [List.setIfInBounds_toArray]); (try simp only [List.set_cons_succ]); (try simp only [List.set_cons_zero])
      refine wpAnyH_take (i := 8) (oi := { dst := Option.some 2, op := Go.Op.assign (Go.Operand.tmp 34), type := 9, pos := "l71_draw.go:589", after := #[{ on := 7, ground := Go.Ground.data }, { on := 0, ground := Go.Ground.phase }, { on := 1, ground := Go.Ground.phase }, { on := 2, ground := Go.Ground.phase }, { on := 3, ground := Go.Ground.phase }, { on := 4, ground := Go.Ground.phase }, { on := 5, ground := Go.Ground.phase }, { on := 6, ground := Go.Ground.phase }, { on := 7, ground := Go.Ground.phase }], guard := Option.none }) (v := ?v19) rfl (by kernel_rfl) (by kernel_rfl) (by kernel_rfl) (fun _ _ _ h => h) (Or.inl ⟨by rfl, ?hy19⟩) (by assumption) ?rest19
      case hy19 =>
        intro w9 hSw
        clear hSw
        go_simp
        first | done | with_reducible rfl
      (try simp only [Act.put]); (try simp only [List.setIfInBounds_toArray]); (try simp only [List.set_cons_succ]); (try simp only [List.set_cons_zero])
      refine wpAnyH_done (by kernel_rfl) ?_ _
      go_wp2
      go_ret
      exact ⟨T.extract 0 I ++ T.extract (I + 1) T.size, rfl, by rw [ByteArray.size_append]; omega, bel2 HB5.out (by rfl) (by rfl) (by rfl) (by rfl)⟩
    by_cases hy1 : y = 1
    · subst hy1
      go_upto_region 10 with fail
      refine wp_region_held_drew (S := (fun _ : World => True)) (by kernel_rfl) (trivial) (fun hHeld => ?_)
      refine wpAnyH_take (i := 0) (oi := { dst := Option.some 37, op := Go.Op.move (Go.Operand.tmp 4), type := 9, pos := "l71_draw.go:591", after := #[], guard := Option.none }) (v := ?v1) rfl (by kernel_rfl) (by kernel_rfl) (by kernel_rfl) (fun _ _ _ h => h) (Or.inl ⟨by rfl, ?hy1⟩) (by assumption) ?rest1
      case hy1 =>
        intro w9 hSw
        clear hSw
        go_simp
        first | done | with_reducible rfl
      (try simp only [Act.put]); (try simp only [List.setIfInBounds_toArray]); (try simp only [List.set_cons_succ]); (try simp only [List.set_cons_zero])
      refine wpAnyH_take (i := 1) (oi := { dst := Option.some 38, op := Go.Op.move (Go.Operand.tmp 5), type := 3, pos := "l71_draw.go:591", after := #[], guard := Option.none }) (v := ?v2) rfl (by kernel_rfl) (by kernel_rfl) (by kernel_rfl) (fun _ _ _ h => h) (Or.inl ⟨by rfl, ?hy2⟩) (by assumption) ?rest2
      case hy2 =>
        intro w9 hSw
        clear hSw
        go_simp
        first | done | with_reducible rfl
      (try simp only [Act.put]); (try simp only [List.setIfInBounds_toArray]); (try simp only [List.set_cons_succ]); (try simp only [List.set_cons_zero])
      refine wpAnyH_take (i := 2) (oi := { dst := Option.some 39, op := Go.Op.slice 9 (Go.Operand.tmp 37) Option.none (Option.some (Go.Operand.tmp 38)) Option.none, type := 9, pos := "l71_draw.go:591", after := #[{ on := 0, ground := Go.Ground.data }, { on := 1, ground := Go.Ground.data }], guard := Option.none }) (v := ?v3) rfl (by kernel_rfl) (by kernel_rfl) (by kernel_rfl) (fun _ _ _ h => h) (Or.inl ⟨by rfl, ?hy3⟩) (by assumption) ?rest3
      case hy3 =>
        intro w9 hSw
        clear hSw
        go_simp
        first | done | with_reducible rfl
      (try simp only [Act.put]); (try simp only [List.setIfInBounds_toArray]); (try simp only [List.set_cons_succ]); (try simp only [List.set_cons_zero])
      refine wpAnyH_take (i := 3) (oi := { dst := Option.some 40, op := Go.Op.move (Go.Operand.tmp 3), type := 39, pos := "l71_draw.go:591", after := #[], guard := Option.none }) (v := ?v4) rfl (by kernel_rfl) (by kernel_rfl) (by kernel_rfl) (fun _ _ _ h => h) (Or.inl ⟨by rfl, ?hy4⟩) (by assumption) ?rest4
      case hy4 =>
        intro w9 hSw
        clear hSw
        go_simp
        first | done | with_reducible rfl
      (try simp only [Act.put]); (try simp only [List.setIfInBounds_toArray]); (try simp only [List.set_cons_succ]); (try simp only [List.set_cons_zero])
      refine wpAnyH_take (i := 7) (oi := { dst := Option.some 44, op := Go.Op.move (Go.Operand.tmp 4), type := 9, pos := "l71_draw.go:591", after := #[], guard := Option.none }) (v := ?v5) rfl (by kernel_rfl) (by kernel_rfl) (by kernel_rfl) (fun _ _ _ h => h) (Or.inl ⟨by rfl, ?hy5⟩) (by assumption) ?rest5
      case hy5 =>
        intro w9 hSw
        clear hSw
        go_simp
        first | done | with_reducible rfl
      (try simp only [Act.put]); (try simp only [List.setIfInBounds_toArray]); (try simp only [List.set_cons_succ]); (try simp only [List.set_cons_zero])
      refine wpAnyH_take (i := 8) (oi := { dst := Option.some 45, op := Go.Op.move (Go.Operand.tmp 5), type := 3, pos := "l71_draw.go:591", after := #[], guard := Option.none }) (v := ?v6) rfl (by kernel_rfl) (by kernel_rfl) (by kernel_rfl) (fun _ _ _ h => h) (Or.inl ⟨by rfl, ?hy6⟩) (by assumption) ?rest6
      case hy6 =>
        intro w9 hSw
        clear hSw
        go_simp
        first | done | with_reducible rfl
      (try simp only [Act.put]); (try simp only [List.setIfInBounds_toArray]); (try simp only [List.set_cons_succ]); (try simp only [List.set_cons_zero])
      refine wpAnyH_take (i := 9) (oi := { dst := Option.some 46, op := Go.Op.slice 9 (Go.Operand.tmp 44) (Option.some (Go.Operand.tmp 45)) Option.none Option.none, type := 9, pos := "l71_draw.go:591", after := #[{ on := 7, ground := Go.Ground.data }, { on := 8, ground := Go.Ground.data }], guard := Option.none }) (v := ?v7) rfl (by kernel_rfl) (by kernel_rfl) (by kernel_rfl) (fun _ _ _ h => h) (Or.inl ⟨by rfl, ?hy7⟩) (by assumption) ?rest7
      case hy7 =>
        intro w9 hSw
        clear hSw
        go_simp
        first | done | with_reducible rfl
      (try simp only [Act.put]); (try simp only [List.setIfInBounds_toArray]); (try simp only [List.set_cons_succ]); (try simp only [List.set_cons_zero])
      refine wpAnyH_ready (rs := [4]) (by kernel_rfl) (by simp) ?_
      refine AllReadyH.cons (o := { dst := Option.some 41, op := Go.Op.buildSlice 56 6 #[(0, Go.Operand.const (Go.Value.string { data := #[48] })), (1, Go.Operand.const (Go.Value.string { data := #[97] })), (2, Go.Operand.const (Go.Value.string { data := #[59] })), (3, Go.Operand.const (Go.Value.string { data := #[45] })), (4, Go.Operand.const (Go.Value.string { data := #[61] })), (5, Go.Operand.const (Go.Value.string { data := #[33] }))], type := 56, pos := "l71_draw.go:591", after := #[], guard := Option.none }) rfl (fun K hK => ?_) AllReadyH.nil
      go_simp
      refine hK.out _ _ (trivial) (fun hHeld => ?_)
      clear hK K
      (try simp only [Act.put]); (try simp only [List.setIfInBounds_toArray]); (try simp only [List.set_cons_succ]); (try simp only [List.set_cons_zero])
      refine wpAnyH_ready (rs := [5]) (by kernel_rfl) (by simp) ?_
      refine AllReadyH.cons (o := { dst := Option.some 42, op := Go.Op.call { callee := Go.Callee.value (Go.Operand.func 35), args := #[Go.Operand.tmp 40, Go.Operand.tmp 41], argTypes := #[39, 56] }, type := 9, pos := "l71_draw.go:591", after := #[{ on := 3, ground := Go.Ground.data }, { on := 4, ground := Go.Ground.data }], guard := Option.none }) rfl (fun K hK => ?_) AllReadyH.nil
      go_simp
      (go_at_call 35; refine (ofR (fun s => s.size ≤ 1) _ w.heap.size p4 n1 c1 w5.heap.size 6 A1 (Rd.drewN (HR5.out.alloc (.cells #[.string ⟨#[48]⟩, .string ⟨#[97]⟩, .string ⟨#[59]⟩, .string ⟨#[45]⟩, .string ⟨#[61]⟩, .string ⟨#[33]⟩] 9)) 1) (by omega) (by omega) (by omega) (by omega) (lits_at w5 [⟨#[48]⟩, ⟨#[97]⟩, ⟨#[59]⟩, ⟨#[45]⟩, ⟨#[61]⟩, ⟨#[33]⟩] _ (fun s => s.size ≤ 1) (by decide)) (by simp)).mono ?_; rintro e w9 ⟨t, ht, rfl, hr9, hg9⟩; have HG9 := Lib.hid hg9; clear hr9 hg9; have ht1 : t.size ≤ 1 := ht; have n2 : ¬ 9223372036854775807 < min I T.size + t.size := (by omega); have n3 : ¬ 9223372036854775807 < min I T.size + t.size + (T.size - I) := (by omega))
      (try go_wp2_with fail)
      refine hK.out _ _ (trivial) (fun hHeld => ?_)
      clear hK K
      (try simp only [Act.put]); (try simp only [List.setIfInBounds_toArray]); (try simp only [List.set_cons_succ]); (try simp only [List.set_cons_zero])
      refine wpAnyH_take (i := 6) (oi := { dst := Option.some 43, op := Go.Op.binOp Go.BinOp.add 9 (Go.Operand.tmp 39) (Go.Operand.tmp 42) 9, type := 9, pos := "l71_draw.go:591", after := #[{ on := 2, ground := Go.Ground.data }, { on := 5, ground := Go.Ground.data }], guard := Option.none }) (v := ?v8) rfl (by kernel_rfl) (by kernel_rfl) (by kernel_rfl) (fun _ _ _ h => h) (Or.inl ⟨by rfl, ?hy8⟩) (by assumption) ?rest8
      case hy8 =>
        intro w9 hSw
        clear hSw
        go_simp
        first | done | with_reducible rfl
      (try simp only [Act.put]); (try simp only [List.setIfInBounds_toArray]); (try simp only [List.set_cons_succ]); (try simp only [List.set_cons_zero])
      refine wpAnyH_take (i := 10) (oi := { dst := Option.some 47, op := Go.Op.binOp Go.BinOp.add 9 (Go.Operand.tmp 43) (Go.Operand.tmp 46) 9, type := 9, pos := "l71_draw.go:591", after := #[{ on := 6, ground := Go.Ground.data }, { on := 9, ground := Go.Ground.data }], guard := Option.none }) (v := ?v9) rfl (by kernel_rfl) (by kernel_rfl) (by kernel_rfl) (fun _ _ _ h => h) (Or.inl ⟨by rfl, ?hy9⟩) (by assumption) ?rest9
      case hy9 =>
        intro w9 hSw
        clear hSw
        go_simp
        first | done | with_reducible rfl
      (try simp only [Act.put]); (try simp only [List.setIfInBounds_toArray]); (try simp only [List.set_cons_succ]); (try simp only [List.set_cons_zero])
      refine wpAnyH_take (i := 11) (oi := { dst := Option.some 2, op := Go.Op.assign (Go.Operand.tmp 47), type := 9, pos := "l71_draw.go:591", after := #[{ on := 10, ground := Go.Ground.data }, { on := 5, ground := Go.Ground.chain }, { on := 0, ground := Go.Ground.phase }, { on := 1, ground := Go.Ground.phase }, { on := 2, ground := Go.Ground.phase }, { on := 3, ground := Go.Ground.phase }, { on := 4, ground := Go.Ground.phase }, { on := 5, ground := Go.Ground.phase }, { on := 6, ground := Go.Ground.phase }, { on := 7, ground := Go.Ground.phase }, { on := 8, ground := Go.Ground.phase }, { on := 9, ground := Go.Ground.phase }, { on := 10, ground := Go.Ground.phase }], guard := Option.none }) (v := ?v10) rfl (by kernel_rfl) (by kernel_rfl) (by kernel_rfl) (fun _ _ _ h => h) (Or.inl ⟨by rfl, ?hy10⟩) (by assumption) ?rest10
      case hy10 =>
        intro w9 hSw
        clear hSw
        go_simp
        first | done | with_reducible rfl
      (try simp only [Act.put]); (try simp only [List.setIfInBounds_toArray]); (try simp only [List.set_cons_succ]); (try simp only [List.set_cons_zero])
      refine wpAnyH_done (by kernel_rfl) ?_ _
      go_wp2
      go_ret
      refine ⟨T.extract 0 I ++ t ++ T.extract I T.size, rfl, by rw [ByteArray.size_append, ByteArray.size_append]; omega, ?_⟩
      exact below_g (bel2 (HB5.out.alloc HB5.out.size (.cells #[.string ⟨#[48]⟩, .string ⟨#[97]⟩, .string ⟨#[59]⟩, .string ⟨#[45]⟩, .string ⟨#[61]⟩, .string ⟨#[33]⟩] 9)) (by rfl) (by rfl) (by rfl) (by rfl)) HG9.out (Nat.le_refl _)
    by_cases hy2 : y = 2
    · subst hy2
      go_wp2_with fail
      go_at_call 35
      refine (ofR (fun s => s.size ≤ 10) _ w.heap.size p4 n1 c1 w5.heap.size 8 A1 (HR5.out.alloc _) (by omega) (by omega) (by omega) (by omega) (lits_at w5 [⟨#[]⟩, ⟨#[97, 61, 49, 45, 48, 59]⟩, ⟨#[120, 61, 49, 45, 49, 59]⟩, ⟨#[97, 61, 49, 48, 48, 45, 49, 59]⟩, ⟨#[97, 61, 48, 49, 45, 49, 59]⟩, ⟨#[97, 45, 49, 59, 97, 45, 50, 59]⟩, ⟨#[97, 45, 49]⟩, ⟨#[98, 45, 49, 59, 97, 45, 49, 59]⟩] _ (fun s => s.size ≤ 10) (by decide)) (by simp)).mono ?_
      rintro e w6 ⟨t, ht, rfl, hr6, hg6⟩
      have HB6 := Lib.hid (below_g (HB5.out.alloc HB5.out.size _) hg6 (Nat.le_refl _))
      have hsl := seal_len t.data.toList
      rw [len_l] at hsl
      have HSL := Lib.hid (show Calls Tryd.prog 31 #[.string t] w6 fun e w' => e = .returned (.string (ofL (sealL t.data.toList))) ∧ Below w6.heap.size w6 w' from by have := sealS t.data.toList w6 (by rw [len_l]; omega); rwa [of_data] at this)
      clear hr6 hg6
      go_wp2_with fail
      go_at_call 31
      refine Calls.mono HSL.out ?_
      rintro e w7 ⟨rfl, hb7⟩
      have HB7 := Lib.hid (HB6.out.trans (hb7.mono HB6.out.size))
      clear hb7
      go_wp2
      go_ret
      exact ⟨_, rfl, by rw [ofL_size]; omega, HB7.out⟩
    by_cases hy3 : y = 3
    · subst hy3
      have n1_ : ¬ 9223372036854775807 < T.size + T.size := by omega
      go_wp2
      go_ret
      exact ⟨T ++ T, rfl, by rw [ByteArray.size_append]; omega, HB5.out⟩
    · go_wp2
      go_ret
      exact ⟨_, rfl, by have := ext_size T 0 I; omega, HB5.out⟩

end Go.Proofs.YtbckgmfopbpocaaDoor.W
