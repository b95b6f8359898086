/-
  What the laws of deeds draw: texts.
-/
import Derived.Test.YtklphdomjhliaaaDoorHL
import Derived.OrdersHeld
import Derived.Deep.RegionHeld
import Derived.BigQuiet
namespace Go.Proofs.YtklphdomjhliaaaDoor.W
open Go.RowKit K R B

/-- a text was drawn -/
def TextD (w : World) (e : Ending) (w' : World) : Prop := ∃ s : ByteArray, e = .returned (.string s) ∧ s.size ≤ 2000 ∧ Below w.heap.size w w'
theorem ext_sizeD (s : ByteArray) (a b : Nat) : (s.extract a b).size ≤ s.size := by
  have := ByteArray.size_extract (a := s) (b := a) (e := b)
  omega
theorem below_gD {g : Nat} {a w w' : World} (h : Below a.heap.size a w) (hg : w.grownBy w' (some g)) (hB : a.heap.size ≤ g) : Below a.heap.size a w' :=
  h.trans (grown_bW hg hB h.size)
theorem rd_belowD {w w' : World} {g p n c : Nat} {A : Option Addr} (h : Rd w g p A n c) (hb : Below w.heap.size w w') (hg : g < w.heap.size) : Rd w' g p A n c :=
  h.grown (r := some w.heap.size) ⟨hb.os, hb.tape, hb.output, hb.size, fun k hk _ => hb.block k hk⟩ (fun k hk => by injection hk with hk; omega)
set_option maxHeartbeats 8000000 in
set_option maxRecDepth 100000 in
theorem drawDeedRead (w : World) (A : Option Addr) (n c : Nat) (hb : Bytes w w.heap.size A n) (hnc : n ≤ c) (hc : c ≤ maxLen) :
    Calls Tryd.prog 12 #[.slice A n c] w (TextD w) := by
  go_enter Tryd.func12, Tryd.ntmps12
  go_wp2_with fail
  go_at_call 17
  refine Calls.mono (openR w A n c hb hnc hc) ?_
  rintro e w1 ⟨A1, n1, c1, rfl, hr1, hb1⟩
  have hg1 : w.heap.size < w1.heap.size := (Array.getElem?_eq_some_iff.1 hr1.blk).1
  have HB1 := Lib.hid hb1
  have HR1 := Lib.hid hr1
  clear hb hr1 hb1
  have hne : w1.heap.size ≠ w.heap.size := by omega
  have HNE := Lib.hid hne
  have HG1 := Lib.hid hg1
  clear hne hg1
  go_wp2_with fail
  go_at_call 18
  refine Calls.mono (deedDr _ w.heap.size 0 n1 c1 w1.heap.size A1 (HR1.out.alloc _) (by omega) HNE.out) ?_
  rintro e w2 ⟨k, num, key, p2, hks, hp2, rfl, hr2, hg2⟩
  have HB2 := Lib.hid (below_gD (HB1.out.alloc HB1.out.size _) hg2 (Nat.le_refl _))
  have HR2 := Lib.hid hr2
  have hgs2 := HB2.out.size
  have HBK := Lib.hid (deedS k key num w2 (by unfold maxLen; omega))
  have hTs : (ofL (deedL ⟨k, key, num⟩)).size ≤ 15 := by rw [ofL_size]; exact deed_len _
  obtain ⟨T, hT⟩ : ∃ T, T = ofL (deedL ⟨k, key, num⟩) := ⟨_, rfl⟩
  rw [← hT] at HBK hTs
  have hgr2 := (Array.getElem?_eq_some_iff.1 hr2.blk).1
  clear hr2 hg2 hT HR1 HB1
  go_wp2_with fail
  go_at_call 10
  refine Calls.mono HBK.out ?_
  rintro e w3 ⟨rfl, hb3⟩
  have HB3 := Lib.hid (HB2.out.trans (hb3.mono HB2.out.size))
  have HR3 := Lib.hid (rd_belowD HR2.out hb3 (by omega))
  have hs3 := hb3.size
  clear hb3 HB2 HR2 HBK
  go_wp2_with fail
  go_at_call 19
  refine Calls.mono (pick w3 w.heap.size p2 n1 c1 A1 2 HR3.out (by omega) (by omega)) ?_
  rintro e w4 ⟨x, rfl, hx0, hx1, hr4, hg4⟩
  have HB4 := Lib.hid (below_gD HB3.out hg4 (Nat.le_refl _))
  have HR4 := Lib.hid hr4
  have hs4 := hg4.size
  clear hx1 hr4 hg4 HB3 HR3
  by_cases hx : x = 0
  · subst hx
    go_wp2
    go_ret
    exact ⟨T, rfl, by omega, HB4.out⟩
  cases hte : T.toList.isEmpty with
  | true =>
    go_wp2
    go_ret
    exact ⟨T, rfl, by omega, HB4.out⟩
  | false =>
    have hTp : 1 ≤ T.size := by
      rcases Nat.eq_zero_or_pos T.size with h | h
      · rw [ByteArray.toList_eq, show T.data.toList = [] from List.eq_nil_of_length_eq_zero (by rw [len_l]; exact h)] at hte; cases hte
      · exact h
    go_wp2_with fail
    go_at_call 19
    refine Calls.mono (pick w4 w.heap.size (p2 + 1) n1 c1 A1 (T.size : Int) HR4.out (by omega) (by omega)) ?_
    rintro e w4b ⟨i, rfl, hi0, hi1, hr5, hg5⟩
    obtain ⟨I, rfl⟩ := Int.eq_ofNat_of_zero_le hi0
    have hI : I < T.size := by omega
    have HB4b := Lib.hid (below_gD HB4.out hg5 (Nat.le_refl _))
    have HR4b := Lib.hid hr5
    have hs4b := hg5.size
    clear hi1 hr5 hg5 HB4 HR4
    go_wp2_with fail
    go_at_call 19
    refine Calls.mono (pick w4b w.heap.size (p2 + 1 + 1) n1 c1 A1 4 HR4b.out (by omega) (by omega)) ?_
    rintro e w5 ⟨y, rfl, hy0, hy1, hr5, hg5⟩
    have HB5 := Lib.hid (below_gD HB4b.out hg5 (Nat.le_refl _))
    have HR5 := Lib.hid hr5
    have hs5 := hg5.size
    have hgw5 : w.heap.size < w5.heap.size := by omega
    obtain ⟨p4, hp4⟩ : ∃ p4, p4 = p2 + 1 + 1 + 1 := ⟨_, rfl⟩
    have hp4b : p4 ≤ 100000 := by omega
    rw [← hp4] at HR5
    have z0 : (0 : Int) ≤ (I : Int) := by omega
    have z1 : (I : Int) < (T.size : Int) := by omega
    have z2 : (I : Int) ≤ (T.size : Int) := by omega
    have z3 : (I : Int) + 1 ≤ (T.size : Int) := by omega
    have s1 := ext_sizeD T 0 I
    have s2 := ext_sizeD T I T.size
    have s3 := ext_sizeD T (I + 1) T.size
    clear hy1 hr5 hg5 HB4b HR4b hp4 hi0
    have z4 : (0 : Int) ≤ (I : Int) + 1 := by omega
    have e1 : IntKind.i64.wrap ((I : Int) + 1) = (I : Int) + 1 := z64 _ (by omega) (by omega)
    have s4 : (T.extract 0 I).size = min I T.size := by rw [ByteArray.size_extract]; omega
    by_cases hy : y = 0
    · subst hy
      have n1_ : ¬ 9223372036854775807 < min I T.size + (T.size - (I + 1)) := by omega
      go_upto_region 8 with fail
      refine wp_region_held_drew (S := (fun _ : World => True)) (by kernel_rfl) (trivial) (fun hHeld => ?_)
      refine wpAnyH_take (i := 0) (oi := { dst := Option.some 28, op := Go.Op.move (Go.Operand.tmp 4), type := 9, pos := "l71_draw.go:680", after := #[], guard := Option.none }) (v := ?v11) rfl (by kernel_rfl) (by kernel_rfl) (by kernel_rfl) (fun _ _ _ h => h) (Or.inl ⟨by rfl, ?hy11⟩) (by assumption) ?rest11
      case hy11 =>
        intro w9 hSw
        clear hSw
        go_simp
        first | done | with_reducible rfl
      (try simp only [Act.put]); (try simp only [List.setIfInBounds_toArray]); (try simp only [List.set_cons_succ]); (try simp only [List.set_cons_zero])
      refine wpAnyH_take (i := 1) (oi := { dst := Option.some 29, op := Go.Op.move (Go.Operand.tmp 5), type := 3, pos := "l71_draw.go:680", after := #[], guard := Option.none }) (v := ?v12) rfl (by kernel_rfl) (by kernel_rfl) (by kernel_rfl) (fun _ _ _ h => h) (Or.inl ⟨by rfl, ?hy12⟩) (by assumption) ?rest12
      case hy12 =>
        intro w9 hSw
        clear hSw
        go_simp
        first | done | with_reducible rfl
      (try simp only [Act.put]); (try simp only [List.setIfInBounds_toArray]); (try simp only [List.set_cons_succ]); (try simp only [List.set_cons_zero])
      refine wpAnyH_take (i := 2) (oi := { dst := Option.some 30, op := Go.Op.slice 9 (Go.Operand.tmp 28) Option.none (Option.some (Go.Operand.tmp 29)) Option.none, type := 9, pos := "l71_draw.go:680", after := #[{ on := 0, ground := Go.Ground.data }, { on := 1, ground := Go.Ground.data }], guard := Option.none }) (v := ?v13) rfl (by kernel_rfl) (by kernel_rfl) (by kernel_rfl) (fun _ _ _ h => h) (Or.inl ⟨by rfl, ?hy13⟩) (by assumption) ?rest13
      case hy13 =>
        intro w9 hSw
        clear hSw
        go_simp
        first | done | with_reducible rfl
      (try simp only [Act.put]); (try simp only [List.setIfInBounds_toArray]); (try simp only [List.set_cons_succ]); (try simp only [List.set_cons_zero])
      refine wpAnyH_take (i := 3) (oi := { dst := Option.some 31, op := Go.Op.move (Go.Operand.tmp 4), type := 9, pos := "l71_draw.go:680", after := #[], guard := Option.none }) (v := ?v14) rfl (by kernel_rfl) (by kernel_rfl) (by kernel_rfl) (fun _ _ _ h => h) (Or.inl ⟨by rfl, ?hy14⟩) (by assumption) ?rest14
      case hy14 =>
        intro w9 hSw
        clear hSw
        go_simp
        first | done | with_reducible rfl
      (try simp only [Act.put]); (try simp only [List.setIfInBounds_toArray]); (try simp only [List.set_cons_succ]); (try simp only [List.set_cons_zero])
      refine wpAnyH_take (i := 4) (oi := { dst := Option.some 32, op := Go.Op.move (Go.Operand.tmp 5), type := 3, pos := "l71_draw.go:680", after := #[], guard := Option.none }) (v := ?v15) rfl (by kernel_rfl) (by kernel_rfl) (by kernel_rfl) (fun _ _ _ h => h) (Or.inl ⟨by rfl, ?hy15⟩) (by assumption) ?rest15
      case hy15 =>
        intro w9 hSw
        clear hSw
        go_simp
        first | done | with_reducible rfl
      (try simp only [Act.put]); (try simp only [List.setIfInBounds_toArray]); (try simp only [List.set_cons_succ]); (try simp only [List.set_cons_zero])
      refine wpAnyH_take (i := 5) (oi := { dst := Option.some 33, op := Go.Op.binOp Go.BinOp.add 3 (Go.Operand.tmp 32) (Go.Operand.const (Go.Value.int Go.IntKind.i64 1)) 3, type := 3, pos := "l71_draw.go:680", after := #[{ on := 4, ground := Go.Ground.data }], guard := Option.none }) (v := ?v16) rfl (by kernel_rfl) (by kernel_rfl) (by kernel_rfl) (fun _ _ _ h => h) (Or.inl ⟨by rfl, ?hy16⟩) (by assumption) ?rest16
      case hy16 =>
        intro w9 hSw
        clear hSw
        go_simp
        first | done | with_reducible rfl
      (try simp only [Act.put]); (try simp only [List.setIfInBounds_toArray]); (try simp only [List.set_cons_succ]); (try simp only [List.set_cons_zero])
      refine wpAnyH_take (i := 6) (oi := { dst := Option.some 34, op := Go.Op.slice 9 (Go.Operand.tmp 31) (Option.some (Go.Operand.tmp 33)) Option.none Option.none, type := 9, pos := "l71_draw.go:680", after := #[{ on := 3, ground := Go.Ground.data }, { on := 5, ground := Go.Ground.data }], guard := Option.none }) (v := ?v17) rfl (by kernel_rfl) (by kernel_rfl) (by kernel_rfl) (fun _ _ _ h => h) (Or.inl ⟨by rfl, ?hy17⟩) (by assumption) ?rest17
      case hy17 =>
        intro w9 hSw
        clear hSw
        go_simp
        first | done | with_reducible rfl
      (try simp only [Act.put]); (try simp only [List.setIfInBounds_toArray]); (try simp only [List.set_cons_succ]); (try simp only [List.set_cons_zero])
      refine wpAnyH_take (i := 7) (oi := { dst := Option.some 35, op := Go.Op.binOp Go.BinOp.add 9 (Go.Operand.tmp 30) (Go.Operand.tmp 34) 9, type := 9, pos := "l71_draw.go:680", after := #[{ on := 2, ground := Go.Ground.data }, { on := 6, ground := Go.Ground.data }], guard := Option.none }) (v := ?v18) rfl (by kernel_rfl) (by kernel_rfl) (by kernel_rfl) (fun _ _ _ h => h) (Or.inl ⟨by rfl, ?hy18⟩) (by assumption) ?rest18
      case hy18 =>
        intro w9 hSw
        clear hSw
        go_simp
        first | done | with_reducible rfl
      (try simp only [Act.put]); (try simp only [List.setIfInBounds_toArray]); (try simp only [List.set_cons_succ]); (try simp only [List.set_cons_zero])
      refine wpAnyH_take (i := 8) (oi := { dst := Option.some 2, op := Go.Op.assign (Go.Operand.tmp 35), type := 9, pos := "l71_draw.go:680", after := #[{ on := 7, ground := Go.Ground.data }, { on := 0, ground := Go.Ground.phase }, { on := 1, ground := Go.Ground.phase }, { on := 2, ground := Go.Ground.phase }, { on := 3, ground := Go.Ground.phase }, { on := 4, ground := Go.Ground.phase }, { on := 5, ground := Go.Ground.phase }, { on := 6, ground := Go.Ground.phase }, { on := 7, ground := Go.Ground.phase }], guard := Option.none }) (v := ?v19) rfl (by kernel_rfl) (by kernel_rfl) (by kernel_rfl) (fun _ _ _ h => h) (Or.inl ⟨by rfl, ?hy19⟩) (by assumption) ?rest19
      case hy19 =>
        intro w9 hSw
        clear hSw
        go_simp
        first | done | with_reducible rfl
      (try simp only [Act.put]); (try simp only [List.setIfInBounds_toArray]); (try simp only [List.set_cons_succ]); (try simp only [List.set_cons_zero])
      refine wpAnyH_done (by kernel_rfl) ?_ _
      go_wp2
      go_ret
      exact ⟨T.extract 0 I ++ T.extract (I + 1) T.size, rfl, by rw [ByteArray.size_append]; omega, belw HB5.out (by rfl) (by rfl) (by rfl) (by rfl)⟩
    by_cases hy1 : y = 1
    · subst hy1
      go_upto_region 10 with fail
      refine wp_region_held_drew (S := (fun _ : World => True)) (by kernel_rfl) (trivial) (fun hHeld => ?_)
      refine wpAnyH_take (i := 0) (oi := { dst := Option.some 38, op := Go.Op.move (Go.Operand.tmp 4), type := 9, pos := "l71_draw.go:682", after := #[], guard := Option.none }) (v := ?v1) rfl (by kernel_rfl) (by kernel_rfl) (by kernel_rfl) (fun _ _ _ h => h) (Or.inl ⟨by rfl, ?hy1⟩) (by assumption) ?rest1
      case hy1 =>
        intro w9 hSw
        clear hSw
        go_simp
        first | done | with_reducible rfl
      (try simp only [Act.put]); (try simp only [List.setIfInBounds_toArray]); (try simp only [List.set_cons_succ]); (try simp only [List.set_cons_zero])
      refine wpAnyH_take (i := 1) (oi := { dst := Option.some 39, op := Go.Op.move (Go.Operand.tmp 5), type := 3, pos := "l71_draw.go:682", after := #[], guard := Option.none }) (v := ?v2) rfl (by kernel_rfl) (by kernel_rfl) (by kernel_rfl) (fun _ _ _ h => h) (Or.inl ⟨by rfl, ?hy2⟩) (by assumption) ?rest2
      case hy2 =>
        intro w9 hSw
        clear hSw
        go_simp
        first | done | with_reducible rfl
      (try simp only [Act.put]); (try simp only [List.setIfInBounds_toArray]); (try simp only [List.set_cons_succ]); (try simp only [List.set_cons_zero])
      refine wpAnyH_take (i := 2) (oi := { dst := Option.some 40, op := Go.Op.slice 9 (Go.Operand.tmp 38) Option.none (Option.some (Go.Operand.tmp 39)) Option.none, type := 9, pos := "l71_draw.go:682", after := #[{ on := 0, ground := Go.Ground.data }, { on := 1, ground := Go.Ground.data }], guard := Option.none }) (v := ?v3) rfl (by kernel_rfl) (by kernel_rfl) (by kernel_rfl) (fun _ _ _ h => h) (Or.inl ⟨by rfl, ?hy3⟩) (by assumption) ?rest3
      case hy3 =>
        intro w9 hSw
        clear hSw
        go_simp
        first | done | with_reducible rfl
      (try simp only [Act.put]); (try simp only [List.setIfInBounds_toArray]); (try simp only [List.set_cons_succ]); (try simp only [List.set_cons_zero])
      refine wpAnyH_take (i := 3) (oi := { dst := Option.some 41, op := Go.Op.move (Go.Operand.tmp 3), type := 38, pos := "l71_draw.go:682", after := #[], guard := Option.none }) (v := ?v4) rfl (by kernel_rfl) (by kernel_rfl) (by kernel_rfl) (fun _ _ _ h => h) (Or.inl ⟨by rfl, ?hy4⟩) (by assumption) ?rest4
      case hy4 =>
        intro w9 hSw
        clear hSw
        go_simp
        first | done | with_reducible rfl
      (try simp only [Act.put]); (try simp only [List.setIfInBounds_toArray]); (try simp only [List.set_cons_succ]); (try simp only [List.set_cons_zero])
      refine wpAnyH_take (i := 7) (oi := { dst := Option.some 45, op := Go.Op.move (Go.Operand.tmp 4), type := 9, pos := "l71_draw.go:682", after := #[], guard := Option.none }) (v := ?v5) rfl (by kernel_rfl) (by kernel_rfl) (by kernel_rfl) (fun _ _ _ h => h) (Or.inl ⟨by rfl, ?hy5⟩) (by assumption) ?rest5
      case hy5 =>
        intro w9 hSw
        clear hSw
        go_simp
        first | done | with_reducible rfl
      (try simp only [Act.put]); (try simp only [List.setIfInBounds_toArray]); (try simp only [List.set_cons_succ]); (try simp only [List.set_cons_zero])
      refine wpAnyH_take (i := 8) (oi := { dst := Option.some 46, op := Go.Op.move (Go.Operand.tmp 5), type := 3, pos := "l71_draw.go:682", after := #[], guard := Option.none }) (v := ?v6) rfl (by kernel_rfl) (by kernel_rfl) (by kernel_rfl) (fun _ _ _ h => h) (Or.inl ⟨by rfl, ?hy6⟩) (by assumption) ?rest6
      case hy6 =>
        intro w9 hSw
        clear hSw
        go_simp
        first | done | with_reducible rfl
      (try simp only [Act.put]); (try simp only [List.setIfInBounds_toArray]); (try simp only [List.set_cons_succ]); (try simp only [List.set_cons_zero])
      refine wpAnyH_take (i := 9) (oi := { dst := Option.some 47, op := Go.Op.slice 9 (Go.Operand.tmp 45) (Option.some (Go.Operand.tmp 46)) Option.none Option.none, type := 9, pos := "l71_draw.go:682", after := #[{ on := 7, ground := Go.Ground.data }, { on := 8, ground := Go.Ground.data }], guard := Option.none }) (v := ?v7) rfl (by kernel_rfl) (by kernel_rfl) (by kernel_rfl) (fun _ _ _ h => h) (Or.inl ⟨by rfl, ?hy7⟩) (by assumption) ?rest7
      case hy7 =>
        intro w9 hSw
        clear hSw
        go_simp
        first | done | with_reducible rfl
      (try simp only [Act.put]); (try simp only [List.setIfInBounds_toArray]); (try simp only [List.set_cons_succ]); (try simp only [List.set_cons_zero])
      refine wpAnyH_ready (rs := [4]) (by kernel_rfl) (by simp) ?_
      refine AllReadyH.cons (o := { dst := Option.some 42, op := Go.Op.buildSlice 41 5 #[(0, Go.Operand.const (Go.Value.string { data := #[32] })), (1, Go.Operand.const (Go.Value.string { data := #[48] })), (2, Go.Operand.const (Go.Value.string { data := #[46] })), (3, Go.Operand.const (Go.Value.string { data := #[97] })), (4, Go.Operand.const (Go.Value.string { data := #[112, 117, 116, 32] }))], type := 41, pos := "l71_draw.go:682", after := #[], guard := Option.none }) rfl (fun K hK => ?_) AllReadyH.nil
      go_simp
      refine hK.out _ _ (trivial) (fun hHeld => ?_)
      clear hK K
      (try simp only [Act.put]); (try simp only [List.setIfInBounds_toArray]); (try simp only [List.set_cons_succ]); (try simp only [List.set_cons_zero])
      refine wpAnyH_ready (rs := [5]) (by kernel_rfl) (by simp) ?_
      refine AllReadyH.cons (o := { dst := Option.some 43, op := Go.Op.call { callee := Go.Callee.value (Go.Operand.func 20), args := #[Go.Operand.tmp 41, Go.Operand.tmp 42], argTypes := #[38, 41] }, type := 9, pos := "l71_draw.go:682", after := #[{ on := 3, ground := Go.Ground.data }, { on := 4, ground := Go.Ground.data }], guard := Option.none }) rfl (fun K hK => ?_) AllReadyH.nil
      go_simp
      (go_at_call 20; refine (ofR (fun s => s.size ≤ 4) _ w.heap.size p4 n1 c1 w5.heap.size 5 A1 (Rd.drewN (HR5.out.alloc (.cells #[.string ⟨#[32]⟩, .string ⟨#[48]⟩, .string ⟨#[46]⟩, .string ⟨#[97]⟩, .string ⟨#[112, 117, 116, 32]⟩] 9)) 1) (by omega) (by omega) (by omega) (by omega) (lits_at w5 [⟨#[32]⟩, ⟨#[48]⟩, ⟨#[46]⟩, ⟨#[97]⟩, ⟨#[112, 117, 116, 32]⟩] _ (fun s => s.size ≤ 4) (by decide)) (by simp)).mono ?_; rintro e w9 ⟨t, ht, rfl, hr9, hg9⟩; have HG9 := Lib.hid hg9; clear hr9 hg9; have ht1 : t.size ≤ 4 := ht; have n2 : ¬ 9223372036854775807 < min I T.size + t.size := (by omega); have n3 : ¬ 9223372036854775807 < min I T.size + t.size + (T.size - I) := (by omega))
      (try go_wp2_with fail)
      refine hK.out _ _ (trivial) (fun hHeld => ?_)
      clear hK K
      (try simp only [Act.put]); (try simp only [List.setIfInBounds_toArray]); (try simp only [List.set_cons_succ]); (try simp only [List.set_cons_zero])
      refine wpAnyH_take (i := 6) (oi := { dst := Option.some 44, op := Go.Op.binOp Go.BinOp.add 9 (Go.Operand.tmp 40) (Go.Operand.tmp 43) 9, type := 9, pos := "l71_draw.go:682", after := #[{ on := 2, ground := Go.Ground.data }, { on := 5, ground := Go.Ground.data }], guard := Option.none }) (v := ?v8) rfl (by kernel_rfl) (by kernel_rfl) (by kernel_rfl) (fun _ _ _ h => h) (Or.inl ⟨by rfl, ?hy8⟩) (by assumption) ?rest8
      case hy8 =>
        intro w9 hSw
        clear hSw
        go_simp
        first | done | with_reducible rfl
      (try simp only [Act.put]); (try simp only [List.setIfInBounds_toArray]); (try simp only [List.set_cons_succ]); (try simp only [List.set_cons_zero])
      refine wpAnyH_take (i := 10) (oi := { dst := Option.some 48, op := Go.Op.binOp Go.BinOp.add 9 (Go.Operand.tmp 44) (Go.Operand.tmp 47) 9, type := 9, pos := "l71_draw.go:682", after := #[{ on := 6, ground := Go.Ground.data }, { on := 9, ground := Go.Ground.data }], guard := Option.none }) (v := ?v9) rfl (by kernel_rfl) (by kernel_rfl) (by kernel_rfl) (fun _ _ _ h => h) (Or.inl ⟨by rfl, ?hy9⟩) (by assumption) ?rest9
      case hy9 =>
        intro w9 hSw
        clear hSw
        go_simp
        first | done | with_reducible rfl
      (try simp only [Act.put]); (try simp only [List.setIfInBounds_toArray]); (try simp only [List.set_cons_succ]); (try simp only [List.set_cons_zero])
      refine wpAnyH_take (i := 11) (oi := { dst := Option.some 2, op := Go.Op.assign (Go.Operand.tmp 48), type := 9, pos := "l71_draw.go:682", after := #[{ on := 10, ground := Go.Ground.data }, { on := 5, ground := Go.Ground.chain }, { on := 0, ground := Go.Ground.phase }, { on := 1, ground := Go.Ground.phase }, { on := 2, ground := Go.Ground.phase }, { on := 3, ground := Go.Ground.phase }, { on := 4, ground := Go.Ground.phase }, { on := 5, ground := Go.Ground.phase }, { on := 6, ground := Go.Ground.phase }, { on := 7, ground := Go.Ground.phase }, { on := 8, ground := Go.Ground.phase }, { on := 9, ground := Go.Ground.phase }, { on := 10, ground := Go.Ground.phase }], guard := Option.none }) (v := ?v10) rfl (by kernel_rfl) (by kernel_rfl) (by kernel_rfl) (fun _ _ _ h => h) (Or.inl ⟨by rfl, ?hy10⟩) (by assumption) ?rest10
      case hy10 =>
        intro w9 hSw
        clear hSw
        go_simp
        first | done | with_reducible rfl
      (try simp only [Act.put]); (try simp only [List.setIfInBounds_toArray]); (try simp only [List.set_cons_succ]); (try simp only [List.set_cons_zero])
      refine wpAnyH_done (by kernel_rfl) ?_ _
      go_wp2
      go_ret
      refine ⟨T.extract 0 I ++ t ++ T.extract I T.size, rfl, by rw [ByteArray.size_append, ByteArray.size_append]; omega, ?_⟩
      exact below_gD (belw (HB5.out.alloc HB5.out.size (.cells #[.string ⟨#[32]⟩, .string ⟨#[48]⟩, .string ⟨#[46]⟩, .string ⟨#[97]⟩, .string ⟨#[112, 117, 116, 32]⟩] 9)) (by rfl) (by rfl) (by rfl) (by rfl)) HG9.out (Nat.le_refl _)
    by_cases hy2 : y = 2
    · subst hy2
      go_wp2_with fail
      go_at_call 20
      refine (ofR (fun s => s.size ≤ 10) _ w.heap.size p4 n1 c1 w5.heap.size 9 A1 (HR5.out.alloc _) (by omega) (by omega) (by omega) (by omega) (lits_at w5 [⟨#[]⟩, ⟨#[112, 117, 116]⟩, ⟨#[112, 117, 116, 32, 46, 32, 49]⟩, ⟨#[112, 117, 116, 32, 46, 120, 32, 49]⟩, ⟨#[116, 97, 107, 101, 32, 46]⟩, ⟨#[106, 111, 105, 110]⟩, ⟨#[104, 111, 108, 100, 32, 49]⟩, ⟨#[100, 111, 119, 110, 32, 46, 97]⟩, ⟨#[102, 114, 101, 101, 32, 49, 48, 48, 48]⟩] _ (fun s => s.size ≤ 10) (by decide)) (by simp)).mono ?_
      rintro e w6 ⟨t, ht, rfl, hr6, hg6⟩
      have HB6 := Lib.hid (below_gD (HB5.out.alloc HB5.out.size _) hg6 (Nat.le_refl _))
      clear hr6 hg6
      go_wp2
      go_ret
      exact ⟨t, rfl, by omega, HB6.out⟩
    · go_wp2
      go_ret
      exact ⟨_, rfl, by have := ext_sizeD T 0 I; omega, HB5.out⟩
end Go.Proofs.YtklphdomjhliaaaDoor.W

