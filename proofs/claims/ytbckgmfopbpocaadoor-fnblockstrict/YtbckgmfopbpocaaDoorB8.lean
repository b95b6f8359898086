/-
  The contract of the model's l21Hear.
-/
import Derived.Test.YtbckgmfopbpocaaDoorB7
import Derived.Test.YtbckgmfopbpocaaDoorE7
import Derived.OrdersHeld
import Derived.Deep.RegionHeld
namespace Go.Proofs.YtbckgmfopbpocaaDoor.W
open Go.RowKit K R B

theorem split_len (c : UInt8) : ∀ (l cur : List UInt8), ∀ x ∈ splitGo c cur l, x.length ≤ cur.length + l.length
  | [], cur, x, h => by
    rw [splitGo] at h
    rw [List.mem_singleton.mp h]; simp
  | y :: r, cur, x, h => by
    rw [splitGo] at h
    split at h
    · rcases List.mem_cons.mp h with h | h
      · subst h; simp
      · have := split_len c r [] x h
        simp at this; simp; omega
    · have := split_len c r _ x h
      simp at this; simp; omega
theorem split_mem {c : UInt8} {l x : List UInt8} (h : x ∈ splitL c l) : x.length ≤ l.length := by have := split_len c l [] x h; simpa using this
theorem hear_there {l a b k v : List UInt8} (h1 : splitL 45 l = [a, b]) (h2 : splitL 61 a = [k, v]) : hearL l = ⟨ofL k, (numL 0 v : Nat), false, (numL 0 b : Nat)⟩ := by
  unfold hearL; rw [h1]; dsimp only; rw [h2]
theorem hear_gone {l a b : List UInt8} (h1 : splitL 45 l = [a, b]) (h2 : (splitL 61 a).length ≠ 2) : hearL l = ⟨ofL a, 0, true, (numL 0 b : Nat)⟩ := by
  unfold hearL; rw [h1]; dsimp only
  split
  · rename_i e; rw [e] at h2; simp at h2
  · rfl
theorem hear_none {l : List UInt8} (h1 : (splitL 45 l).length ≠ 2) : hearL l = ⟨ByteArray.empty, 0, false, 0⟩ := by
  unfold hearL
  split
  · rename_i e; rw [e] at h1; simp at h1
  · rfl
theorem list_two {α : Type} {l : List α} (h : l.length = 2) : ∃ x y, l = [x, y] := by
  match l, h with
  | [x, y], _ => exact ⟨x, y, rfl⟩
theorem strs_two {w : World} {B : Nat} {A : Option Addr} {x y : ByteArray} (h : Strs w B A 2 [x, y]) : ∃ b off, A = some ⟨b, off, none⟩ ∧ b < B ∧ w.cell? ⟨b, off, none⟩ = some (.string x) ∧ w.cell? ⟨b, off + 1, none⟩ = some (.string y) := by
  obtain ⟨b, off, hA, hb, h0⟩ := h.cell 0 (by simp)
  obtain ⟨b', off', hA', _, h1⟩ := h.cell 1 (by simp)
  rw [hA] at hA'
  injection hA' with e
  injection e with e1 e2
  subst e1 e2
  exact ⟨b, off, hA, hb, h0, h1⟩
theorem row_set4 {w : World} {b : Nat} {x0 x1 x2 x3 y0 y1 y2 y3 : Value} {ty : TypeId} (h : w.heap[b]? = some (.cells #[x0, x1, x2, x3] ty (0, 0))) :
    ((((w.setCell ⟨b, 0, none⟩ y0).setCell ⟨b, 1, none⟩ y1).setCell ⟨b, 2, none⟩ y2).setCell ⟨b, 3, none⟩ y3).heap[b]? = some (.cells #[y0, y1, y2, y3] ty (0, 0)) := by
  have h0 := heap_setCell_same w b 0 _ _ y0 h
  have h1 := heap_setCell_same _ b 1 _ _ y1 h0
  have h2 := heap_setCell_same _ b 2 _ _ y2 h1
  have h3 := heap_setCell_same _ b 3 _ _ y3 h2
  rw [h3]; simp
theorem below_set4 {B : Nat} {a w : World} {b : Nat} (h : Below B a w) (hb : B ≤ b) (y0 y1 y2 y3 : Value) :
    Below B a ((((w.setCell ⟨b, 0, none⟩ y0).setCell ⟨b, 1, none⟩ y1).setCell ⟨b, 2, none⟩ y2).setCell ⟨b, 3, none⟩ y3) :=
  (((h.setCell (p := ⟨b, 0, none⟩) hb _).setCell (p := ⟨b, 1, none⟩) hb _).setCell (p := ⟨b, 2, none⟩) hb _).setCell (p := ⟨b, 3, none⟩) hb _
theorem cell_set4 {w : World} {b : Nat} {p : Addr} (hp : p.block ≠ b) (y0 y1 y2 y3 : Value) :
    ((((w.setCell ⟨b, 0, none⟩ y0).setCell ⟨b, 1, none⟩ y1).setCell ⟨b, 2, none⟩ y2).setCell ⟨b, 3, none⟩ y3).cell? p = w.cell? p :=
  World.cell?_of_block (by rw [heap_setCell_other _ _ _ _ hp, heap_setCell_other _ _ _ _ hp, heap_setCell_other _ _ _ _ hp, heap_setCell_other _ _ _ _ hp])

theorem row_four {w : World} {b : Nat} {x0 x1 x2 x3 : Value} {ty : TypeId} (h : w.heap[b]? = some (.cells #[x0, x1, x2, x3] ty (0, 0))) :
    w.cell? ⟨b, 0, none⟩ = some x0 ∧ w.cell? ⟨b, 1, none⟩ = some x1 ∧ w.cell? ⟨b, 2, none⟩ = some x2 ∧ w.cell? ⟨b, 3, none⟩ = some x3 ∧ w.frozen? ⟨b, 0, none⟩ = false ∧ w.frozen? ⟨b, 1, none⟩ = false ∧ w.frozen? ⟨b, 2, none⟩ = false ∧ w.frozen? ⟨b, 3, none⟩ = false := by
  refine ⟨?_, ?_, ?_, ?_, frozen_of_row _ _ 0 _ _ h, frozen_of_row _ _ 1 _ _ h, frozen_of_row _ _ 2 _ _ h, frozen_of_row _ _ 3 _ _ h⟩ <;> (rw [cell_of_row _ _ _ _ _ _ h]; rfl)

set_option maxHeartbeats 8000000 in
set_option maxRecDepth 100000 in
/-- an entry is read -/
theorem hearS (s : ByteArray) (w : World) (hs : s.size ≤ 100000) :
    Calls Tryd.prog 37 #[.string s] w fun e w' => e = .returned (enV (hearL s.data.toList)) ∧ Below w.heap.size w w' := by
  obtain ⟨W0, hW0⟩ : ∃ W, W = w.alloc (.cells #[.string ⟨#[]⟩, .int .i64 0, .bool false, .int .i64 0] 43) := ⟨_, rfl⟩
  have HB0 := Lib.hid (show Below w.heap.size w W0 by rw [hW0]; exact (Below.refl _ _).alloc (Nat.le_refl _) _)
  have HX0 := Lib.hid (show W0.heap[w.heap.size]? = some (.cells #[.string ⟨#[]⟩, .int .i64 0, .bool false, .int .i64 0] 43 (0, 0)) by rw [hW0]; exact heap_alloc_new _ _)
  have hR0 : w.heap.size < W0.heap.size := by rw [hW0]; simp
  have HW0 := Lib.hid hW0
  have HS1 := Lib.hid (show ∀ W, Calls Tryd.prog 36 #[.string s, .int .u8 45] W fun e w' => ∃ v, e = .returned v ∧ Own w' W.heap.size v ((splitL 45 s.data.toList).map ofL) ∧ Below W.heap.size W w' from fun W => splitS s 45 W hs)
  clear hW0
  go_enter Tryd.func37, Tryd.ntmps37
  go_wp2_with fail
  rw [← HW0.out]
  go_at_call 36
  refine Calls.mono (HS1.out _) ?_
  rintro e w1 ⟨v1, rfl, ho1, hb1⟩
  obtain ⟨A1, c1, rfl, hc1, hm1, hst1⟩ := ho1.parts
  have hlt1 := World.ownsRow.lt ho1
  have HB1 := Lib.hid hb1
  have hsz1 := hb1.size
  have HX1 := Lib.hid ((hb1.block _ hR0).trans HX0.out)
  have hR1 : w.heap.size < w1.heap.size := by omega
  have hlm : ((splitL 45 s.data.toList).map ofL).length = (splitL 45 s.data.toList).length := by simp
  rw [hlm] at hc1 hst1 ⊢
  by_cases h2 : (splitL 45 s.data.toList).length = 2
  case neg =>
    have HH := Lib.hid (hear_none h2)
    have h2i : ¬ ((splitL 45 s.data.toList).length : Int) = 2 := by omega
    clear ho1 hb1 hlm HS1 hst1
    obtain ⟨x0, x1, x2, x3, f0, f1, f2, f3⟩ := row_four HX1.out
    go_wp2
    refine bodyPost_ret (v := .agg #[.string ⟨#[]⟩, .int .i64 0, .bool false, .int .i64 0]) ?_ rfl ⟨by rw [HH.out]; rfl, ?_⟩
    · exact results_cell_row rfl _ _ w.heap.size 43 #[.string ⟨#[]⟩, .int .i64 0, .bool false, .int .i64 0] (0, 0) _ rfl (row_set4 HX1.out) Tryd.underlying43 rfl entry_size
    · exact below_set4 (HB0.out.trans (HB1.out.mono HB0.out.size)) (Nat.le_refl _) _ _ _ _
  obtain ⟨a, b, hab⟩ := list_two h2
  have hal : a.length ≤ s.size := by have := split_mem (c := 45) (l := s.data.toList) (x := a) (by rw [hab]; simp); rwa [len_l] at this
  have hbl : b.length ≤ s.size := by have := split_mem (c := 45) (l := s.data.toList) (x := b) (by rw [hab]; simp); rwa [len_l] at this
  rw [h2] at hst1 hc1 ⊢
  rw [hab] at hst1
  obtain ⟨g1, o1, hA1, hg1, q0, q1⟩ := strs_two hst1
  subst hA1
  have HS2 := Lib.hid (show ∀ W, Calls Tryd.prog 36 #[.string (ofL a), .int .u8 61] W fun e w' => ∃ v, e = .returned v ∧ Own w' W.heap.size v ((splitL 61 a).map ofL) ∧ Below W.heap.size W w' from fun W => by have := splitS (ofL a) 61 W (by rw [ofL_size]; omega); rwa [ofL_data] at this)
  have HNB := Lib.hid (show ∀ W, Calls Tryd.prog 57 #[.string (ofL b)] W fun e w' => e = .returned (.int .i64 ((numL 0 b : Nat) : Int)) ∧ W = w' from fun W => by have := numS (ofL b) W (by rw [ofL_size]; omega); rwa [ofL_data] at this)
  have HAB := Lib.hid hab
  obtain ⟨SA, hSA⟩ : ∃ S, S = ofL a := ⟨_, rfl⟩
  obtain ⟨SB, hSB⟩ : ∃ S, S = ofL b := ⟨_, rfl⟩
  obtain ⟨NB, hNB⟩ : ∃ N : Int, N = ((numL 0 b : Nat) : Int) := ⟨_, rfl⟩
  rw [← hSA] at q0 HS2
  rw [← hSB] at q1 HNB
  rw [← hNB] at HNB
  have HSA := Lib.hid hSA
  have HNBE := Lib.hid hNB
  have HQ1 := Lib.hid q1
  clear ho1 hb1 hlm HS1 hst1 h2 hab hSA hSB hNB
  go_wp2_with fail
  go_at_call 36
  refine Calls.mono (HS2.out _) ?_
  rintro e w2 ⟨v2, rfl, ho2, hb2⟩
  obtain ⟨A2, c2, rfl, hc2, hm2, hst2⟩ := ho2.parts
  have hgB2 : ∀ k, (Value.slice A2 ((splitL 61 a).map ofL).length c2).ownBlock = some k → w1.heap.size ≤ k ∧ k < w2.heap.size := fun k hk => World.ownsRow.lt ho2 k hk
  have HB2 := Lib.hid hb2
  have hsz2 := hb2.size
  have HX2 := Lib.hid ((hb2.block _ hR1).trans HX1.out)
  have p1 : w2.cell? ⟨g1, o1 + 1, none⟩ = some (.string SB) := (hb2.cell (p := ⟨g1, o1 + 1, none⟩) hg1).trans HQ1.out
  have HBA := Lib.hid ((HB0.out.trans (HB1.out.mono HB0.out.size)).trans (hb2.mono (HB0.out.trans (HB1.out.mono HB0.out.size)).size))
  have hlm : ((splitL 61 a).map ofL).length = (splitL 61 a).length := by simp
  rw [hlm] at hc2 hst2 ⊢
  have hg1R : g1 ≠ w.heap.size := by have := (hlt1 g1 rfl).1; omega
  by_cases h2 : (splitL 61 a).length = 2
  · obtain ⟨k, v, hkv⟩ := list_two h2
    have hvl : v.length ≤ s.size := by have := split_mem (c := 61) (l := a) (x := v) (by rw [hkv]; simp); omega
    rw [h2] at hst2 hc2 ⊢
    rw [hkv] at hst2
    obtain ⟨g2, o2, hA2, hg2, k0, k1⟩ := strs_two hst2
    subst hA2
    have hg2R : g2 ≠ w.heap.size := by have := (hgB2 g2 rfl).1; omega
    have HNV := Lib.hid (show ∀ W, Calls Tryd.prog 57 #[.string (ofL v)] W fun e w' => e = .returned (.int .i64 ((numL 0 v : Nat) : Int)) ∧ W = w' from fun W => by have := numS (ofL v) W (by rw [ofL_size]; omega); rwa [ofL_data] at this)
    have HH := Lib.hid (hear_there HAB.out hkv)
    obtain ⟨SK, hSK⟩ : ∃ S, S = ofL k := ⟨_, rfl⟩
    obtain ⟨SV, hSV⟩ : ∃ S, S = ofL v := ⟨_, rfl⟩
    obtain ⟨NV, hNV⟩ : ∃ N : Int, N = ((numL 0 v : Nat) : Int) := ⟨_, rfl⟩
    rw [← hSK, ← hNV, ← HNBE.out] at HH
    rw [← hSV] at HNV k1
    rw [← hSK] at k0
    rw [← hNV] at HNV
    obtain ⟨x0, x1, x2, x3, f0, f1, f2, f3⟩ := row_four HX2.out
    clear ho2 hb2 hlm HS2 hst2 h2 hkv hSK hSV hNV q0 q1 hlt1 hgB2
    go_upto_region 6 with fail
    refine wp_region_held_drew (S := (fun W : World => W.cell? ⟨g2, o2, none⟩ = some (.string SK) ∧ W.cell? ⟨g2, o2 + 1, none⟩ = some (.string SV) ∧ W.cell? ⟨g1, o1 + 1, none⟩ = some (.string SB))) (by kernel_rfl) (⟨k0, k1, p1⟩) (fun hHeld => ?_)
    refine wpAnyH_take (i := 0) (oi := { dst := Option.some 18, op := Go.Op.move (Go.Operand.tmp 4), type := 56, pos := "l21_block.go:80", after := #[], guard := Option.none }) (v := ?v1) rfl (by kernel_rfl) (by kernel_rfl) (by kernel_rfl) (fun _ _ _ h => h) (Or.inl ⟨by rfl, ?hy1⟩) (by assumption) ?rest1
    case hy1 =>
      intro w9 hSw
      clear hSw
      go_simp
      first | done | with_reducible rfl
    (try simp only [Act.put]); (try simp only [List.setIfInBounds_toArray]); (try simp only [List.set_cons_succ]); (try simp only [List.set_cons_zero])
    refine wpAnyH_take (i := 1) (oi := { dst := Option.some 19, op := Go.Op.indexAddr 56 (Go.Operand.tmp 18) (Go.Operand.const (Go.Value.int Go.IntKind.i64 0)), type := 0, pos := "l21_block.go:80", after := #[{ on := 0, ground := Go.Ground.data }], guard := Option.none }) (v := ?v2) rfl (by kernel_rfl) (by kernel_rfl) (by kernel_rfl) (fun _ _ _ h => h) (Or.inl ⟨by rfl, ?hy2⟩) (by assumption) ?rest2
    case hy2 =>
      intro w9 hSw
      clear hSw
      go_simp
      first | done | with_reducible rfl
    (try simp only [Act.put]); (try simp only [List.setIfInBounds_toArray]); (try simp only [List.set_cons_succ]); (try simp only [List.set_cons_zero])
    refine wpAnyH_take (i := 2) (oi := { dst := Option.some 20, op := Go.Op.load 9 (Go.Operand.tmp 19), type := 9, pos := "l21_block.go:80", after := #[{ on := 1, ground := Go.Ground.data }], guard := Option.none }) (v := ?v3) rfl (by kernel_rfl) (by kernel_rfl) (by kernel_rfl) (fun _ _ _ h => h) (Or.inl ⟨by rfl, ?hy3⟩) (by assumption) ?rest3
    case hy3 =>
      intro w9 hSw
      obtain ⟨r0, r1, r2⟩ := hSw
      go_simp
      first | done | with_reducible rfl
    (try simp only [Act.put]); (try simp only [List.setIfInBounds_toArray]); (try simp only [List.set_cons_succ]); (try simp only [List.set_cons_zero])
    refine wpAnyH_take (i := 3) (oi := { dst := Option.some 21, op := Go.Op.move (Go.Operand.tmp 4), type := 56, pos := "l21_block.go:80", after := #[], guard := Option.none }) (v := ?v4) rfl (by kernel_rfl) (by kernel_rfl) (by kernel_rfl) (fun _ _ _ h => h) (Or.inl ⟨by rfl, ?hy4⟩) (by assumption) ?rest4
    case hy4 =>
      intro w9 hSw
      clear hSw
      go_simp
      first | done | with_reducible rfl
    (try simp only [Act.put]); (try simp only [List.setIfInBounds_toArray]); (try simp only [List.set_cons_succ]); (try simp only [List.set_cons_zero])
    refine wpAnyH_take (i := 4) (oi := { dst := Option.some 22, op := Go.Op.indexAddr 56 (Go.Operand.tmp 21) (Go.Operand.const (Go.Value.int Go.IntKind.i64 1)), type := 0, pos := "l21_block.go:80", after := #[{ on := 3, ground := Go.Ground.data }], guard := Option.none }) (v := ?v5) rfl (by kernel_rfl) (by kernel_rfl) (by kernel_rfl) (fun _ _ _ h => h) (Or.inl ⟨by rfl, ?hy5⟩) (by assumption) ?rest5
    case hy5 =>
      intro w9 hSw
      clear hSw
      go_simp
      first | done | with_reducible rfl
    (try simp only [Act.put]); (try simp only [List.setIfInBounds_toArray]); (try simp only [List.set_cons_succ]); (try simp only [List.set_cons_zero])
    refine wpAnyH_take (i := 5) (oi := { dst := Option.some 23, op := Go.Op.load 9 (Go.Operand.tmp 22), type := 9, pos := "l21_block.go:80", after := #[{ on := 4, ground := Go.Ground.data }], guard := Option.none }) (v := ?v6) rfl (by kernel_rfl) (by kernel_rfl) (by kernel_rfl) (fun _ _ _ h => h) (Or.inl ⟨by rfl, ?hy6⟩) (by assumption) ?rest6
    case hy6 =>
      intro w9 hSw
      obtain ⟨r0, r1, r2⟩ := hSw
      go_simp
      first | done | with_reducible rfl
    (try simp only [Act.put]); (try simp only [List.setIfInBounds_toArray]); (try simp only [List.set_cons_succ]); (try simp only [List.set_cons_zero])
    refine wpAnyH_take (i := 7) (oi := { dst := Option.some 25, op := Go.Op.move (Go.Operand.tmp 3), type := 56, pos := "l21_block.go:80", after := #[], guard := Option.none }) (v := ?v7) rfl (by kernel_rfl) (by kernel_rfl) (by kernel_rfl) (fun _ _ _ h => h) (Or.inl ⟨by rfl, ?hy7⟩) (by assumption) ?rest7
    case hy7 =>
      intro w9 hSw
      clear hSw
      go_simp
      first | done | with_reducible rfl
    (try simp only [Act.put]); (try simp only [List.setIfInBounds_toArray]); (try simp only [List.set_cons_succ]); (try simp only [List.set_cons_zero])
    refine wpAnyH_take (i := 8) (oi := { dst := Option.some 26, op := Go.Op.indexAddr 56 (Go.Operand.tmp 25) (Go.Operand.const (Go.Value.int Go.IntKind.i64 1)), type := 0, pos := "l21_block.go:80", after := #[{ on := 7, ground := Go.Ground.data }], guard := Option.none }) (v := ?v8) rfl (by kernel_rfl) (by kernel_rfl) (by kernel_rfl) (fun _ _ _ h => h) (Or.inl ⟨by rfl, ?hy8⟩) (by assumption) ?rest8
    case hy8 =>
      intro w9 hSw
      clear hSw
      go_simp
      first | done | with_reducible rfl
    (try simp only [Act.put]); (try simp only [List.setIfInBounds_toArray]); (try simp only [List.set_cons_succ]); (try simp only [List.set_cons_zero])
    refine wpAnyH_take (i := 9) (oi := { dst := Option.some 27, op := Go.Op.load 9 (Go.Operand.tmp 26), type := 9, pos := "l21_block.go:80", after := #[{ on := 8, ground := Go.Ground.data }], guard := Option.none }) (v := ?v9) rfl (by kernel_rfl) (by kernel_rfl) (by kernel_rfl) (fun _ _ _ h => h) (Or.inl ⟨by rfl, ?hy9⟩) (by assumption) ?rest9
    case hy9 =>
      intro w9 hSw
      obtain ⟨r0, r1, r2⟩ := hSw
      go_simp
      first | done | with_reducible rfl
    (try simp only [Act.put]); (try simp only [List.setIfInBounds_toArray]); (try simp only [List.set_cons_succ]); (try simp only [List.set_cons_zero])
    refine wpAnyH_ready (rs := [6]) (by kernel_rfl) (by simp) ?_
    refine AllReadyH.cons (o := { dst := Option.some 24, op := Go.Op.call { callee := Go.Callee.value (Go.Operand.func 57), args := #[Go.Operand.tmp 23], argTypes := #[9] }, type := 3, pos := "l21_block.go:80", after := #[{ on := 5, ground := Go.Ground.data }], guard := Option.none }) rfl (fun K hK => ?_) AllReadyH.nil
    go_simp
    (go_at_call 57; refine Calls.mono (HNV.out _) ?_; rintro e w9 ⟨rfl, rfl⟩)
    (try go_wp2_with fail)
    refine hK.out _ _ (⟨k0, k1, p1⟩) (fun hHeld => ?_)
    clear hK K
    (try simp only [Act.put]); (try simp only [List.setIfInBounds_toArray]); (try simp only [List.set_cons_succ]); (try simp only [List.set_cons_zero])
    refine wpAnyH_ready (rs := [10]) (by kernel_rfl) (by simp) ?_
    refine AllReadyH.cons (o := { dst := Option.some 28, op := Go.Op.call { callee := Go.Callee.value (Go.Operand.func 57), args := #[Go.Operand.tmp 27], argTypes := #[9] }, type := 3, pos := "l21_block.go:80", after := #[{ on := 9, ground := Go.Ground.data }, { on := 6, ground := Go.Ground.chain }], guard := Option.none }) rfl (fun K hK => ?_) AllReadyH.nil
    go_simp
    (go_at_call 57; refine Calls.mono (HNB.out _) ?_; rintro e w9 ⟨rfl, rfl⟩)
    (try go_wp2_with fail)
    refine hK.out _ _ (⟨k0, k1, p1⟩) (fun hHeld => ?_)
    clear hK K
    (try simp only [Act.put]); (try simp only [List.setIfInBounds_toArray]); (try simp only [List.set_cons_succ]); (try simp only [List.set_cons_zero])
    refine wpAnyH_take (i := 11) (oi := { dst := Option.some 29, op := Go.Op.build 43 #[(0, Go.Operand.tmp 20), (1, Go.Operand.tmp 24), (3, Go.Operand.tmp 28)], type := 43, pos := "l21_block.go:80", after := #[{ on := 2, ground := Go.Ground.data }, { on := 6, ground := Go.Ground.data }, { on := 10, ground := Go.Ground.data }], guard := Option.none }) (v := ?v10) rfl (by kernel_rfl) (by kernel_rfl) (by kernel_rfl) (fun _ _ _ h => h) (Or.inl ⟨by rfl, ?hy10⟩) (by assumption) ?rest10
    case hy10 =>
      intro w9 hSw
      clear hSw
      go_simp
      first | done | with_reducible rfl
    (try simp only [Act.put]); (try simp only [List.setIfInBounds_toArray]); (try simp only [List.set_cons_succ]); (try simp only [List.set_cons_zero])
    refine wpAnyH_ready (rs := [12]) (by kernel_rfl) (by simp) ?_
    refine AllReadyH.cons (o := { dst := Option.none, op := Go.Op.store 43 (Go.Operand.tmp 2) (Go.Operand.tmp 29), type := 0, pos := "l21_block.go:80", after := #[{ on := 11, ground := Go.Ground.data }, { on := 10, ground := Go.Ground.chain }, { on := 0, ground := Go.Ground.phase }, { on := 1, ground := Go.Ground.phase }, { on := 2, ground := Go.Ground.phase }, { on := 3, ground := Go.Ground.phase }, { on := 4, ground := Go.Ground.phase }, { on := 5, ground := Go.Ground.phase }, { on := 6, ground := Go.Ground.phase }, { on := 7, ground := Go.Ground.phase }, { on := 8, ground := Go.Ground.phase }, { on := 9, ground := Go.Ground.phase }, { on := 10, ground := Go.Ground.phase }, { on := 11, ground := Go.Ground.phase }], guard := Option.none }) rfl (fun K hK => ?_) AllReadyH.nil
    go_simp
    refine hK.out _ _ (⟨(cell_set4 hg2R _ _ _ _).trans k0, (cell_set4 hg2R _ _ _ _).trans k1, (cell_set4 hg1R _ _ _ _).trans p1⟩) (fun hHeld => ?_)
    clear hK K
    (try simp only [Act.put]); (try simp only [List.setIfInBounds_toArray]); (try simp only [List.set_cons_succ]); (try simp only [List.set_cons_zero])
    refine wpAnyH_done (by kernel_rfl) ?_ _
    go_wp2
    refine bodyPost_ret (v := .agg #[.string SK, .int .i64 NV, .bool false, .int .i64 NB]) ?_ rfl ⟨by rw [HH.out]; rfl, ?_⟩
    · exact results_cell_row rfl _ _ w.heap.size 43 #[.string SK, .int .i64 NV, .bool false, .int .i64 NB] (0, 0) _ rfl (row_set4 HX2.out) Tryd.underlying43 rfl entry_size
    · exact bel2 (below_set4 HBA.out (Nat.le_refl _) _ _ _ _) (by rfl) (by rfl) (by rfl) (by rfl)
  · have HH := Lib.hid (hear_gone HAB.out h2)
    have h2i : ¬ ((splitL 61 a).length : Int) = 2 := by omega
    rw [← HSA.out, ← HNBE.out] at HH
    obtain ⟨x0, x1, x2, x3, f0, f1, f2, f3⟩ := row_four HX2.out
    have k0 : w2.cell? ⟨g1, o1, none⟩ = some (.string SA) := (hb2.cell (p := ⟨g1, o1, none⟩) hg1).trans q0
    clear ho2 hb2 hlm HS2 hst2 q0 q1 hlt1 hgB2
    go_upto_region 7 with fail
    refine wp_region_held_drew (S := (fun W : World => W.cell? ⟨g1, o1, none⟩ = some (.string SA) ∧ W.cell? ⟨g1, o1 + 1, none⟩ = some (.string SB))) (by kernel_rfl) (⟨k0, p1⟩) (fun hHeld => ?_)
    refine wpAnyH_take (i := 0) (oi := { dst := Option.some 30, op := Go.Op.move (Go.Operand.tmp 3), type := 56, pos := "l21_block.go:82", after := #[], guard := Option.none }) (v := ?v11) rfl (by kernel_rfl) (by kernel_rfl) (by kernel_rfl) (fun _ _ _ h => h) (Or.inl ⟨by rfl, ?hy11⟩) (by assumption) ?rest11
    case hy11 =>
      intro w9 hSw
      clear hSw
      go_simp
      first | done | with_reducible rfl
    (try simp only [Act.put]); (try simp only [List.setIfInBounds_toArray]); (try simp only [List.set_cons_succ]); (try simp only [List.set_cons_zero])
    refine wpAnyH_take (i := 1) (oi := { dst := Option.some 31, op := Go.Op.indexAddr 56 (Go.Operand.tmp 30) (Go.Operand.const (Go.Value.int Go.IntKind.i64 0)), type := 0, pos := "l21_block.go:82", after := #[{ on := 0, ground := Go.Ground.data }], guard := Option.none }) (v := ?v12) rfl (by kernel_rfl) (by kernel_rfl) (by kernel_rfl) (fun _ _ _ h => h) (Or.inl ⟨by rfl, ?hy12⟩) (by assumption) ?rest12
    case hy12 =>
      intro w9 hSw
      clear hSw
      go_simp
      first | done | with_reducible rfl
    (try simp only [Act.put]); (try simp only [List.setIfInBounds_toArray]); (try simp only [List.set_cons_succ]); (try simp only [List.set_cons_zero])
    refine wpAnyH_take (i := 2) (oi := { dst := Option.some 32, op := Go.Op.load 9 (Go.Operand.tmp 31), type := 9, pos := "l21_block.go:82", after := #[{ on := 1, ground := Go.Ground.data }], guard := Option.none }) (v := ?v13) rfl (by kernel_rfl) (by kernel_rfl) (by kernel_rfl) (fun _ _ _ h => h) (Or.inl ⟨by rfl, ?hy13⟩) (by assumption) ?rest13
    case hy13 =>
      intro w9 hSw
      obtain ⟨r0, r1⟩ := hSw
      go_simp
      first | done | with_reducible rfl
    (try simp only [Act.put]); (try simp only [List.setIfInBounds_toArray]); (try simp only [List.set_cons_succ]); (try simp only [List.set_cons_zero])
    refine wpAnyH_take (i := 3) (oi := { dst := Option.some 33, op := Go.Op.move (Go.Operand.tmp 3), type := 56, pos := "l21_block.go:82", after := #[], guard := Option.none }) (v := ?v14) rfl (by kernel_rfl) (by kernel_rfl) (by kernel_rfl) (fun _ _ _ h => h) (Or.inl ⟨by rfl, ?hy14⟩) (by assumption) ?rest14
    case hy14 =>
      intro w9 hSw
      clear hSw
      go_simp
      first | done | with_reducible rfl
    (try simp only [Act.put]); (try simp only [List.setIfInBounds_toArray]); (try simp only [List.set_cons_succ]); (try simp only [List.set_cons_zero])
    refine wpAnyH_take (i := 4) (oi := { dst := Option.some 34, op := Go.Op.indexAddr 56 (Go.Operand.tmp 33) (Go.Operand.const (Go.Value.int Go.IntKind.i64 1)), type := 0, pos := "l21_block.go:82", after := #[{ on := 3, ground := Go.Ground.data }], guard := Option.none }) (v := ?v15) rfl (by kernel_rfl) (by kernel_rfl) (by kernel_rfl) (fun _ _ _ h => h) (Or.inl ⟨by rfl, ?hy15⟩) (by assumption) ?rest15
    case hy15 =>
      intro w9 hSw
      clear hSw
      go_simp
      first | done | with_reducible rfl
    (try simp only [Act.put]); (try simp only [List.setIfInBounds_toArray]); (try simp only [List.set_cons_succ]); (try simp only [List.set_cons_zero])
    refine wpAnyH_take (i := 5) (oi := { dst := Option.some 35, op := Go.Op.load 9 (Go.Operand.tmp 34), type := 9, pos := "l21_block.go:82", after := #[{ on := 4, ground := Go.Ground.data }], guard := Option.none }) (v := ?v16) rfl (by kernel_rfl) (by kernel_rfl) (by kernel_rfl) (fun _ _ _ h => h) (Or.inl ⟨by rfl, ?hy16⟩) (by assumption) ?rest16
    case hy16 =>
      intro w9 hSw
      obtain ⟨r0, r1⟩ := hSw
      go_simp
      first | done | with_reducible rfl
    (try simp only [Act.put]); (try simp only [List.setIfInBounds_toArray]); (try simp only [List.set_cons_succ]); (try simp only [List.set_cons_zero])
    refine wpAnyH_ready (rs := [6]) (by kernel_rfl) (by simp) ?_
    refine AllReadyH.cons (o := { dst := Option.some 36, op := Go.Op.call { callee := Go.Callee.value (Go.Operand.func 57), args := #[Go.Operand.tmp 35], argTypes := #[9] }, type := 3, pos := "l21_block.go:82", after := #[{ on := 5, ground := Go.Ground.data }], guard := Option.none }) rfl (fun K hK => ?_) AllReadyH.nil
    go_simp
    (go_at_call 57; refine Calls.mono (HNB.out _) ?_; rintro e w9 ⟨rfl, rfl⟩)
    (try go_wp2_with fail)
    refine hK.out _ _ (⟨k0, p1⟩) (fun hHeld => ?_)
    clear hK K
    (try simp only [Act.put]); (try simp only [List.setIfInBounds_toArray]); (try simp only [List.set_cons_succ]); (try simp only [List.set_cons_zero])
    refine wpAnyH_take (i := 7) (oi := { dst := Option.some 37, op := Go.Op.build 43 #[(0, Go.Operand.tmp 32), (2, Go.Operand.const (Go.Value.bool Bool.true)), (3, Go.Operand.tmp 36)], type := 43, pos := "l21_block.go:82", after := #[{ on := 2, ground := Go.Ground.data }, { on := 6, ground := Go.Ground.data }], guard := Option.none }) (v := ?v17) rfl (by kernel_rfl) (by kernel_rfl) (by kernel_rfl) (fun _ _ _ h => h) (Or.inl ⟨by rfl, ?hy17⟩) (by assumption) ?rest17
    case hy17 =>
      intro w9 hSw
      clear hSw
      go_simp
      first | done | with_reducible rfl
    (try simp only [Act.put]); (try simp only [List.setIfInBounds_toArray]); (try simp only [List.set_cons_succ]); (try simp only [List.set_cons_zero])
    refine wpAnyH_ready (rs := [8]) (by kernel_rfl) (by simp) ?_
    refine AllReadyH.cons (o := { dst := Option.none, op := Go.Op.store 43 (Go.Operand.tmp 2) (Go.Operand.tmp 37), type := 0, pos := "l21_block.go:82", after := #[{ on := 7, ground := Go.Ground.data }, { on := 6, ground := Go.Ground.chain }, { on := 0, ground := Go.Ground.phase }, { on := 1, ground := Go.Ground.phase }, { on := 2, ground := Go.Ground.phase }, { on := 3, ground := Go.Ground.phase }, { on := 4, ground := Go.Ground.phase }, { on := 5, ground := Go.Ground.phase }, { on := 6, ground := Go.Ground.phase }, { on := 7, ground := Go.Ground.phase }], guard := Option.none }) rfl (fun K hK => ?_) AllReadyH.nil
    go_simp
    refine hK.out _ _ (⟨(cell_set4 hg1R _ _ _ _).trans k0, (cell_set4 hg1R _ _ _ _).trans p1⟩) (fun hHeld => ?_)
    clear hK K
    (try simp only [Act.put]); (try simp only [List.setIfInBounds_toArray]); (try simp only [List.set_cons_succ]); (try simp only [List.set_cons_zero])
    refine wpAnyH_done (by kernel_rfl) ?_ _
    go_wp2
    refine bodyPost_ret (v := .agg #[.string SA, .int .i64 0, .bool true, .int .i64 NB]) ?_ rfl ⟨by rw [HH.out]; rfl, ?_⟩
    · exact results_cell_row rfl _ _ w.heap.size 43 #[.string SA, .int .i64 0, .bool true, .int .i64 NB] (0, 0) _ rfl (row_set4 HX2.out) Tryd.underlying43 rfl entry_size
    · exact bel2 (below_set4 HBA.out (Nat.le_refl _) _ _ _ _) (by rfl) (by rfl) (by rfl) (by rfl)

end Go.Proofs.YtbckgmfopbpocaaDoor.W
