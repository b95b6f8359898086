/-
  Two runs as one, as the model joins them.
-/
import Derived.Test.YtbckgmfopbpocaaEI
import Derived.Test.YtbckgmfopbpocaaE2
namespace Go.Proofs.Ytbckgmfopbpocaa.W
open Go.RowKit K R

theorem emptyE (w : World) : OwnE (w.alloc (.cells #[] 38)) w.heap.size (.slice (some ⟨w.heap.size, 0, none⟩) 0 0) [] := World.ownsRow_made w #[] 0 (Nat.le_refl _) (by unfold maxLen; omega) rfl
/-- the rest of a slice of entries, as the model lays it -/
theorem Ents.drop {w : World} {B n c : Nat} {A : Option Addr} {l : List En} (h : Ents w B A n l) (hc : n ≤ c) {k : Nat} (hk : k ≤ n) :
    Ents w B (if c = k then A else A.map (·.add (k * 4))) (n - k) (l.drop k) :=
  ⟨by rw [List.length_drop, h.len], fun i hi => by
    rw [List.length_drop] at hi
    obtain ⟨b, off, hA, hb, c0, c1, c2, c3⟩ := h.cell (k + i) (by omega)
    have hlen := h.len
    have e : off + (k + i) * 4 = off + k * 4 + i * 4 := by omega
    rw [e] at c0 c1 c2 c3
    rw [if_neg (by omega), hA]
    refine ⟨b, off + k * 4, ?_, hb, ?_⟩
    · simp only [Option.map_some]
      unfold Addr.add
      split
      · rename_i h0; rw [h0]; rfl
      · rfl
    · rw [List.getElem_drop]; exact ⟨c0, c1, c2, c3⟩⟩
/-- a step of the loop: what was taken, and what is left -/
structure Part (w : World) (la lb : List En) (k i : Nat) (v : Value) (out : List En) (wr : World) : Prop where
  hi : i ≤ la.length
  own : OwnE wr w.heap.size v out
  eq : out ++ joinL (la.drop i) (lb.drop k) = joinL la lb
  len : out.length = i + k
  below : Below w.heap.size w wr

set_option maxHeartbeats 8000000 in
set_option maxRecDepth 100000 in
theorem joinS (w : World) (B na ca nb cb : Nat) (A1 A2 : Option Addr) (la lb : List En) (hr : Ents w B A1 na la) (hr2 : Ents w B A2 nb lb) (hB : B ≤ w.heap.size) (hca : na ≤ ca) (hn : na ≤ 400000) (hn2 : nb ≤ 400000) :
    Calls Try.prog 16 #[.slice A1 na ca, .slice A2 nb cb] w fun e w' => ∃ v, e = .returned v ∧ OwnE w' w.heap.size v (joinL la lb) ∧ Below w.heap.size w w' := by
  have hlen := hr.len
  subst hlen
  have hlen := hr2.len
  subst hlen
  have HR := Lib.hid hr
  have HR2 := Lib.hid hr2
  clear hr hr2
  go_enter Try.func16, Try.ntmps16
  go_wp2_with fail
  go_loopw [5, 6, 7] (fun s iv kv wr => ∃ (k i : Nat) (v : Value) (out : List En), k ≤ lb.length ∧ kv = .int .i64 (k : Nat) ∧ iv = .int .i64 (i : Nat) ∧ s = v ∧ Part w la lb k i v out wr) (fun _ _ kv _ => lb.length - (intOf kv).toNat)
  case atStart => exact ⟨0, 0, _, [], Nat.zero_le _, rfl, rfl, rfl, ⟨Nat.zero_le _, emptyE w, rfl, rfl, (Below.refl _ _).alloc (Nat.le_refl _) _⟩⟩
  case round =>
    obtain ⟨k, i, s0, out, hk, rfl, rfl, hs0, hp⟩ := hrel
    have hs1 := hs0.symm
    clear hs0
    subst hs1
    have HP := Lib.hid hp
    clear hp
    by_cases hlt : k < lb.length
    · obtain ⟨yb, yo, hA2, hyb, d0, d1, d2, d3⟩ := HR2.out.cell k hlt
      subst hA2
      obtain ⟨y0, hy0⟩ : ∃ y, y = lb[k].key := ⟨_, rfl⟩
      obtain ⟨y1, hy1⟩ : ∃ y, y = lb[k].val := ⟨_, rfl⟩
      obtain ⟨y2, hy2⟩ : ∃ y, y = lb[k].gone := ⟨_, rfl⟩
      obtain ⟨y3, hy3⟩ : ∃ y, y = lb[k].time := ⟨_, rfl⟩
      rw [← hy0] at d0
      rw [← hy1] at d1
      rw [← hy2] at d2
      rw [← hy3] at d3
      have HY := Lib.hid (show lb[k] = ⟨y0, y1, y2, y3⟩ by rw [hy0, hy1, hy2, hy3])
      have HLB := Lib.hid (show lb.drop k = ⟨y0, y1, y2, y3⟩ :: lb.drop (k + 1) by rw [← HY.out]; exact List.drop_eq_getElem_cons hlt)
      have hyb' : yb < w.heap.size := Nat.lt_of_lt_of_le hyb hB
      have k0 : (0 : Int) ≤ (k : Int) := by omega
      have k1 : (k : Int) < (lb.length : Int) := by omega
      have HDY := Lib.hid (show ∀ W, Below w.heap.size w W → W.cell? ⟨yb, yo + k * 4, none⟩ = some (.string y0) ∧ W.cell? ⟨yb, yo + k * 4 + 1, none⟩ = some (.int .i64 y1) ∧ W.cell? ⟨yb, yo + k * 4 + 2, none⟩ = some (.bool y2) ∧ W.cell? ⟨yb, yo + k * 4 + 3, none⟩ = some (.int .i64 y3) from fun W hW => ⟨(hW.cell (p := ⟨yb, yo + k * 4, none⟩) hyb').trans d0, (hW.cell (p := ⟨yb, yo + k * 4 + 1, none⟩) hyb').trans d1, (hW.cell (p := ⟨yb, yo + k * 4 + 2, none⟩) hyb').trans d2, (hW.cell (p := ⟨yb, yo + k * 4 + 3, none⟩) hyb').trans d3⟩)
      clear hy0 hy1 hy2 hy3 d0 d1 d2 d3
      go_wp2_with fail
      go_loopw [5, 6] (fun s iv wr => ∃ (i : Nat) (v : Value) (out : List En), iv = .int .i64 (i : Nat) ∧ s = v ∧ Part w la lb k i v out wr) (fun _ iv _ => la.length - (intOf iv).toNat)
      case atStart => exact ⟨i, s0, out, rfl, rfl, HP.out⟩
      case round =>
        obtain ⟨i, s0, out, rfl, hs0, hp⟩ := hrel
        have hs1 := hs0.symm
        clear hs0
        subst hs1
        have HP2 := Lib.hid hp
        have hil := hp.hi
        have hol := hp.len
        clear hp HP
        by_cases hia : i < la.length
        · obtain ⟨xb, xo, hA1, hxb, c0, c1, c2, c3⟩ := HR.out.cell i hia
          subst hA1
          obtain ⟨x0, hx0⟩ : ∃ y, y = la[i].key := ⟨_, rfl⟩
          obtain ⟨x1, hx1⟩ : ∃ y, y = la[i].val := ⟨_, rfl⟩
          obtain ⟨x2, hx2⟩ : ∃ y, y = la[i].gone := ⟨_, rfl⟩
          obtain ⟨x3, hx3⟩ : ∃ y, y = la[i].time := ⟨_, rfl⟩
          rw [← hx0] at c0
          rw [← hx1] at c1
          rw [← hx2] at c2
          rw [← hx3] at c3
          have HX := Lib.hid (show la[i] = ⟨x0, x1, x2, x3⟩ by rw [hx0, hx1, hx2, hx3])
          have hxb' : xb < w.heap.size := Nat.lt_of_lt_of_le hxb hB
          have i0 : (0 : Int) ≤ (i : Int) := by omega
          have i1 : (i : Int) < (la.length : Int) := by omega
          have HSS := Lib.hid (show ∀ W, Below w.heap.size w W → (fun W : World => W.cell? ⟨xb, xo + i * 4, none⟩ = some (.string x0) ∧ W.cell? ⟨xb, xo + i * 4 + 1, none⟩ = some (.int .i64 x1) ∧ W.cell? ⟨xb, xo + i * 4 + 2, none⟩ = some (.bool x2) ∧ W.cell? ⟨xb, xo + i * 4 + 3, none⟩ = some (.int .i64 x3) ∧ W.cell? ⟨yb, yo + k * 4, none⟩ = some (.string y0) ∧ W.cell? ⟨yb, yo + k * 4 + 1, none⟩ = some (.int .i64 y1) ∧ W.cell? ⟨yb, yo + k * 4 + 2, none⟩ = some (.bool y2) ∧ W.cell? ⟨yb, yo + k * 4 + 3, none⟩ = some (.int .i64 y3)) W from fun W hW => ⟨(hW.cell (p := ⟨xb, xo + i * 4, none⟩) hxb').trans c0, (hW.cell (p := ⟨xb, xo + i * 4 + 1, none⟩) hxb').trans c1, (hW.cell (p := ⟨xb, xo + i * 4 + 2, none⟩) hxb').trans c2, (hW.cell (p := ⟨xb, xo + i * 4 + 3, none⟩) hxb').trans c3, HDY.out W hW⟩)
          obtain ⟨q, hq⟩ : ∃ q, R.ahead ⟨x0, x1, x2, x3⟩ ⟨y0, y1, y2, y3⟩ = q := ⟨_, rfl⟩
          have HAH := Lib.hid (show ∀ W : World, Below w.heap.size w W → OwnE W w.heap.size s0 out → Calls Try.prog 21 #[.agg #[.string x0, .int .i64 x1, .bool x2, .int .i64 x3], .agg #[.string y0, .int .i64 y1, .bool y2, .int .i64 y3]] W fun e w' => e = .returned (.bool q) ∧ Below w.heap.size w w' ∧ OwnE w' w.heap.size s0 out from fun W hW hO => by rw [← hq]; exact (aheadS x0 y0 x1 y1 x2 y2 x3 y3 W).mono fun _ _ ⟨he, hb⟩ => ⟨he, hW.trans (hb.mono hW.size), rowBelow hO hb⟩)
          have HQ := Lib.hid hq
          clear hq hx0 hx1 hx2 hx3 c0 c1 c2 c3
          cases q with
          | true =>
            have HJT := Lib.hid (show joinL (la.drop i) (lb.drop k) = ⟨x0, x1, x2, x3⟩ :: joinL (la.drop (i + 1)) (lb.drop k) by rw [HLB.out, join_take hia (by rw [HX.out]; exact HQ.out), HX.out])
            go_wp2_with fail
            refine wp_region_held_drew (S := (fun W : World => W.cell? ⟨xb, xo + i * 4, none⟩ = some (.string x0) ∧ W.cell? ⟨xb, xo + i * 4 + 1, none⟩ = some (.int .i64 x1) ∧ W.cell? ⟨xb, xo + i * 4 + 2, none⟩ = some (.bool x2) ∧ W.cell? ⟨xb, xo + i * 4 + 3, none⟩ = some (.int .i64 x3) ∧ W.cell? ⟨yb, yo + k * 4, none⟩ = some (.string y0) ∧ W.cell? ⟨yb, yo + k * 4 + 1, none⟩ = some (.int .i64 y1) ∧ W.cell? ⟨yb, yo + k * 4 + 2, none⟩ = some (.bool y2) ∧ W.cell? ⟨yb, yo + k * 4 + 3, none⟩ = some (.int .i64 y3))) (by kernel_rfl) (HSS.out _ (by first | exact HB9.out | exact bel2 HP2.out.below (by rfl) (by rfl) (by rfl) (by rfl))) (fun hHeld => ?_)
            refine wpAnyH_take (i := 0) (oi := { dst := Option.some 15, op := Go.Op.move (Go.Operand.tmp 6), type := 3, pos := "l11_run.go:48", after := #[], guard := Option.none }) (v := ?v1) rfl (by kernel_rfl) (by kernel_rfl) (by kernel_rfl) (fun _ _ _ h => h) (Or.inl ⟨by rfl, ?hy1⟩) (by assumption) ?rest1
            case hy1 =>
              intro w9 hSw
              clear hSw
              go_simp
              first | done | with_reducible rfl
            (try simp only [Act.put]); (try simp only [List.setIfInBounds_toArray]); (try simp only [List.set_cons_succ]); (try simp only [List.set_cons_zero])
            refine wpAnyH_take (i := 1) (oi := { dst := Option.some 16, op := Go.Op.move (Go.Operand.tmp 0), type := 30, pos := "l11_run.go:48", after := #[], guard := Option.none }) (v := ?v2) rfl (by kernel_rfl) (by kernel_rfl) (by kernel_rfl) (fun _ _ _ h => h) (Or.inl ⟨by rfl, ?hy2⟩) (by assumption) ?rest2
            case hy2 =>
              intro w9 hSw
              clear hSw
              go_simp
              first | done | with_reducible rfl
            (try simp only [Act.put]); (try simp only [List.setIfInBounds_toArray]); (try simp only [List.set_cons_succ]); (try simp only [List.set_cons_zero])
            refine wpAnyH_take (i := 2) (oi := { dst := Option.some 17, op := Go.Op.call { callee := Go.Callee.builtin Go.Builtin.len, args := #[Go.Operand.tmp 16], argTypes := #[30] }, type := 3, pos := "l11_run.go:48", after := #[{ on := 1, ground := Go.Ground.data }], guard := Option.none }) (v := ?v3) rfl (by kernel_rfl) (by kernel_rfl) (by kernel_rfl) (fun _ _ _ h => h) (Or.inl ⟨by rfl, ?hy3⟩) (by assumption) ?rest3
            case hy3 =>
              intro w9 hSw
              clear hSw
              go_simp
              first | done | with_reducible rfl
            (try simp only [Act.put]); (try simp only [List.setIfInBounds_toArray]); (try simp only [List.set_cons_succ]); (try simp only [List.set_cons_zero])
            refine wpAnyH_take (i := 3) (oi := { dst := Option.some 18, op := Go.Op.binOp Go.BinOp.lss 3 (Go.Operand.tmp 15) (Go.Operand.tmp 17) 3, type := 4, pos := "l11_run.go:48", after := #[{ on := 0, ground := Go.Ground.data }, { on := 2, ground := Go.Ground.data }], guard := Option.none }) (v := ?v4) rfl (by kernel_rfl) (by kernel_rfl) (by kernel_rfl) (fun _ _ _ h => h) (Or.inl ⟨by rfl, ?hy4⟩) (by assumption) ?rest4
            case hy4 =>
              intro w9 hSw
              clear hSw
              go_simp
              first | done | with_reducible rfl
            (try simp only [Act.put]); (try simp only [List.setIfInBounds_toArray]); (try simp only [List.set_cons_succ]); (try simp only [List.set_cons_zero])
            refine wpAnyH_take (i := 4) (oi := { dst := Option.some 19, op := Go.Op.move (Go.Operand.tmp 18), type := 4, pos := "l11_run.go:48", after := #[{ on := 3, ground := Go.Ground.data }], guard := Option.none }) (v := ?v5) rfl (by kernel_rfl) (by kernel_rfl) (by kernel_rfl) (fun _ _ _ h => h) (Or.inl ⟨by rfl, ?hy5⟩) (by assumption) ?rest5
            case hy5 =>
              intro w9 hSw
              clear hSw
              go_simp
              first | done | with_reducible rfl
            (try simp only [Act.put]); (try simp only [List.setIfInBounds_toArray]); (try simp only [List.set_cons_succ]); (try simp only [List.set_cons_zero])
            refine wpAnyH_take (i := 5) (oi := { dst := Option.some 20, op := Go.Op.move (Go.Operand.tmp 0), type := 30, pos := "l11_run.go:48", after := #[{ on := 4, ground := Go.Ground.guard }], guard := Option.some (4, Bool.true) }) (v := ?v6) rfl (by kernel_rfl) (by kernel_rfl) (by kernel_rfl) (fun _ _ _ h => h) (Or.inl ⟨by rfl, ?hy6⟩) (by assumption) ?rest6
            case hy6 =>
              intro w9 hSw
              clear hSw
              go_simp
              first | done | with_reducible rfl
            (try simp only [Act.put]); (try simp only [List.setIfInBounds_toArray]); (try simp only [List.set_cons_succ]); (try simp only [List.set_cons_zero])
            refine wpAnyH_take (i := 6) (oi := { dst := Option.some 21, op := Go.Op.move (Go.Operand.tmp 6), type := 3, pos := "l11_run.go:48", after := #[{ on := 4, ground := Go.Ground.guard }], guard := Option.some (4, Bool.true) }) (v := ?v7) rfl (by kernel_rfl) (by kernel_rfl) (by kernel_rfl) (fun _ _ _ h => h) (Or.inl ⟨by rfl, ?hy7⟩) (by assumption) ?rest7
            case hy7 =>
              intro w9 hSw
              clear hSw
              go_simp
              first | done | with_reducible rfl
            (try simp only [Act.put]); (try simp only [List.setIfInBounds_toArray]); (try simp only [List.set_cons_succ]); (try simp only [List.set_cons_zero])
            refine wpAnyH_take (i := 7) (oi := { dst := Option.some 22, op := Go.Op.indexAddr 30 (Go.Operand.tmp 20) (Go.Operand.tmp 21), type := 0, pos := "l11_run.go:48", after := #[{ on := 5, ground := Go.Ground.data }, { on := 6, ground := Go.Ground.data }, { on := 4, ground := Go.Ground.guard }], guard := Option.some (4, Bool.true) }) (v := ?v8) rfl (by kernel_rfl) (by kernel_rfl) (by kernel_rfl) (fun _ _ _ h => h) (Or.inl ⟨by rfl, ?hy8⟩) (by assumption) ?rest8
            case hy8 =>
              intro w9 hSw
              clear hSw
              go_simp
              first | done | with_reducible rfl
            (try simp only [Act.put]); (try simp only [List.setIfInBounds_toArray]); (try simp only [List.set_cons_succ]); (try simp only [List.set_cons_zero])
            refine wpAnyH_take (i := 8) (oi := { dst := Option.some 23, op := Go.Op.load 38 (Go.Operand.tmp 22), type := 38, pos := "l11_run.go:48", after := #[{ on := 7, ground := Go.Ground.data }, { on := 4, ground := Go.Ground.guard }], guard := Option.some (4, Bool.true) }) (v := ?v9) rfl (by kernel_rfl) (by kernel_rfl) (by kernel_rfl) (fun _ _ _ h => h) (Or.inl ⟨by rfl, ?hy9⟩) (by assumption) ?rest9
            case hy9 =>
              intro w9 hSw
              obtain ⟨f0, f1, f2, f3, g0, g1, g2, g3⟩ := hSw
              go_simp
              first | done | with_reducible rfl
            (try simp only [Act.put]); (try simp only [List.setIfInBounds_toArray]); (try simp only [List.set_cons_succ]); (try simp only [List.set_cons_zero])
            refine wpAnyH_take (i := 9) (oi := { dst := Option.some 24, op := Go.Op.move (Go.Operand.tmp 1), type := 30, pos := "l11_run.go:48", after := #[{ on := 4, ground := Go.Ground.guard }], guard := Option.some (4, Bool.true) }) (v := ?v10) rfl (by kernel_rfl) (by kernel_rfl) (by kernel_rfl) (fun _ _ _ h => h) (Or.inl ⟨by rfl, ?hy10⟩) (by assumption) ?rest10
            case hy10 =>
              intro w9 hSw
              clear hSw
              go_simp
              first | done | with_reducible rfl
            (try simp only [Act.put]); (try simp only [List.setIfInBounds_toArray]); (try simp only [List.set_cons_succ]); (try simp only [List.set_cons_zero])
            refine wpAnyH_take (i := 10) (oi := { dst := Option.some 25, op := Go.Op.move (Go.Operand.tmp 7), type := 3, pos := "l11_run.go:48", after := #[{ on := 4, ground := Go.Ground.guard }], guard := Option.some (4, Bool.true) }) (v := ?v11) rfl (by kernel_rfl) (by kernel_rfl) (by kernel_rfl) (fun _ _ _ h => h) (Or.inl ⟨by rfl, ?hy11⟩) (by assumption) ?rest11
            case hy11 =>
              intro w9 hSw
              clear hSw
              go_simp
              first | done | with_reducible rfl
            (try simp only [Act.put]); (try simp only [List.setIfInBounds_toArray]); (try simp only [List.set_cons_succ]); (try simp only [List.set_cons_zero])
            refine wpAnyH_take (i := 11) (oi := { dst := Option.some 26, op := Go.Op.indexAddr 30 (Go.Operand.tmp 24) (Go.Operand.tmp 25), type := 0, pos := "l11_run.go:48", after := #[{ on := 9, ground := Go.Ground.data }, { on := 10, ground := Go.Ground.data }, { on := 4, ground := Go.Ground.guard }], guard := Option.some (4, Bool.true) }) (v := ?v12) rfl (by kernel_rfl) (by kernel_rfl) (by kernel_rfl) (fun _ _ _ h => h) (Or.inl ⟨by rfl, ?hy12⟩) (by assumption) ?rest12
            case hy12 =>
              intro w9 hSw
              clear hSw
              go_simp
              first | done | with_reducible rfl
            (try simp only [Act.put]); (try simp only [List.setIfInBounds_toArray]); (try simp only [List.set_cons_succ]); (try simp only [List.set_cons_zero])
            refine wpAnyH_take (i := 12) (oi := { dst := Option.some 27, op := Go.Op.load 38 (Go.Operand.tmp 26), type := 38, pos := "l11_run.go:48", after := #[{ on := 11, ground := Go.Ground.data }, { on := 4, ground := Go.Ground.guard }], guard := Option.some (4, Bool.true) }) (v := ?v13) rfl (by kernel_rfl) (by kernel_rfl) (by kernel_rfl) (fun _ _ _ h => h) (Or.inl ⟨by rfl, ?hy13⟩) (by assumption) ?rest13
            case hy13 =>
              intro w9 hSw
              obtain ⟨f0, f1, f2, f3, g0, g1, g2, g3⟩ := hSw
              go_simp
              first | done | with_reducible rfl
            (try simp only [Act.put]); (try simp only [List.setIfInBounds_toArray]); (try simp only [List.set_cons_succ]); (try simp only [List.set_cons_zero])
            refine wpAnyH_ready (rs := [13]) (by kernel_rfl) (by simp) ?_
            refine AllReadyH.cons (o := { dst := Option.some 28, op := Go.Op.call { callee := Go.Callee.value (Go.Operand.func 21), args := #[Go.Operand.tmp 23, Go.Operand.tmp 27], argTypes := #[38, 38] }, type := 4, pos := "l11_run.go:48", after := #[{ on := 8, ground := Go.Ground.data }, { on := 12, ground := Go.Ground.data }, { on := 4, ground := Go.Ground.chain }, { on := 4, ground := Go.Ground.guard }], guard := Option.some (4, Bool.true) }) rfl (fun K hK => ?_) AllReadyH.nil
            go_simp
            (go_at_call 21; refine Calls.mono (HAH.out _ (by first | exact HB9.out | exact bel2 HP2.out.below (by rfl) (by rfl) (by rfl) (by rfl)) (by exact HP2.out.own)) ?_; rintro e w9 ⟨rfl, hb9, ho9⟩; have HB9 := Lib.hid hb9; have HO9 := Lib.hid ho9; clear hb9 ho9)
            (try go_wp2_with fail)
            refine hK.out _ _ (HSS.out _ (by first | exact HB9.out | exact bel2 HP2.out.below (by rfl) (by rfl) (by rfl) (by rfl))) (fun hHeld => ?_)
            clear hK K
            (try simp only [Act.put]); (try simp only [List.setIfInBounds_toArray]); (try simp only [List.set_cons_succ]); (try simp only [List.set_cons_zero])
            refine wpAnyH_take (i := 14) (oi := { dst := Option.some 29, op := Go.Op.pick (Go.Operand.tmp 19) (Go.Operand.tmp 28) (Go.Operand.const (Go.Value.bool Bool.false)), type := 4, pos := "l11_run.go:48", after := #[{ on := 4, ground := Go.Ground.data }, { on := 13, ground := Go.Ground.data }], guard := Option.none }) (v := ?v14) rfl (by kernel_rfl) (by kernel_rfl) (by kernel_rfl) (fun _ _ _ h => h) (Or.inl ⟨by rfl, ?hy14⟩) (by assumption) ?rest14
            case hy14 =>
              intro w9 hSw
              clear hSw
              go_simp
              first | done | with_reducible rfl
            (try simp only [Act.put]); (try simp only [List.setIfInBounds_toArray]); (try simp only [List.set_cons_succ]); (try simp only [List.set_cons_zero])
            refine wpAnyH_done (by kernel_rfl) ?_ _
            obtain ⟨n0, n1, n2, n3, -⟩ := HSS.out w9 HB9.out
            have hc0 : (w9.alloc (.cells #[.string x0, .int .i64 x1, .bool x2, .int .i64 x3] 38)).cell? ⟨w9.heap.size, 0, none⟩ = some (.string x0) := by rw [cell_of_row _ _ _ _ _ _ (heap_alloc_new _ _)]; rfl
            have hc1 : (w9.alloc (.cells #[.string x0, .int .i64 x1, .bool x2, .int .i64 x3] 38)).cell? ⟨w9.heap.size, 1, none⟩ = some (.int .i64 x1) := by rw [cell_of_row _ _ _ _ _ _ (heap_alloc_new _ _)]; rfl
            have hc2 : (w9.alloc (.cells #[.string x0, .int .i64 x1, .bool x2, .int .i64 x3] 38)).cell? ⟨w9.heap.size, 2, none⟩ = some (.bool x2) := by rw [cell_of_row _ _ _ _ _ _ (heap_alloc_new _ _)]; rfl
            have hc3 : (w9.alloc (.cells #[.string x0, .int .i64 x1, .bool x2, .int .i64 x3] 38)).cell? ⟨w9.heap.size, 3, none⟩ = some (.int .i64 x3) := by rw [cell_of_row _ _ _ _ _ _ (heap_alloc_new _ _)]; rfl
            have HOA := Lib.hid (show OwnE (w9.alloc (.cells #[.string x0, .int .i64 x1, .bool x2, .int .i64 x3] 38)) w.heap.size s0 out from World.ownsRow.alloc HO9.out _)
            have HBA := Lib.hid (show Below w.heap.size w (w9.alloc (.cells #[.string x0, .int .i64 x1, .bool x2, .int .i64 x3] 38)) from HB9.out.alloc HB9.out.size _)
            go_wp2_with (at_builtin; refine app_en rfl (.tmp 30) (.tmp 35) rfl (w9.alloc (.cells #[.string x0, .int .i64 x1, .bool x2, .int .i64 x3] 38)) w.heap.size s0 out rfl HOA.out w9.heap.size 1 ⟨x0, x1, x2, x3⟩ rfl hc0 hc1 hc2 hc3 (by omega) HBA.out.size ?_; intro vb wb ob gb; have OB := Lib.hid ob; have BB := Lib.hid (HBA.out.grown gb HBA.out.size fun k hk => (World.ownsRow.lt HOA.out k hk).1); clear ob gb)
            go_roundw
            case rel => exact ⟨i + 1, _, out ++ [⟨x0, x1, x2, x3⟩], by go_num, rfl, ⟨by omega, OB.out, by rw [List.append_assoc, List.singleton_append, ← HJT.out]; exact HP2.out.eq, by rw [List.length_append, List.length_singleton]; omega, BB.out⟩⟩
            case measure => simp [intOf]; omega
          | false =>
            have HJP := Lib.hid (show joinL (la.drop i) (lb.drop k) = ⟨y0, y1, y2, y3⟩ :: joinL (la.drop i) (lb.drop (k + 1)) by rw [HLB.out]; exact join_put fun h => by rw [HX.out]; exact HQ.out)
            go_wp2_with fail
            refine wp_region_held_drew (S := (fun W : World => W.cell? ⟨xb, xo + i * 4, none⟩ = some (.string x0) ∧ W.cell? ⟨xb, xo + i * 4 + 1, none⟩ = some (.int .i64 x1) ∧ W.cell? ⟨xb, xo + i * 4 + 2, none⟩ = some (.bool x2) ∧ W.cell? ⟨xb, xo + i * 4 + 3, none⟩ = some (.int .i64 x3) ∧ W.cell? ⟨yb, yo + k * 4, none⟩ = some (.string y0) ∧ W.cell? ⟨yb, yo + k * 4 + 1, none⟩ = some (.int .i64 y1) ∧ W.cell? ⟨yb, yo + k * 4 + 2, none⟩ = some (.bool y2) ∧ W.cell? ⟨yb, yo + k * 4 + 3, none⟩ = some (.int .i64 y3))) (by kernel_rfl) (HSS.out _ (by first | exact HB9.out | exact bel2 HP2.out.below (by rfl) (by rfl) (by rfl) (by rfl))) (fun hHeld => ?_)
            refine wpAnyH_take (i := 0) (oi := { dst := Option.some 15, op := Go.Op.move (Go.Operand.tmp 6), type := 3, pos := "l11_run.go:48", after := #[], guard := Option.none }) (v := ?v15) rfl (by kernel_rfl) (by kernel_rfl) (by kernel_rfl) (fun _ _ _ h => h) (Or.inl ⟨by rfl, ?hy15⟩) (by assumption) ?rest15
            case hy15 =>
              intro w9 hSw
              clear hSw
              go_simp
              first | done | with_reducible rfl
            (try simp only [Act.put]); (try simp only [List.setIfInBounds_toArray]); (try simp only [List.set_cons_succ]); (try simp only [List.set_cons_zero])
            refine wpAnyH_take (i := 1) (oi := { dst := Option.some 16, op := Go.Op.move (Go.Operand.tmp 0), type := 30, pos := "l11_run.go:48", after := #[], guard := Option.none }) (v := ?v16) rfl (by kernel_rfl) (by kernel_rfl) (by kernel_rfl) (fun _ _ _ h => h) (Or.inl ⟨by rfl, ?hy16⟩) (by assumption) ?rest16
            case hy16 =>
              intro w9 hSw
              clear hSw
              go_simp
              first | done | with_reducible rfl
            (try simp only [Act.put]); (try simp only [List.setIfInBounds_toArray]); (try simp only [List.set_cons_succ]); (try simp only [List.set_cons_zero])
            refine wpAnyH_take (i := 2) (oi := { dst := Option.some 17, op := Go.Op.call { callee := Go.Callee.builtin Go.Builtin.len, args := #[Go.Operand.tmp 16], argTypes := #[30] }, type := 3, pos := "l11_run.go:48", after := #[{ on := 1, ground := Go.Ground.data }], guard := Option.none }) (v := ?v17) rfl (by kernel_rfl) (by kernel_rfl) (by kernel_rfl) (fun _ _ _ h => h) (Or.inl ⟨by rfl, ?hy17⟩) (by assumption) ?rest17
            case hy17 =>
              intro w9 hSw
              clear hSw
              go_simp
              first | done | with_reducible rfl
            (try simp only [Act.put]); (try simp only [List.setIfInBounds_toArray]); (try simp only [List.set_cons_succ]); (try simp only [List.set_cons_zero])
            refine wpAnyH_take (i := 3) (oi := { dst := Option.some 18, op := Go.Op.binOp Go.BinOp.lss 3 (Go.Operand.tmp 15) (Go.Operand.tmp 17) 3, type := 4, pos := "l11_run.go:48", after := #[{ on := 0, ground := Go.Ground.data }, { on := 2, ground := Go.Ground.data }], guard := Option.none }) (v := ?v18) rfl (by kernel_rfl) (by kernel_rfl) (by kernel_rfl) (fun _ _ _ h => h) (Or.inl ⟨by rfl, ?hy18⟩) (by assumption) ?rest18
            case hy18 =>
              intro w9 hSw
              clear hSw
              go_simp
              first | done | with_reducible rfl
            (try simp only [Act.put]); (try simp only [List.setIfInBounds_toArray]); (try simp only [List.set_cons_succ]); (try simp only [List.set_cons_zero])
            refine wpAnyH_take (i := 4) (oi := { dst := Option.some 19, op := Go.Op.move (Go.Operand.tmp 18), type := 4, pos := "l11_run.go:48", after := #[{ on := 3, ground := Go.Ground.data }], guard := Option.none }) (v := ?v19) rfl (by kernel_rfl) (by kernel_rfl) (by kernel_rfl) (fun _ _ _ h => h) (Or.inl ⟨by rfl, ?hy19⟩) (by assumption) ?rest19
            case hy19 =>
              intro w9 hSw
              clear hSw
              go_simp
              first | done | with_reducible rfl
            (try simp only [Act.put]); (try simp only [List.setIfInBounds_toArray]); (try simp only [List.set_cons_succ]); (try simp only [List.set_cons_zero])
            refine wpAnyH_take (i := 5) (oi := { dst := Option.some 20, op := Go.Op.move (Go.Operand.tmp 0), type := 30, pos := "l11_run.go:48", after := #[{ on := 4, ground := Go.Ground.guard }], guard := Option.some (4, Bool.true) }) (v := ?v20) rfl (by kernel_rfl) (by kernel_rfl) (by kernel_rfl) (fun _ _ _ h => h) (Or.inl ⟨by rfl, ?hy20⟩) (by assumption) ?rest20
            case hy20 =>
              intro w9 hSw
              clear hSw
              go_simp
              first | done | with_reducible rfl
            (try simp only [Act.put]); (try simp only [List.setIfInBounds_toArray]); (try simp only [List.set_cons_succ]); (try simp only [List.set_cons_zero])
            refine wpAnyH_take (i := 6) (oi := { dst := Option.some 21, op := Go.Op.move (Go.Operand.tmp 6), type := 3, pos := "l11_run.go:48", after := #[{ on := 4, ground := Go.Ground.guard }], guard := Option.some (4, Bool.true) }) (v := ?v21) rfl (by kernel_rfl) (by kernel_rfl) (by kernel_rfl) (fun _ _ _ h => h) (Or.inl ⟨by rfl, ?hy21⟩) (by assumption) ?rest21
            case hy21 =>
              intro w9 hSw
              clear hSw
              go_simp
              first | done | with_reducible rfl
            (try simp only [Act.put]); (try simp only [List.setIfInBounds_toArray]); (try simp only [List.set_cons_succ]); (try simp only [List.set_cons_zero])
            refine wpAnyH_take (i := 7) (oi := { dst := Option.some 22, op := Go.Op.indexAddr 30 (Go.Operand.tmp 20) (Go.Operand.tmp 21), type := 0, pos := "l11_run.go:48", after := #[{ on := 5, ground := Go.Ground.data }, { on := 6, ground := Go.Ground.data }, { on := 4, ground := Go.Ground.guard }], guard := Option.some (4, Bool.true) }) (v := ?v22) rfl (by kernel_rfl) (by kernel_rfl) (by kernel_rfl) (fun _ _ _ h => h) (Or.inl ⟨by rfl, ?hy22⟩) (by assumption) ?rest22
            case hy22 =>
              intro w9 hSw
              clear hSw
              go_simp
              first | done | with_reducible rfl
            (try simp only [Act.put]); (try simp only [List.setIfInBounds_toArray]); (try simp only [List.set_cons_succ]); (try simp only [List.set_cons_zero])
            refine wpAnyH_take (i := 8) (oi := { dst := Option.some 23, op := Go.Op.load 38 (Go.Operand.tmp 22), type := 38, pos := "l11_run.go:48", after := #[{ on := 7, ground := Go.Ground.data }, { on := 4, ground := Go.Ground.guard }], guard := Option.some (4, Bool.true) }) (v := ?v23) rfl (by kernel_rfl) (by kernel_rfl) (by kernel_rfl) (fun _ _ _ h => h) (Or.inl ⟨by rfl, ?hy23⟩) (by assumption) ?rest23
            case hy23 =>
              intro w9 hSw
              obtain ⟨f0, f1, f2, f3, g0, g1, g2, g3⟩ := hSw
              go_simp
              first | done | with_reducible rfl
            (try simp only [Act.put]); (try simp only [List.setIfInBounds_toArray]); (try simp only [List.set_cons_succ]); (try simp only [List.set_cons_zero])
            refine wpAnyH_take (i := 9) (oi := { dst := Option.some 24, op := Go.Op.move (Go.Operand.tmp 1), type := 30, pos := "l11_run.go:48", after := #[{ on := 4, ground := Go.Ground.guard }], guard := Option.some (4, Bool.true) }) (v := ?v24) rfl (by kernel_rfl) (by kernel_rfl) (by kernel_rfl) (fun _ _ _ h => h) (Or.inl ⟨by rfl, ?hy24⟩) (by assumption) ?rest24
            case hy24 =>
              intro w9 hSw
              clear hSw
              go_simp
              first | done | with_reducible rfl
            (try simp only [Act.put]); (try simp only [List.setIfInBounds_toArray]); (try simp only [List.set_cons_succ]); (try simp only [List.set_cons_zero])
            refine wpAnyH_take (i := 10) (oi := { dst := Option.some 25, op := Go.Op.move (Go.Operand.tmp 7), type := 3, pos := "l11_run.go:48", after := #[{ on := 4, ground := Go.Ground.guard }], guard := Option.some (4, Bool.true) }) (v := ?v25) rfl (by kernel_rfl) (by kernel_rfl) (by kernel_rfl) (fun _ _ _ h => h) (Or.inl ⟨by rfl, ?hy25⟩) (by assumption) ?rest25
            case hy25 =>
              intro w9 hSw
              clear hSw
              go_simp
              first | done | with_reducible rfl
            (try simp only [Act.put]); (try simp only [List.setIfInBounds_toArray]); (try simp only [List.set_cons_succ]); (try simp only [List.set_cons_zero])
            refine wpAnyH_take (i := 11) (oi := { dst := Option.some 26, op := Go.Op.indexAddr 30 (Go.Operand.tmp 24) (Go.Operand.tmp 25), type := 0, pos := "l11_run.go:48", after := #[{ on := 9, ground := Go.Ground.data }, { on := 10, ground := Go.Ground.data }, { on := 4, ground := Go.Ground.guard }], guard := Option.some (4, Bool.true) }) (v := ?v26) rfl (by kernel_rfl) (by kernel_rfl) (by kernel_rfl) (fun _ _ _ h => h) (Or.inl ⟨by rfl, ?hy26⟩) (by assumption) ?rest26
            case hy26 =>
              intro w9 hSw
              clear hSw
              go_simp
              first | done | with_reducible rfl
            (try simp only [Act.put]); (try simp only [List.setIfInBounds_toArray]); (try simp only [List.set_cons_succ]); (try simp only [List.set_cons_zero])
            refine wpAnyH_take (i := 12) (oi := { dst := Option.some 27, op := Go.Op.load 38 (Go.Operand.tmp 26), type := 38, pos := "l11_run.go:48", after := #[{ on := 11, ground := Go.Ground.data }, { on := 4, ground := Go.Ground.guard }], guard := Option.some (4, Bool.true) }) (v := ?v27) rfl (by kernel_rfl) (by kernel_rfl) (by kernel_rfl) (fun _ _ _ h => h) (Or.inl ⟨by rfl, ?hy27⟩) (by assumption) ?rest27
            case hy27 =>
              intro w9 hSw
              obtain ⟨f0, f1, f2, f3, g0, g1, g2, g3⟩ := hSw
              go_simp
              first | done | with_reducible rfl
            (try simp only [Act.put]); (try simp only [List.setIfInBounds_toArray]); (try simp only [List.set_cons_succ]); (try simp only [List.set_cons_zero])
            refine wpAnyH_ready (rs := [13]) (by kernel_rfl) (by simp) ?_
            refine AllReadyH.cons (o := { dst := Option.some 28, op := Go.Op.call { callee := Go.Callee.value (Go.Operand.func 21), args := #[Go.Operand.tmp 23, Go.Operand.tmp 27], argTypes := #[38, 38] }, type := 4, pos := "l11_run.go:48", after := #[{ on := 8, ground := Go.Ground.data }, { on := 12, ground := Go.Ground.data }, { on := 4, ground := Go.Ground.chain }, { on := 4, ground := Go.Ground.guard }], guard := Option.some (4, Bool.true) }) rfl (fun K hK => ?_) AllReadyH.nil
            go_simp
            (go_at_call 21; refine Calls.mono (HAH.out _ (by first | exact HB9.out | exact bel2 HP2.out.below (by rfl) (by rfl) (by rfl) (by rfl)) (by exact HP2.out.own)) ?_; rintro e w9 ⟨rfl, hb9, ho9⟩; have HB9 := Lib.hid hb9; have HO9 := Lib.hid ho9; clear hb9 ho9)
            (try go_wp2_with fail)
            refine hK.out _ _ (HSS.out _ (by first | exact HB9.out | exact bel2 HP2.out.below (by rfl) (by rfl) (by rfl) (by rfl))) (fun hHeld => ?_)
            clear hK K
            (try simp only [Act.put]); (try simp only [List.setIfInBounds_toArray]); (try simp only [List.set_cons_succ]); (try simp only [List.set_cons_zero])
            refine wpAnyH_take (i := 14) (oi := { dst := Option.some 29, op := Go.Op.pick (Go.Operand.tmp 19) (Go.Operand.tmp 28) (Go.Operand.const (Go.Value.bool Bool.false)), type := 4, pos := "l11_run.go:48", after := #[{ on := 4, ground := Go.Ground.data }, { on := 13, ground := Go.Ground.data }], guard := Option.none }) (v := ?v28) rfl (by kernel_rfl) (by kernel_rfl) (by kernel_rfl) (fun _ _ _ h => h) (Or.inl ⟨by rfl, ?hy28⟩) (by assumption) ?rest28
            case hy28 =>
              intro w9 hSw
              clear hSw
              go_simp
              first | done | with_reducible rfl
            (try simp only [Act.put]); (try simp only [List.setIfInBounds_toArray]); (try simp only [List.set_cons_succ]); (try simp only [List.set_cons_zero])
            refine wpAnyH_done (by kernel_rfl) ?_ _
            obtain ⟨m0, m1, m2, m3⟩ := HDY.out w9 HB9.out
            have hc0 : (w9.alloc (.cells #[.string y0, .int .i64 y1, .bool y2, .int .i64 y3] 38)).cell? ⟨w9.heap.size, 0, none⟩ = some (.string y0) := by rw [cell_of_row _ _ _ _ _ _ (heap_alloc_new _ _)]; rfl
            have hc1 : (w9.alloc (.cells #[.string y0, .int .i64 y1, .bool y2, .int .i64 y3] 38)).cell? ⟨w9.heap.size, 1, none⟩ = some (.int .i64 y1) := by rw [cell_of_row _ _ _ _ _ _ (heap_alloc_new _ _)]; rfl
            have hc2 : (w9.alloc (.cells #[.string y0, .int .i64 y1, .bool y2, .int .i64 y3] 38)).cell? ⟨w9.heap.size, 2, none⟩ = some (.bool y2) := by rw [cell_of_row _ _ _ _ _ _ (heap_alloc_new _ _)]; rfl
            have hc3 : (w9.alloc (.cells #[.string y0, .int .i64 y1, .bool y2, .int .i64 y3] 38)).cell? ⟨w9.heap.size, 3, none⟩ = some (.int .i64 y3) := by rw [cell_of_row _ _ _ _ _ _ (heap_alloc_new _ _)]; rfl
            have HOA := Lib.hid (show OwnE (w9.alloc (.cells #[.string y0, .int .i64 y1, .bool y2, .int .i64 y3] 38)) w.heap.size s0 out from World.ownsRow.alloc HO9.out _)
            have HBA := Lib.hid (show Below w.heap.size w (w9.alloc (.cells #[.string y0, .int .i64 y1, .bool y2, .int .i64 y3] 38)) from HB9.out.alloc HB9.out.size _)
            go_wp2_with (at_builtin; refine app_en rfl (.tmp 39) (.tmp 44) rfl (w9.alloc (.cells #[.string y0, .int .i64 y1, .bool y2, .int .i64 y3] 38)) w.heap.size s0 out rfl HOA.out w9.heap.size 1 ⟨y0, y1, y2, y3⟩ rfl hc0 hc1 hc2 hc3 (by omega) HBA.out.size ?_; intro vb wb ob gb; have OB := Lib.hid ob; have BB := Lib.hid (HBA.out.grown gb HBA.out.size fun k hk => (World.ownsRow.lt HOA.out k hk).1); clear ob gb)
            go_roundw
            case rel => exact ⟨k + 1, i, _, out ++ [⟨y0, y1, y2, y3⟩], by omega, by go_num, rfl, rfl, ⟨hil, OB.out, by rw [List.append_assoc, List.singleton_append, ← HJP.out]; exact HP2.out.eq, by rw [List.length_append, List.length_singleton]; omega, BB.out⟩⟩
            case measure => simp [intOf]; omega
        · have hie : i = la.length := by omega
          have i1 : ¬ (i : Int) < (la.length : Int) := by omega
          have i2 : decide ((i : Int) < (la.length : Int)) = false := by simpa using i1
          have i3 : ¬ i < la.length := by omega
          have i4 : decide (i < la.length) = false := by simpa using i3
          have HJP := Lib.hid (show joinL (la.drop i) (lb.drop k) = ⟨y0, y1, y2, y3⟩ :: joinL (la.drop i) (lb.drop (k + 1)) by rw [HLB.out]; exact join_put fun h => absurd h i3)
          clear hie
          go_wp2_with fail
          refine wp_region_held_drew (S := (fun _ : World => True)) (by kernel_rfl) (trivial) (fun hHeld => ?_)
          refine wpAnyH_take (i := 0) (oi := { dst := Option.some 15, op := Go.Op.move (Go.Operand.tmp 6), type := 3, pos := "l11_run.go:48", after := #[], guard := Option.none }) (v := ?v29) rfl (by kernel_rfl) (by kernel_rfl) (by kernel_rfl) (fun _ _ _ h => h) (Or.inl ⟨by rfl, ?hy29⟩) (by assumption) ?rest29
          case hy29 =>
            intro w9 hSw
            clear hSw
            go_simp
            first | done | with_reducible rfl
          (try simp only [Act.put]); (try simp only [List.setIfInBounds_toArray]); (try simp only [List.set_cons_succ]); (try simp only [List.set_cons_zero])
          refine wpAnyH_take (i := 1) (oi := { dst := Option.some 16, op := Go.Op.move (Go.Operand.tmp 0), type := 30, pos := "l11_run.go:48", after := #[], guard := Option.none }) (v := ?v30) rfl (by kernel_rfl) (by kernel_rfl) (by kernel_rfl) (fun _ _ _ h => h) (Or.inl ⟨by rfl, ?hy30⟩) (by assumption) ?rest30
          case hy30 =>
            intro w9 hSw
            clear hSw
            go_simp
            first | done | with_reducible rfl
          (try simp only [Act.put]); (try simp only [List.setIfInBounds_toArray]); (try simp only [List.set_cons_succ]); (try simp only [List.set_cons_zero])
          refine wpAnyH_take (i := 2) (oi := { dst := Option.some 17, op := Go.Op.call { callee := Go.Callee.builtin Go.Builtin.len, args := #[Go.Operand.tmp 16], argTypes := #[30] }, type := 3, pos := "l11_run.go:48", after := #[{ on := 1, ground := Go.Ground.data }], guard := Option.none }) (v := ?v31) rfl (by kernel_rfl) (by kernel_rfl) (by kernel_rfl) (fun _ _ _ h => h) (Or.inl ⟨by rfl, ?hy31⟩) (by assumption) ?rest31
          case hy31 =>
            intro w9 hSw
            clear hSw
            go_simp
            first | done | with_reducible rfl
          (try simp only [Act.put]); (try simp only [List.setIfInBounds_toArray]); (try simp only [List.set_cons_succ]); (try simp only [List.set_cons_zero])
          refine wpAnyH_take (i := 3) (oi := { dst := Option.some 18, op := Go.Op.binOp Go.BinOp.lss 3 (Go.Operand.tmp 15) (Go.Operand.tmp 17) 3, type := 4, pos := "l11_run.go:48", after := #[{ on := 0, ground := Go.Ground.data }, { on := 2, ground := Go.Ground.data }], guard := Option.none }) (v := ?v32) rfl (by kernel_rfl) (by kernel_rfl) (by kernel_rfl) (fun _ _ _ h => h) (Or.inl ⟨by rfl, ?hy32⟩) (by assumption) ?rest32
          case hy32 =>
            intro w9 hSw
            clear hSw
            go_simp
            first | done | with_reducible rfl
          (try simp only [Act.put]); (try simp only [List.setIfInBounds_toArray]); (try simp only [List.set_cons_succ]); (try simp only [List.set_cons_zero])
          refine wpAnyH_take (i := 4) (oi := { dst := Option.some 19, op := Go.Op.move (Go.Operand.tmp 18), type := 4, pos := "l11_run.go:48", after := #[{ on := 3, ground := Go.Ground.data }], guard := Option.none }) (v := ?v33) rfl (by kernel_rfl) (by kernel_rfl) (by kernel_rfl) (fun _ _ _ h => h) (Or.inl ⟨by rfl, ?hy33⟩) (by assumption) ?rest33
          case hy33 =>
            intro w9 hSw
            clear hSw
            go_simp
            first | done | with_reducible rfl
          (try simp only [Act.put]); (try simp only [List.setIfInBounds_toArray]); (try simp only [List.set_cons_succ]); (try simp only [List.set_cons_zero])
          refine wpAnyH_take (i := 5) (oi := { dst := Option.some 20, op := Go.Op.move (Go.Operand.tmp 0), type := 30, pos := "l11_run.go:48", after := #[{ on := 4, ground := Go.Ground.guard }], guard := Option.some (4, Bool.true) }) (v := undef) rfl (by kernel_rfl) (by kernel_rfl) (by kernel_rfl) (fun _ _ _ h => h) (Or.inr ⟨by rfl, rfl⟩) (by assumption) ?_
          (try simp only [Act.put]); (try simp only [List.setIfInBounds_toArray]); (try simp only [List.set_cons_succ]); (try simp only [List.set_cons_zero])
          refine wpAnyH_take (i := 6) (oi := { dst := Option.some 21, op := Go.Op.move (Go.Operand.tmp 6), type := 3, pos := "l11_run.go:48", after := #[{ on := 4, ground := Go.Ground.guard }], guard := Option.some (4, Bool.true) }) (v := undef) rfl (by kernel_rfl) (by kernel_rfl) (by kernel_rfl) (fun _ _ _ h => h) (Or.inr ⟨by rfl, rfl⟩) (by assumption) ?_
          (try simp only [Act.put]); (try simp only [List.setIfInBounds_toArray]); (try simp only [List.set_cons_succ]); (try simp only [List.set_cons_zero])
          refine wpAnyH_take (i := 7) (oi := { dst := Option.some 22, op := Go.Op.indexAddr 30 (Go.Operand.tmp 20) (Go.Operand.tmp 21), type := 0, pos := "l11_run.go:48", after := #[{ on := 5, ground := Go.Ground.data }, { on := 6, ground := Go.Ground.data }, { on := 4, ground := Go.Ground.guard }], guard := Option.some (4, Bool.true) }) (v := undef) rfl (by kernel_rfl) (by kernel_rfl) (by kernel_rfl) (fun _ _ _ h => h) (Or.inr ⟨by rfl, rfl⟩) (by assumption) ?_
          (try simp only [Act.put]); (try simp only [List.setIfInBounds_toArray]); (try simp only [List.set_cons_succ]); (try simp only [List.set_cons_zero])
          refine wpAnyH_take (i := 8) (oi := { dst := Option.some 23, op := Go.Op.load 38 (Go.Operand.tmp 22), type := 38, pos := "l11_run.go:48", after := #[{ on := 7, ground := Go.Ground.data }, { on := 4, ground := Go.Ground.guard }], guard := Option.some (4, Bool.true) }) (v := undef) rfl (by kernel_rfl) (by kernel_rfl) (by kernel_rfl) (fun _ _ _ h => h) (Or.inr ⟨by rfl, rfl⟩) (by assumption) ?_
          (try simp only [Act.put]); (try simp only [List.setIfInBounds_toArray]); (try simp only [List.set_cons_succ]); (try simp only [List.set_cons_zero])
          refine wpAnyH_take (i := 9) (oi := { dst := Option.some 24, op := Go.Op.move (Go.Operand.tmp 1), type := 30, pos := "l11_run.go:48", after := #[{ on := 4, ground := Go.Ground.guard }], guard := Option.some (4, Bool.true) }) (v := undef) rfl (by kernel_rfl) (by kernel_rfl) (by kernel_rfl) (fun _ _ _ h => h) (Or.inr ⟨by rfl, rfl⟩) (by assumption) ?_
          (try simp only [Act.put]); (try simp only [List.setIfInBounds_toArray]); (try simp only [List.set_cons_succ]); (try simp only [List.set_cons_zero])
          refine wpAnyH_take (i := 10) (oi := { dst := Option.some 25, op := Go.Op.move (Go.Operand.tmp 7), type := 3, pos := "l11_run.go:48", after := #[{ on := 4, ground := Go.Ground.guard }], guard := Option.some (4, Bool.true) }) (v := undef) rfl (by kernel_rfl) (by kernel_rfl) (by kernel_rfl) (fun _ _ _ h => h) (Or.inr ⟨by rfl, rfl⟩) (by assumption) ?_
          (try simp only [Act.put]); (try simp only [List.setIfInBounds_toArray]); (try simp only [List.set_cons_succ]); (try simp only [List.set_cons_zero])
          refine wpAnyH_take (i := 11) (oi := { dst := Option.some 26, op := Go.Op.indexAddr 30 (Go.Operand.tmp 24) (Go.Operand.tmp 25), type := 0, pos := "l11_run.go:48", after := #[{ on := 9, ground := Go.Ground.data }, { on := 10, ground := Go.Ground.data }, { on := 4, ground := Go.Ground.guard }], guard := Option.some (4, Bool.true) }) (v := undef) rfl (by kernel_rfl) (by kernel_rfl) (by kernel_rfl) (fun _ _ _ h => h) (Or.inr ⟨by rfl, rfl⟩) (by assumption) ?_
          (try simp only [Act.put]); (try simp only [List.setIfInBounds_toArray]); (try simp only [List.set_cons_succ]); (try simp only [List.set_cons_zero])
          refine wpAnyH_take (i := 12) (oi := { dst := Option.some 27, op := Go.Op.load 38 (Go.Operand.tmp 26), type := 38, pos := "l11_run.go:48", after := #[{ on := 11, ground := Go.Ground.data }, { on := 4, ground := Go.Ground.guard }], guard := Option.some (4, Bool.true) }) (v := undef) rfl (by kernel_rfl) (by kernel_rfl) (by kernel_rfl) (fun _ _ _ h => h) (Or.inr ⟨by rfl, rfl⟩) (by assumption) ?_
          (try simp only [Act.put]); (try simp only [List.setIfInBounds_toArray]); (try simp only [List.set_cons_succ]); (try simp only [List.set_cons_zero])
          refine wpAnyH_take (i := 13) (oi := { dst := Option.some 28, op := Go.Op.call { callee := Go.Callee.value (Go.Operand.func 21), args := #[Go.Operand.tmp 23, Go.Operand.tmp 27], argTypes := #[38, 38] }, type := 4, pos := "l11_run.go:48", after := #[{ on := 8, ground := Go.Ground.data }, { on := 12, ground := Go.Ground.data }, { on := 4, ground := Go.Ground.chain }, { on := 4, ground := Go.Ground.guard }], guard := Option.some (4, Bool.true) }) (v := undef) rfl (by kernel_rfl) (by kernel_rfl) (by kernel_rfl) (fun _ _ _ h => h) (Or.inr ⟨by rfl, rfl⟩) (by assumption) ?_
          (try simp only [Act.put]); (try simp only [List.setIfInBounds_toArray]); (try simp only [List.set_cons_succ]); (try simp only [List.set_cons_zero])
          refine wpAnyH_take (i := 14) (oi := { dst := Option.some 29, op := Go.Op.pick (Go.Operand.tmp 19) (Go.Operand.tmp 28) (Go.Operand.const (Go.Value.bool Bool.false)), type := 4, pos := "l11_run.go:48", after := #[{ on := 4, ground := Go.Ground.data }, { on := 13, ground := Go.Ground.data }], guard := Option.none }) (v := ?v34) rfl (by kernel_rfl) (by kernel_rfl) (by kernel_rfl) (fun _ _ _ h => h) (Or.inl ⟨by rfl, ?hy34⟩) (by assumption) ?rest34
          case hy34 =>
            intro w9 hSw
            clear hSw
            go_simp
            first | done | with_reducible rfl
          (try simp only [Act.put]); (try simp only [List.setIfInBounds_toArray]); (try simp only [List.set_cons_succ]); (try simp only [List.set_cons_zero])
          refine wpAnyH_done (by kernel_rfl) ?_ _
          obtain ⟨w9, hw9⟩ : ∃ W, W = wr.drew := ⟨_, rfl⟩
          have HB9 := Lib.hid (show Below w.heap.size w w9 by rw [hw9]; exact bel2 HP2.out.below rfl rfl rfl rfl)
          have HO9 := Lib.hid (show OwnE w9 w.heap.size s0 out by rw [hw9]; exact HP2.out.own)
          rw [← hw9]
          clear hw9
          obtain ⟨m0, m1, m2, m3⟩ := HDY.out w9 HB9.out
          have hc0 : (w9.alloc (.cells #[.string y0, .int .i64 y1, .bool y2, .int .i64 y3] 38)).cell? ⟨w9.heap.size, 0, none⟩ = some (.string y0) := by rw [cell_of_row _ _ _ _ _ _ (heap_alloc_new _ _)]; rfl
          have hc1 : (w9.alloc (.cells #[.string y0, .int .i64 y1, .bool y2, .int .i64 y3] 38)).cell? ⟨w9.heap.size, 1, none⟩ = some (.int .i64 y1) := by rw [cell_of_row _ _ _ _ _ _ (heap_alloc_new _ _)]; rfl
          have hc2 : (w9.alloc (.cells #[.string y0, .int .i64 y1, .bool y2, .int .i64 y3] 38)).cell? ⟨w9.heap.size, 2, none⟩ = some (.bool y2) := by rw [cell_of_row _ _ _ _ _ _ (heap_alloc_new _ _)]; rfl
          have hc3 : (w9.alloc (.cells #[.string y0, .int .i64 y1, .bool y2, .int .i64 y3] 38)).cell? ⟨w9.heap.size, 3, none⟩ = some (.int .i64 y3) := by rw [cell_of_row _ _ _ _ _ _ (heap_alloc_new _ _)]; rfl
          have HOA := Lib.hid (show OwnE (w9.alloc (.cells #[.string y0, .int .i64 y1, .bool y2, .int .i64 y3] 38)) w.heap.size s0 out from World.ownsRow.alloc HO9.out _)
          have HBA := Lib.hid (show Below w.heap.size w (w9.alloc (.cells #[.string y0, .int .i64 y1, .bool y2, .int .i64 y3] 38)) from HB9.out.alloc HB9.out.size _)
          go_wp2_with (at_builtin; refine app_en rfl (.tmp 39) (.tmp 44) rfl (w9.alloc (.cells #[.string y0, .int .i64 y1, .bool y2, .int .i64 y3] 38)) w.heap.size s0 out rfl HOA.out w9.heap.size 1 ⟨y0, y1, y2, y3⟩ rfl hc0 hc1 hc2 hc3 (by omega) HBA.out.size ?_; intro vb wb ob gb; have OB := Lib.hid ob; have BB := Lib.hid (HBA.out.grown gb HBA.out.size fun k hk => (World.ownsRow.lt HOA.out k hk).1); clear ob gb)
          go_roundw
          case rel => exact ⟨k + 1, i, _, out ++ [⟨y0, y1, y2, y3⟩], by omega, by go_num, rfl, rfl, ⟨hil, OB.out, by rw [List.append_assoc, List.singleton_append, ← HJP.out]; exact HP2.out.eq, by rw [List.length_append, List.length_singleton]; omega, BB.out⟩⟩
          case measure => simp [intOf]; omega
    · have hke : k = lb.length := by omega
      subst hke
      have HE := Lib.hid (show out ++ la.drop i = joinL la lb by have h := HP.out.eq; rw [List.drop_length] at h; exact h)
      have hil := HP.out.hi
      have hol := HP.out.len
      have i0 : (0 : Int) ≤ (i : Int) := by omega
      have i1 : (i : Int) ≤ (la.length : Int) := by omega
      have i2 : (i : Int) ≤ (ca : Int) := by omega
      have HED := Lib.hid ((HR.out.below HP.out.below hB).drop hca hil)
      go_wp2_with (at_builtin; refine app_ens rfl (.tmp 46) (.tmp 49) rfl wr w.heap.size s0 out rfl HP.out.own B (la.length - i) (ca - i) _ (la.drop i) rfl HED.out (by omega) HP.out.below.size ?_; intro vb wb ob gb; have OB := Lib.hid ob; have BB := Lib.hid (HP.out.below.grown gb HP.out.below.size fun k hk => (World.ownsRow.lt HP.out.own k hk).1); clear ob gb)
      all_goals
        go_ret
        exact ⟨_, rfl, by rw [← HE.out]; exact OB.out, BB.out⟩

end Go.Proofs.Ytbckgmfopbpocaa.W
