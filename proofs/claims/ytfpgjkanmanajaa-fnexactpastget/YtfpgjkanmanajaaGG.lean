/-
  The iterator of merged: what it yields.
-/
import Derived.Test.YtfpgjkanmanajaaGF
import Derived.Test.YtfpgjkanmanajaaE4
import Derived.Test.YtfpgjkanmanajaaEQ
import Derived.RangeFuncNested
import Derived.RangeFuncCalls
import Derived.RangeFuncLeaves
import Derived.OwnWalkIn
import Derived.TacticsInMore
import Derived.LoopNIn
import Derived.LoopIn
import Derived.Deep.RegionHeld
namespace Go.Proofs.Ytfpgjkanmanajaa.W
open Go.RowKit K R
attribute [local go_sem] Oper.semAt_some

/-- the block of the row that the box B names -/
def rowAt (W : World) (B : Nat) : Option Nat :=
  match W.cell? ⟨B, 0, none⟩ with
  | some (.slice (some a) _ _) => some a.block
  | _ => none
/-- what a round of the caller keeps: of blocks of cells only the box B and the row that it names may turn; another row is a new one -/
structure KpM (B : Nat) (W W' : World) : Prop where
  below : Below B W W'
  same : ∀ (k : Nat) (cs : Array Value) (t : TypeId) (fr : Nat × Nat), W.heap[k]? = some (.cells cs t fr) → k ≠ B → rowAt W B ≠ some k → W'.heap[k]? = some (.cells cs t fr)
  row : ∀ r, rowAt W' B = some r → rowAt W B = some r ∨ W.heap.size ≤ r
  lt : (∀ r, rowAt W B = some r → r < W.heap.size) → ∀ r, rowAt W' B = some r → r < W'.heap.size
theorem KpM.refl (B : Nat) (W : World) : KpM B W W := ⟨Below.refl _ _, fun _ _ _ _ h _ _ => h, fun _ h => .inl h, fun h => h⟩
theorem lt_heap {W : World} {k : Nat} {o : Obj} (h : W.heap[k]? = some o) : k < W.heap.size := (Array.getElem?_eq_some_iff.1 h).1
theorem KpM.trans {B : Nat} {W W' W'' : World} (h : KpM B W W') (h2 : KpM B W' W'') : KpM B W W'' where
  below := h.below.trans h2.below
  same := fun k cs t fr hk hB hr => h2.same k cs t fr (h.same k cs t fr hk hB hr) hB fun e => by
    rcases h.row k e with e2 | e2
    · exact hr e2
    · have := lt_heap hk; omega
  row := fun r hr => by
    rcases h2.row r hr with e | e
    · exact h.row r e
    · exact .inr (Nat.le_trans h.below.size e)
  lt := fun hl => h2.lt (h.lt hl)
theorem KpM.of_below {B : Nat} {W W' : World} (h : Below W.heap.size W W') (hB : B < W.heap.size) : KpM B W W' := by
  have e : rowAt W' B = rowAt W B := by unfold rowAt; rw [h.cell (p := ⟨B, 0, none⟩) hB]
  exact ⟨h.mono (by omega), fun k cs t fr hk _ _ => (h.block k (lt_heap hk)).trans hk, fun r hr => .inl (by rw [← e]; exact hr), fun hl r hr => Nat.lt_of_lt_of_le (hl r (by rw [← e]; exact hr)) h.size⟩
theorem KpM.box {B b : Nat} {W W' : World} {k : ByteArray} {v : Int} {g : Bool} {t : Int} (h : KpM B W W') (hb : Box W b k v g t) (hne : b ≠ B) (hr : rowAt W B ≠ some b) : Box W' b k v g t := h.same b _ _ _ hb hne hr
/-- what has come so far, and what is to come -/
structure MSt (la lb : List En) (i k : Nat) (out : List En) : Prop where
  hi : i ≤ la.length
  eq : out ++ joinL (la.drop i) (lb.drop k) = joinL la lb
  len : out.length = i + k
theorem abide {J : List En → World → Prop} {B : Nat} (hJ : AbidesFrom B J) {s : List En} {W W' : World} (h : J s W) (hb : Below W.heap.size W W') : J s W' :=
  hJ s W W' none h ⟨hb.os, hb.tape, hb.output, hb.size, fun k hk _ => hb.block k hk⟩ (fun r e => by cases e)
theorem MSt.take {la lb : List En} {i k : Nat} {out : List En} (h : MSt la lb i k out) (hi : i < la.length) (hk : k < lb.length) (ha : R.ahead la[i] lb[k] = true) : MSt la lb (i + 1) k (out ++ [la[i]]) := by
  refine ⟨hi, ?_, by rw [List.length_append, List.length_singleton, h.len]; omega⟩
  rw [List.append_assoc, List.singleton_append, ← h.eq, List.drop_eq_getElem_cons hk, join_take hi ha]
theorem MSt.put {la lb : List En} {i k : Nat} {out : List En} (h : MSt la lb i k out) (hk : k < lb.length) (ha : ∀ hi : i < la.length, R.ahead la[i] lb[k] = false) : MSt la lb i (k + 1) (out ++ [lb[k]]) := by
  refine ⟨h.hi, ?_, by rw [List.length_append, List.length_singleton, h.len]; omega⟩
  rw [List.append_assoc, List.singleton_append, ← h.eq, List.drop_eq_getElem_cons hk, join_put ha]
/-- a step of the order -/
theorem ordV_dec (a b : En) : decide (ordV a b < 0) = R.ahead a b := by
  rw [Bool.eq_iff_iff, decide_eq_true_iff]
  exact ordV_neg a b

set_option maxHeartbeats 8000000 in
set_option maxRecDepth 100000 in
theorem mergedC (n : Nat) (hn : 1 ≤ n) (l B na ca nb cb : Nat) (A1 A2 : Option Addr) (la lb : List En) (J Jx : List En → World → Prop) (W : World) (hJ : AbidesFrom W.heap.size J)
    (hY : ∀ pre x W1, J pre W1 → pre.length < la.length + lb.length → YieldAt Fence.wide (n - 1) Try.prog l #[enV x] W1 fun e W' => (e = .returned (.bool true) ∧ J (pre ++ [x]) W' ∧ KpM B W1 W') ∨ (e = .returned (.bool false) ∧ Jx (pre ++ [x]) W'))
    (hb1 : W.heap[B + 1]? = some (.cells #[.slice A1 na ca] 23)) (hb2 : W.heap[B + 2]? = some (.cells #[.slice A2 nb cb] 23)) (hr : Ents W B A1 na la) (hr2 : Ents W B A2 nb lb) (hca : na ≤ ca) (h1 : na ≤ 400000) (h2 : nb ≤ 400000) (hrow : rowAt W B = none) (h0 : J [] W) :
    Calls Try.prog 93 #[.func (.yield l) #[] #[], .pointer (some ⟨B + 2, 0, none⟩), .pointer (some ⟨B + 1, 0, none⟩)] W fun e W' => (∃ v, e = .returned v) ∧ ((∃ xs, xs = joinL la lb ∧ J xs W') ∨ (∃ pre, Jx pre W')) := by
  have hlen := hr.len
  subst hlen
  have hlen := hr2.len
  subst hlen
  have hBW : B + 2 < W.heap.size := (Array.getElem?_eq_some_iff.1 hb2).1
  have HJ := Lib.hid hJ
  have HY := Lib.hid hY
  have HR := Lib.hid hr
  have HR2 := Lib.hid hr2
  have HX1 := Lib.hid (show ∀ W', KpM B W W' → W'.cell? ⟨B + 1, 0, none⟩ = some (.slice A1 la.length ca) from fun W' h => by rw [cell_of_row _ _ _ _ _ _ (h.same (B + 1) _ _ _ hb1 (by omega) (by rw [hrow]; intro e; cases e))]; rfl)
  have HRL := Lib.hid (show ∀ W', KpM B W W' → ∀ r, rowAt W' B = some r → r < W'.heap.size from fun W' h => h.lt (by rw [hrow]; intro r e; cases e))
  have HJ0 := Lib.hid h0
  have bc2 : W.cell? ⟨B + 2, 0, none⟩ = some (.slice A2 lb.length cb) := by rw [cell_of_row _ _ _ _ _ _ hb2]; rfl
  clear hJ hY hr hr2 hb1 hb2 h0 hrow
  go_enter Try.func93, Try.ntmps93
  go_wp2_with fail
  go_loopw [4, 11] (fun iv kv wr => ∃ (k i : Nat) (out : List En), k ≤ lb.length ∧ kv = .int .i64 (k : Nat) ∧ iv = .int .i64 (i : Nat) ∧ MSt la lb i k out ∧ J out wr ∧ KpM B W wr) (fun _ kv _ => lb.length - (intOf kv).toNat)
  case atStart => exact ⟨0, 0, [], Nat.zero_le _, rfl, rfl, ⟨Nat.zero_le _, rfl, rfl⟩, HJ0.out, KpM.refl _ _⟩
  case round =>
    obtain ⟨k, i, out, hk, rfl, rfl, hst, hj, hkp⟩ := hrel
    have HST := Lib.hid hst
    have HJO := Lib.hid hj
    have HKP := Lib.hid hkp
    clear hst hj hkp bc2
    by_cases hlt : k < lb.length
    · obtain ⟨yb, yo, hA2, hyb, yc0, yc1, yc2, yc3⟩ := (HR2.out.below HKP.out.below (Nat.le_refl _)).cell k hlt
      subst hA2
      obtain ⟨y0, hy0⟩ : ∃ z, z = lb[k].key := ⟨_, rfl⟩
      rw [← hy0] at yc0
      obtain ⟨y1, hy1⟩ : ∃ z, z = lb[k].val := ⟨_, rfl⟩
      rw [← hy1] at yc1
      obtain ⟨y2, hy2⟩ : ∃ z, z = lb[k].gone := ⟨_, rfl⟩
      rw [← hy2] at yc2
      obtain ⟨y3, hy3⟩ : ∃ z, z = lb[k].time := ⟨_, rfl⟩
      rw [← hy3] at yc3
      have HEY := Lib.hid (show lb[k] = ⟨y0, y1, y2, y3⟩ by rw [hy0, hy1, hy2, hy3])
      have z0 : (0 : Int) ≤ (k : Int) := by omega
      have z1 : (k : Int) < (lb.length : Int) := by omega
      obtain ⟨wo, hwo⟩ : ∃ wo, wo = wr := ⟨_, rfl⟩
      subst hwo
      obtain ⟨W1, hW1⟩ : ∃ W1, W1 = wo.alloc (.cells #[.string y0, .int .i64 y1, .bool y2, .int .i64 y3] 33) := ⟨_, rfl⟩
      have hWo : B + 2 < wo.heap.size := Nat.lt_of_lt_of_le hBW HKP.out.below.size
      have bb : Below wo.heap.size wo W1 := by rw [hW1]; exact new_box wo y0 y1 y2 y3
      have hWs : wo.heap.size < W1.heap.size := by rw [hW1]; simp
      have HK1 := Lib.hid (HKP.out.trans (KpM.of_below bb (by omega)))
      have HBX := Lib.hid (show ∀ W', KpM B W1 W' → Box W' wo.heap.size y0 y1 y2 y3 from fun W' h => h.box (by rw [hW1]; exact Box.new _ _ _ _ _) (by omega) (fun e => by
        have e2 : rowAt W1 B = rowAt wo B := by unfold rowAt; rw [bb.cell (p := ⟨B, 0, none⟩) (by show B < _; omega)]
        rw [e2] at e
        have := HRL.out wo HKP.out _ e
        omega))
      have HJ1 := Lib.hid (abide HJ.out HJO.out bb)
      have HW1 := Lib.hid hW1
      clear hW1 bb hy0 hy1 hy2 hy3
      go_wp2_with fail
      go_loopw [4] (fun iv wr => ∃ (i : Nat) (out : List En), iv = .int .i64 (i : Nat) ∧ MSt la lb i k out ∧ J out wr ∧ KpM B W1 wr) (fun iv _ => la.length - (intOf iv).toNat)
      case atStart => exact ⟨i, out, rfl, HST.out, by rw [← HW1.out]; exact HJ1.out, by rw [← HW1.out]; exact KpM.refl _ _⟩
      case round =>
        clear HST HJ1 HJO
        obtain ⟨i, out, rfl, hst, hj, hkp⟩ := hrel
        have hil := hst.hi
        have HST := Lib.hid hst
        have HJO := Lib.hid hj
        have HKQ := Lib.hid (HK1.out.trans hkp)
        have HK2 := Lib.hid hkp
        have bc1 := HX1.out wr HKQ.out
        have hBr : B + 2 < wr.heap.size := Nat.lt_of_lt_of_le hBW HKQ.out.below.size
        have hor : wo.heap.size < wr.heap.size := Nat.lt_of_lt_of_le hWs hkp.below.size
        obtain ⟨e0, e1, e2, e3⟩ := (HBX.out wr hkp).cells
        clear hst hj hkp
        by_cases hia : i < la.length
        · obtain ⟨xb, xo, hA1, hxb, xc0, xc1, xc2, xc3⟩ := (HR.out.below HKQ.out.below (Nat.le_refl _)).cell i hia
          subst hA1
          obtain ⟨x0, hx0⟩ : ∃ z, z = la[i].key := ⟨_, rfl⟩
          rw [← hx0] at xc0
          obtain ⟨x1, hx1⟩ : ∃ z, z = la[i].val := ⟨_, rfl⟩
          rw [← hx1] at xc1
          obtain ⟨x2, hx2⟩ : ∃ z, z = la[i].gone := ⟨_, rfl⟩
          rw [← hx2] at xc2
          obtain ⟨x3, hx3⟩ : ∃ z, z = la[i].time := ⟨_, rfl⟩
          rw [← hx3] at xc3
          have HEX := Lib.hid (show la[i] = ⟨x0, x1, x2, x3⟩ by rw [hx0, hx1, hx2, hx3])
          have i0 : (0 : Int) ≤ (i : Int) := by omega
          have i1 : (i : Int) < (la.length : Int) := by omega
          have hxbw : xb < wr.heap.size := by omega
          have HSS := Lib.hid (show ∀ W', Below wr.heap.size wr W' → (fun W' : World => W'.cell? ⟨B + 1, 0, none⟩ = some (.slice (some ⟨xb, xo, none⟩) la.length ca) ∧ W'.cell? ⟨xb, xo + i * 4, none⟩ = some (.string x0) ∧ W'.cell? ⟨xb, xo + i * 4 + 1, none⟩ = some (.int .i64 x1) ∧ W'.cell? ⟨xb, xo + i * 4 + 2, none⟩ = some (.bool x2) ∧ W'.cell? ⟨xb, xo + i * 4 + 3, none⟩ = some (.int .i64 x3) ∧ W'.cell? ⟨wo.heap.size, 0, none⟩ = some (.string y0) ∧ W'.cell? ⟨wo.heap.size, 1, none⟩ = some (.int .i64 y1) ∧ W'.cell? ⟨wo.heap.size, 2, none⟩ = some (.bool y2) ∧ W'.cell? ⟨wo.heap.size, 3, none⟩ = some (.int .i64 y3)) W' from fun W' h => ⟨(h.cell (p := ⟨B + 1, 0, none⟩) (by show B + 1 < _; omega)).trans bc1, (h.cell (p := ⟨xb, xo + i * 4, none⟩) hxbw).trans xc0, (h.cell (p := ⟨xb, xo + i * 4 + 1, none⟩) hxbw).trans xc1, (h.cell (p := ⟨xb, xo + i * 4 + 2, none⟩) hxbw).trans xc2, (h.cell (p := ⟨xb, xo + i * 4 + 3, none⟩) hxbw).trans xc3, (h.cell (p := ⟨wo.heap.size, 0, none⟩) hor).trans e0, (h.cell (p := ⟨wo.heap.size, 1, none⟩) hor).trans e1, (h.cell (p := ⟨wo.heap.size, 2, none⟩) hor).trans e2, (h.cell (p := ⟨wo.heap.size, 3, none⟩) hor).trans e3⟩)
          have HOR := Lib.hid (show ∀ W', Below wr.heap.size wr W' → Calls Try.prog 63 #[.agg #[.string x0, .int .i64 x1, .bool x2, .int .i64 x3], .agg #[.string y0, .int .i64 y1, .bool y2, .int .i64 y3]] W' fun e w' => e = .returned (.int .i64 (ordV ⟨x0, x1, x2, x3⟩ ⟨y0, y1, y2, y3⟩)) ∧ Below wr.heap.size wr w' from fun W' h => (orderI x0 y0 x1 y1 x2 y2 x3 y3 W').mono fun _ _ ⟨he, hb⟩ => ⟨he, h.trans (hb.mono h.size)⟩)
          obtain ⟨ov, hov⟩ : ∃ ov, ov = ordV ⟨x0, x1, x2, x3⟩ ⟨y0, y1, y2, y3⟩ := ⟨_, rfl⟩
          rw [← hov] at HOR
          have HAH := Lib.hid (show decide (ov < 0) = R.ahead ⟨x0, x1, x2, x3⟩ ⟨y0, y1, y2, y3⟩ by rw [hov]; exact ordV_dec _ _)
          clear hov hx0 hx1 hx2 hx3 e0 e1 e2 e3 xc0 xc1 xc2 xc3
          by_cases hov0 : ov < 0
          · have ho2 : decide (ov < 0) = true := by simpa using hov0
            go_wp2_with fail
            refine wp_region_held_drew (S := (fun W' : World => W'.cell? ⟨B + 1, 0, none⟩ = some (.slice (some ⟨xb, xo, none⟩) la.length ca) ∧ W'.cell? ⟨xb, xo + i * 4, none⟩ = some (.string x0) ∧ W'.cell? ⟨xb, xo + i * 4 + 1, none⟩ = some (.int .i64 x1) ∧ W'.cell? ⟨xb, xo + i * 4 + 2, none⟩ = some (.bool x2) ∧ W'.cell? ⟨xb, xo + i * 4 + 3, none⟩ = some (.int .i64 x3) ∧ W'.cell? ⟨wo.heap.size, 0, none⟩ = some (.string y0) ∧ W'.cell? ⟨wo.heap.size, 1, none⟩ = some (.int .i64 y1) ∧ W'.cell? ⟨wo.heap.size, 2, none⟩ = some (.bool y2) ∧ W'.cell? ⟨wo.heap.size, 3, none⟩ = some (.int .i64 y3))) (by kernel_rfl) (HSS.out _ (by first | exact HB9.out | exact bel2 (Below.refl wr.heap.size wr) (by rfl) (by rfl) (by rfl) (by rfl))) (fun hHeld => ?_)
            refine wpAnyH_take (i := 0) (oi := { dst := Option.some 15, op := Go.Op.move (Go.Operand.tmp 4), type := 3, pos := "l11_run.go:135", after := #[], guard := Option.none }) (v := ?v18) rfl (by kernel_rfl) (by kernel_rfl) (by kernel_rfl) (fun _ _ _ h => h) (Or.inl ⟨by rfl, ?hy18⟩) (by assumption) ?rest18
            case hy18 =>
              intro w9 hSw
              clear hSw
              go_simp
              first | done | with_reducible rfl
            (try simp only [Act.put]); (try simp only [List.setIfInBounds_toArray]); (try simp only [List.set_cons_succ]); (try simp only [List.set_cons_zero])
            refine wpAnyH_take (i := 1) (oi := { dst := Option.some 16, op := Go.Op.load 23 (Go.Operand.tmp 2), type := 23, pos := "l11_run.go:135", after := #[], guard := Option.none }) (v := ?v19) rfl (by kernel_rfl) (by kernel_rfl) (by kernel_rfl) (fun _ _ _ h => h) (Or.inl ⟨by rfl, ?hy19⟩) (by assumption) ?rest19
            case hy19 =>
              intro w9 hSw
              obtain ⟨f0, f1, f2, f3, f4, f5, f6, f7, f8⟩ := hSw
              go_simp
              first | done | with_reducible rfl
            (try simp only [Act.put]); (try simp only [List.setIfInBounds_toArray]); (try simp only [List.set_cons_succ]); (try simp only [List.set_cons_zero])
            refine wpAnyH_take (i := 2) (oi := { dst := Option.some 17, op := Go.Op.call { callee := Go.Callee.builtin Go.Builtin.len, args := #[Go.Operand.tmp 16], argTypes := #[23] }, type := 3, pos := "l11_run.go:135", after := #[{ on := 1, ground := Go.Ground.data }], guard := Option.none }) (v := ?v20) rfl (by kernel_rfl) (by kernel_rfl) (by kernel_rfl) (fun _ _ _ h => h) (Or.inl ⟨by rfl, ?hy20⟩) (by assumption) ?rest20
            case hy20 =>
              intro w9 hSw
              clear hSw
              go_simp
              first | done | with_reducible rfl
            (try simp only [Act.put]); (try simp only [List.setIfInBounds_toArray]); (try simp only [List.set_cons_succ]); (try simp only [List.set_cons_zero])
            refine wpAnyH_take (i := 3) (oi := { dst := Option.some 18, op := Go.Op.binOp Go.BinOp.lss 3 (Go.Operand.tmp 15) (Go.Operand.tmp 17) 3, type := 4, pos := "l11_run.go:135", after := #[{ on := 0, ground := Go.Ground.data }, { on := 2, ground := Go.Ground.data }], guard := Option.none }) (v := ?v21) rfl (by kernel_rfl) (by kernel_rfl) (by kernel_rfl) (fun _ _ _ h => h) (Or.inl ⟨by rfl, ?hy21⟩) (by assumption) ?rest21
            case hy21 =>
              intro w9 hSw
              clear hSw
              go_simp
              first | done | with_reducible rfl
            (try simp only [Act.put]); (try simp only [List.setIfInBounds_toArray]); (try simp only [List.set_cons_succ]); (try simp only [List.set_cons_zero])
            refine wpAnyH_take (i := 4) (oi := { dst := Option.some 19, op := Go.Op.move (Go.Operand.tmp 18), type := 4, pos := "l11_run.go:135", after := #[{ on := 3, ground := Go.Ground.data }], guard := Option.none }) (v := ?v22) rfl (by kernel_rfl) (by kernel_rfl) (by kernel_rfl) (fun _ _ _ h => h) (Or.inl ⟨by rfl, ?hy22⟩) (by assumption) ?rest22
            case hy22 =>
              intro w9 hSw
              clear hSw
              go_simp
              first | done | with_reducible rfl
            (try simp only [Act.put]); (try simp only [List.setIfInBounds_toArray]); (try simp only [List.set_cons_succ]); (try simp only [List.set_cons_zero])
            refine wpAnyH_take (i := 5) (oi := { dst := Option.some 20, op := Go.Op.load 23 (Go.Operand.tmp 2), type := 23, pos := "l11_run.go:135", after := #[{ on := 4, ground := Go.Ground.guard }], guard := Option.some (4, Bool.true) }) (v := ?v23) rfl (by kernel_rfl) (by kernel_rfl) (by kernel_rfl) (fun _ _ _ h => h) (Or.inl ⟨by rfl, ?hy23⟩) (by assumption) ?rest23
            case hy23 =>
              intro w9 hSw
              obtain ⟨f0, f1, f2, f3, f4, f5, f6, f7, f8⟩ := hSw
              go_simp
              first | done | with_reducible rfl
            (try simp only [Act.put]); (try simp only [List.setIfInBounds_toArray]); (try simp only [List.set_cons_succ]); (try simp only [List.set_cons_zero])
            refine wpAnyH_take (i := 6) (oi := { dst := Option.some 21, op := Go.Op.move (Go.Operand.tmp 4), type := 3, pos := "l11_run.go:135", after := #[{ on := 4, ground := Go.Ground.guard }], guard := Option.some (4, Bool.true) }) (v := ?v24) rfl (by kernel_rfl) (by kernel_rfl) (by kernel_rfl) (fun _ _ _ h => h) (Or.inl ⟨by rfl, ?hy24⟩) (by assumption) ?rest24
            case hy24 =>
              intro w9 hSw
              clear hSw
              go_simp
              first | done | with_reducible rfl
            (try simp only [Act.put]); (try simp only [List.setIfInBounds_toArray]); (try simp only [List.set_cons_succ]); (try simp only [List.set_cons_zero])
            refine wpAnyH_take (i := 7) (oi := { dst := Option.some 22, op := Go.Op.indexAddr 23 (Go.Operand.tmp 20) (Go.Operand.tmp 21), type := 0, pos := "l11_run.go:135", after := #[{ on := 5, ground := Go.Ground.data }, { on := 6, ground := Go.Ground.data }, { on := 4, ground := Go.Ground.guard }], guard := Option.some (4, Bool.true) }) (v := ?v25) rfl (by kernel_rfl) (by kernel_rfl) (by kernel_rfl) (fun _ _ _ h => h) (Or.inl ⟨by rfl, ?hy25⟩) (by assumption) ?rest25
            case hy25 =>
              intro w9 hSw
              clear hSw
              go_simp
              first | done | with_reducible rfl
            (try simp only [Act.put]); (try simp only [List.setIfInBounds_toArray]); (try simp only [List.set_cons_succ]); (try simp only [List.set_cons_zero])
            refine wpAnyH_take (i := 8) (oi := { dst := Option.some 23, op := Go.Op.load 33 (Go.Operand.tmp 22), type := 33, pos := "l11_run.go:135", after := #[{ on := 7, ground := Go.Ground.data }, { on := 4, ground := Go.Ground.guard }], guard := Option.some (4, Bool.true) }) (v := ?v26) rfl (by kernel_rfl) (by kernel_rfl) (by kernel_rfl) (fun _ _ _ h => h) (Or.inl ⟨by rfl, ?hy26⟩) (by assumption) ?rest26
            case hy26 =>
              intro w9 hSw
              obtain ⟨f0, f1, f2, f3, f4, f5, f6, f7, f8⟩ := hSw
              go_simp
              first | done | with_reducible rfl
            (try simp only [Act.put]); (try simp only [List.setIfInBounds_toArray]); (try simp only [List.set_cons_succ]); (try simp only [List.set_cons_zero])
            refine wpAnyH_take (i := 9) (oi := { dst := Option.some 24, op := Go.Op.load 33 (Go.Operand.tmp 6), type := 33, pos := "l11_run.go:135", after := #[{ on := 4, ground := Go.Ground.guard }], guard := Option.some (4, Bool.true) }) (v := ?v27) rfl (by kernel_rfl) (by kernel_rfl) (by kernel_rfl) (fun _ _ _ h => h) (Or.inl ⟨by rfl, ?hy27⟩) (by assumption) ?rest27
            case hy27 =>
              intro w9 hSw
              obtain ⟨f0, f1, f2, f3, f4, f5, f6, f7, f8⟩ := hSw
              go_simp
              first | done | with_reducible rfl
            (try simp only [Act.put]); (try simp only [List.setIfInBounds_toArray]); (try simp only [List.set_cons_succ]); (try simp only [List.set_cons_zero])
            refine wpAnyH_ready (rs := [10]) (by kernel_rfl) (by simp) ?_
            refine AllReadyH.cons (o := { dst := Option.some 25, op := Go.Op.call { callee := Go.Callee.value (Go.Operand.func 63), args := #[Go.Operand.tmp 23, Go.Operand.tmp 24], argTypes := #[33, 33] }, type := 3, pos := "l11_run.go:135", after := #[{ on := 8, ground := Go.Ground.data }, { on := 9, ground := Go.Ground.data }, { on := 4, ground := Go.Ground.chain }, { on := 4, ground := Go.Ground.guard }], guard := Option.some (4, Bool.true) }) rfl (fun K hK => ?_) AllReadyH.nil
            go_simp
            (go_at_call 63; refine Calls.mono (HOR.out _ (by first | exact HB9.out | exact bel2 (Below.refl wr.heap.size wr) (by rfl) (by rfl) (by rfl) (by rfl))) ?_; rintro e w9 ⟨rfl, hb9⟩; have HB9 := Lib.hid hb9; clear hb9)
            (try go_wp2_with fail)
            refine hK.out _ _ (HSS.out _ (by first | exact HB9.out | exact bel2 (Below.refl wr.heap.size wr) (by rfl) (by rfl) (by rfl) (by rfl))) (fun hHeld => ?_)
            clear hK K
            (try simp only [Act.put]); (try simp only [List.setIfInBounds_toArray]); (try simp only [List.set_cons_succ]); (try simp only [List.set_cons_zero])
            refine wpAnyH_take (i := 11) (oi := { dst := Option.some 26, op := Go.Op.binOp Go.BinOp.lss 3 (Go.Operand.tmp 25) (Go.Operand.const (Go.Value.int Go.IntKind.i64 0)) 3, type := 4, pos := "l11_run.go:135", after := #[{ on := 10, ground := Go.Ground.data }, { on := 4, ground := Go.Ground.guard }], guard := Option.some (4, Bool.true) }) (v := ?v28) rfl (by kernel_rfl) (by kernel_rfl) (by kernel_rfl) (fun _ _ _ h => h) (Or.inl ⟨by rfl, ?hy28⟩) (by assumption) ?rest28
            case hy28 =>
              intro w9 hSw
              clear hSw
              go_simp
              first | done | with_reducible rfl
            (try simp only [Act.put]); (try simp only [List.setIfInBounds_toArray]); (try simp only [List.set_cons_succ]); (try simp only [List.set_cons_zero])
            refine wpAnyH_take (i := 12) (oi := { dst := Option.some 27, op := Go.Op.pick (Go.Operand.tmp 19) (Go.Operand.tmp 26) (Go.Operand.const (Go.Value.bool Bool.false)), type := 4, pos := "l11_run.go:135", after := #[{ on := 4, ground := Go.Ground.data }, { on := 11, ground := Go.Ground.data }], guard := Option.none }) (v := ?v29) rfl (by kernel_rfl) (by kernel_rfl) (by kernel_rfl) (fun _ _ _ h => h) (Or.inl ⟨by rfl, ?hy29⟩) (by assumption) ?rest29
            case hy29 =>
              intro w9 hSw
              clear hSw
              go_simp
              first | done | with_reducible rfl
            (try simp only [Act.put]); (try simp only [List.setIfInBounds_toArray]); (try simp only [List.set_cons_succ]); (try simp only [List.set_cons_zero])
            refine wpAnyH_done (by kernel_rfl) ?_ _
            obtain ⟨bc9, xc0, xc1, xc2, xc3, -, -, -, -⟩ := HSS.out w9 HB9.out
            have HK9 := Lib.hid (HK2.out.trans (KpM.of_below HB9.out (by omega)))
            have hyt : YieldAt Fence.wide (n - 1) Try.prog l #[.agg #[.string x0, .int .i64 x1, .bool x2, .int .i64 x3]] w9 _ := HY.out out ⟨x0, x1, x2, x3⟩ w9 (abide HJ.out HJO.out HB9.out) (by have h9 := HST.out.len; omega)
            obtain ⟨fn, tmps, assign, body, hy, hR⟩ := hyt
            have HS9 := Lib.hid (show MSt la lb (i + 1) k (out ++ [⟨x0, x1, x2, x3⟩]) by rw [← HEX.out]; exact HST.out.take hia hlt (by rw [HEX.out, HEY.out, ← HAH.out]; exact ho2))
            go_upto_region 6 with fail
            refine (wpIn_wide (n := n)).1 ?_
            gi_wp2
            refine hR.mono ?_
            rintro e W3 (⟨rfl, hJ3, hk3⟩ | ⟨rfl, hJx3⟩)
            · have HJ3 := Lib.hid hJ3
              have HK3 := Lib.hid (HK9.out.trans hk3)
              clear hJ3 hk3
              gi_wp2
              go_wp2
              go_roundw
              case rel => exact ⟨i + 1, _, by go_num, HS9.out, HJ3.out, HK3.out⟩
              case measure => simp [intOf]; omega
            · have HJX := Lib.hid hJx3
              clear hJx3
              gi_wp2
              go_wp2
              (try simp only [Exit.inBlock, Exit.then])
              refine bodyPost_ret (results_none rfl _ _ _) rfl ?_
              exact ⟨⟨_, rfl⟩, .inr ⟨_, HJX.out⟩⟩
          · have ho2 : decide (ov < 0) = false := by simpa using hov0
            have HSP := Lib.hid (show MSt la lb i (k + 1) (out ++ [⟨y0, y1, y2, y3⟩]) by rw [← HEY.out]; exact HST.out.put hlt (fun _ => by rw [HEX.out, HEY.out, ← HAH.out]; exact ho2))
            go_wp2_with fail
            refine wp_region_held_drew (S := (fun W' : World => W'.cell? ⟨B + 1, 0, none⟩ = some (.slice (some ⟨xb, xo, none⟩) la.length ca) ∧ W'.cell? ⟨xb, xo + i * 4, none⟩ = some (.string x0) ∧ W'.cell? ⟨xb, xo + i * 4 + 1, none⟩ = some (.int .i64 x1) ∧ W'.cell? ⟨xb, xo + i * 4 + 2, none⟩ = some (.bool x2) ∧ W'.cell? ⟨xb, xo + i * 4 + 3, none⟩ = some (.int .i64 x3) ∧ W'.cell? ⟨wo.heap.size, 0, none⟩ = some (.string y0) ∧ W'.cell? ⟨wo.heap.size, 1, none⟩ = some (.int .i64 y1) ∧ W'.cell? ⟨wo.heap.size, 2, none⟩ = some (.bool y2) ∧ W'.cell? ⟨wo.heap.size, 3, none⟩ = some (.int .i64 y3))) (by kernel_rfl) (HSS.out _ (by first | exact HB9.out | exact bel2 (Below.refl wr.heap.size wr) (by rfl) (by rfl) (by rfl) (by rfl))) (fun hHeld => ?_)
            refine wpAnyH_take (i := 0) (oi := { dst := Option.some 15, op := Go.Op.move (Go.Operand.tmp 4), type := 3, pos := "l11_run.go:135", after := #[], guard := Option.none }) (v := ?v1) rfl (by kernel_rfl) (by kernel_rfl) (by kernel_rfl) (fun _ _ _ h => h) (Or.inl ⟨by rfl, ?hy1⟩) (by assumption) ?rest1
            case hy1 =>
              intro w9 hSw
              clear hSw
              go_simp
              first | done | with_reducible rfl
            (try simp only [Act.put]); (try simp only [List.setIfInBounds_toArray]); (try simp only [List.set_cons_succ]); (try simp only [List.set_cons_zero])
            refine wpAnyH_take (i := 1) (oi := { dst := Option.some 16, op := Go.Op.load 23 (Go.Operand.tmp 2), type := 23, pos := "l11_run.go:135", after := #[], guard := Option.none }) (v := ?v2) rfl (by kernel_rfl) (by kernel_rfl) (by kernel_rfl) (fun _ _ _ h => h) (Or.inl ⟨by rfl, ?hy2⟩) (by assumption) ?rest2
            case hy2 =>
              intro w9 hSw
              obtain ⟨f0, f1, f2, f3, f4, f5, f6, f7, f8⟩ := hSw
              go_simp
              first | done | with_reducible rfl
            (try simp only [Act.put]); (try simp only [List.setIfInBounds_toArray]); (try simp only [List.set_cons_succ]); (try simp only [List.set_cons_zero])
            refine wpAnyH_take (i := 2) (oi := { dst := Option.some 17, op := Go.Op.call { callee := Go.Callee.builtin Go.Builtin.len, args := #[Go.Operand.tmp 16], argTypes := #[23] }, type := 3, pos := "l11_run.go:135", after := #[{ on := 1, ground := Go.Ground.data }], guard := Option.none }) (v := ?v3) rfl (by kernel_rfl) (by kernel_rfl) (by kernel_rfl) (fun _ _ _ h => h) (Or.inl ⟨by rfl, ?hy3⟩) (by assumption) ?rest3
            case hy3 =>
              intro w9 hSw
              clear hSw
              go_simp
              first | done | with_reducible rfl
            (try simp only [Act.put]); (try simp only [List.setIfInBounds_toArray]); (try simp only [List.set_cons_succ]); (try simp only [List.set_cons_zero])
            refine wpAnyH_take (i := 3) (oi := { dst := Option.some 18, op := Go.Op.binOp Go.BinOp.lss 3 (Go.Operand.tmp 15) (Go.Operand.tmp 17) 3, type := 4, pos := "l11_run.go:135", after := #[{ on := 0, ground := Go.Ground.data }, { on := 2, ground := Go.Ground.data }], guard := Option.none }) (v := ?v4) rfl (by kernel_rfl) (by kernel_rfl) (by kernel_rfl) (fun _ _ _ h => h) (Or.inl ⟨by rfl, ?hy4⟩) (by assumption) ?rest4
            case hy4 =>
              intro w9 hSw
              clear hSw
              go_simp
              first | done | with_reducible rfl
            (try simp only [Act.put]); (try simp only [List.setIfInBounds_toArray]); (try simp only [List.set_cons_succ]); (try simp only [List.set_cons_zero])
            refine wpAnyH_take (i := 4) (oi := { dst := Option.some 19, op := Go.Op.move (Go.Operand.tmp 18), type := 4, pos := "l11_run.go:135", after := #[{ on := 3, ground := Go.Ground.data }], guard := Option.none }) (v := ?v5) rfl (by kernel_rfl) (by kernel_rfl) (by kernel_rfl) (fun _ _ _ h => h) (Or.inl ⟨by rfl, ?hy5⟩) (by assumption) ?rest5
            case hy5 =>
              intro w9 hSw
              clear hSw
              go_simp
              first | done | with_reducible rfl
            (try simp only [Act.put]); (try simp only [List.setIfInBounds_toArray]); (try simp only [List.set_cons_succ]); (try simp only [List.set_cons_zero])
            refine wpAnyH_take (i := 5) (oi := { dst := Option.some 20, op := Go.Op.load 23 (Go.Operand.tmp 2), type := 23, pos := "l11_run.go:135", after := #[{ on := 4, ground := Go.Ground.guard }], guard := Option.some (4, Bool.true) }) (v := ?v6) rfl (by kernel_rfl) (by kernel_rfl) (by kernel_rfl) (fun _ _ _ h => h) (Or.inl ⟨by rfl, ?hy6⟩) (by assumption) ?rest6
            case hy6 =>
              intro w9 hSw
              obtain ⟨f0, f1, f2, f3, f4, f5, f6, f7, f8⟩ := hSw
              go_simp
              first | done | with_reducible rfl
            (try simp only [Act.put]); (try simp only [List.setIfInBounds_toArray]); (try simp only [List.set_cons_succ]); (try simp only [List.set_cons_zero])
            refine wpAnyH_take (i := 6) (oi := { dst := Option.some 21, op := Go.Op.move (Go.Operand.tmp 4), type := 3, pos := "l11_run.go:135", after := #[{ on := 4, ground := Go.Ground.guard }], guard := Option.some (4, Bool.true) }) (v := ?v7) rfl (by kernel_rfl) (by kernel_rfl) (by kernel_rfl) (fun _ _ _ h => h) (Or.inl ⟨by rfl, ?hy7⟩) (by assumption) ?rest7
            case hy7 =>
              intro w9 hSw
              clear hSw
              go_simp
              first | done | with_reducible rfl
            (try simp only [Act.put]); (try simp only [List.setIfInBounds_toArray]); (try simp only [List.set_cons_succ]); (try simp only [List.set_cons_zero])
            refine wpAnyH_take (i := 7) (oi := { dst := Option.some 22, op := Go.Op.indexAddr 23 (Go.Operand.tmp 20) (Go.Operand.tmp 21), type := 0, pos := "l11_run.go:135", after := #[{ on := 5, ground := Go.Ground.data }, { on := 6, ground := Go.Ground.data }, { on := 4, ground := Go.Ground.guard }], guard := Option.some (4, Bool.true) }) (v := ?v8) rfl (by kernel_rfl) (by kernel_rfl) (by kernel_rfl) (fun _ _ _ h => h) (Or.inl ⟨by rfl, ?hy8⟩) (by assumption) ?rest8
            case hy8 =>
              intro w9 hSw
              clear hSw
              go_simp
              first | done | with_reducible rfl
            (try simp only [Act.put]); (try simp only [List.setIfInBounds_toArray]); (try simp only [List.set_cons_succ]); (try simp only [List.set_cons_zero])
            refine wpAnyH_take (i := 8) (oi := { dst := Option.some 23, op := Go.Op.load 33 (Go.Operand.tmp 22), type := 33, pos := "l11_run.go:135", after := #[{ on := 7, ground := Go.Ground.data }, { on := 4, ground := Go.Ground.guard }], guard := Option.some (4, Bool.true) }) (v := ?v9) rfl (by kernel_rfl) (by kernel_rfl) (by kernel_rfl) (fun _ _ _ h => h) (Or.inl ⟨by rfl, ?hy9⟩) (by assumption) ?rest9
            case hy9 =>
              intro w9 hSw
              obtain ⟨f0, f1, f2, f3, f4, f5, f6, f7, f8⟩ := hSw
              go_simp
              first | done | with_reducible rfl
            (try simp only [Act.put]); (try simp only [List.setIfInBounds_toArray]); (try simp only [List.set_cons_succ]); (try simp only [List.set_cons_zero])
            refine wpAnyH_take (i := 9) (oi := { dst := Option.some 24, op := Go.Op.load 33 (Go.Operand.tmp 6), type := 33, pos := "l11_run.go:135", after := #[{ on := 4, ground := Go.Ground.guard }], guard := Option.some (4, Bool.true) }) (v := ?v10) rfl (by kernel_rfl) (by kernel_rfl) (by kernel_rfl) (fun _ _ _ h => h) (Or.inl ⟨by rfl, ?hy10⟩) (by assumption) ?rest10
            case hy10 =>
              intro w9 hSw
              obtain ⟨f0, f1, f2, f3, f4, f5, f6, f7, f8⟩ := hSw
              go_simp
              first | done | with_reducible rfl
            (try simp only [Act.put]); (try simp only [List.setIfInBounds_toArray]); (try simp only [List.set_cons_succ]); (try simp only [List.set_cons_zero])
            refine wpAnyH_ready (rs := [10]) (by kernel_rfl) (by simp) ?_
            refine AllReadyH.cons (o := { dst := Option.some 25, op := Go.Op.call { callee := Go.Callee.value (Go.Operand.func 63), args := #[Go.Operand.tmp 23, Go.Operand.tmp 24], argTypes := #[33, 33] }, type := 3, pos := "l11_run.go:135", after := #[{ on := 8, ground := Go.Ground.data }, { on := 9, ground := Go.Ground.data }, { on := 4, ground := Go.Ground.chain }, { on := 4, ground := Go.Ground.guard }], guard := Option.some (4, Bool.true) }) rfl (fun K hK => ?_) AllReadyH.nil
            go_simp
            (go_at_call 63; refine Calls.mono (HOR.out _ (by first | exact HB9.out | exact bel2 (Below.refl wr.heap.size wr) (by rfl) (by rfl) (by rfl) (by rfl))) ?_; rintro e w9 ⟨rfl, hb9⟩; have HB9 := Lib.hid hb9; clear hb9)
            (try go_wp2_with fail)
            refine hK.out _ _ (HSS.out _ (by first | exact HB9.out | exact bel2 (Below.refl wr.heap.size wr) (by rfl) (by rfl) (by rfl) (by rfl))) (fun hHeld => ?_)
            clear hK K
            (try simp only [Act.put]); (try simp only [List.setIfInBounds_toArray]); (try simp only [List.set_cons_succ]); (try simp only [List.set_cons_zero])
            refine wpAnyH_take (i := 11) (oi := { dst := Option.some 26, op := Go.Op.binOp Go.BinOp.lss 3 (Go.Operand.tmp 25) (Go.Operand.const (Go.Value.int Go.IntKind.i64 0)) 3, type := 4, pos := "l11_run.go:135", after := #[{ on := 10, ground := Go.Ground.data }, { on := 4, ground := Go.Ground.guard }], guard := Option.some (4, Bool.true) }) (v := ?v11) rfl (by kernel_rfl) (by kernel_rfl) (by kernel_rfl) (fun _ _ _ h => h) (Or.inl ⟨by rfl, ?hy11⟩) (by assumption) ?rest11
            case hy11 =>
              intro w9 hSw
              clear hSw
              go_simp
              first | done | with_reducible rfl
            (try simp only [Act.put]); (try simp only [List.setIfInBounds_toArray]); (try simp only [List.set_cons_succ]); (try simp only [List.set_cons_zero])
            refine wpAnyH_take (i := 12) (oi := { dst := Option.some 27, op := Go.Op.pick (Go.Operand.tmp 19) (Go.Operand.tmp 26) (Go.Operand.const (Go.Value.bool Bool.false)), type := 4, pos := "l11_run.go:135", after := #[{ on := 4, ground := Go.Ground.data }, { on := 11, ground := Go.Ground.data }], guard := Option.none }) (v := ?v12) rfl (by kernel_rfl) (by kernel_rfl) (by kernel_rfl) (fun _ _ _ h => h) (Or.inl ⟨by rfl, ?hy12⟩) (by assumption) ?rest12
            case hy12 =>
              intro w9 hSw
              clear hSw
              go_simp
              first | done | with_reducible rfl
            (try simp only [Act.put]); (try simp only [List.setIfInBounds_toArray]); (try simp only [List.set_cons_succ]); (try simp only [List.set_cons_zero])
            refine wpAnyH_done (by kernel_rfl) ?_ _
            obtain ⟨-, -, -, -, -, e0, e1, e2, e3⟩ := HSS.out w9 HB9.out
            have hyt : YieldAt Fence.wide (n - 1) Try.prog l #[.agg #[.string y0, .int .i64 y1, .bool y2, .int .i64 y3]] w9 _ := HY.out out ⟨y0, y1, y2, y3⟩ w9 (abide HJ.out HJO.out HB9.out) (by have h9 := HST.out.len; omega)
            have HK9 := Lib.hid (HKQ.out.trans (KpM.of_below HB9.out (by omega)))
            obtain ⟨fn, tmps, assign, body, hy, hR⟩ := hyt
            go_upto_region 7 with fail
            refine (wpIn_wide (n := n)).1 ?_
            gi_wp2
            refine hR.mono ?_
            rintro e W3 (⟨rfl, hJ3, hk3⟩ | ⟨rfl, hJx3⟩)
            · have HJ3 := Lib.hid hJ3
              have HK3 := Lib.hid (HK9.out.trans hk3)
              clear hJ3 hk3
              gi_wp2
              go_wp2
              go_roundw
              case rel => exact ⟨k + 1, i, _, by omega, by go_num, rfl, HSP.out, HJ3.out, HK3.out⟩
              case measure => simp [intOf]; omega
            · have HJX := Lib.hid hJx3
              clear hJx3
              gi_wp2
              go_wp2
              (try simp only [Exit.inBlock, Exit.then])
              refine bodyPost_ret (results_none rfl _ _ _) rfl ?_
              exact ⟨⟨_, rfl⟩, .inr ⟨_, HJX.out⟩⟩
        · have hie : i = la.length := by omega
          have HSP := Lib.hid (show MSt la lb i (k + 1) (out ++ [⟨y0, y1, y2, y3⟩]) by rw [← HEY.out]; exact HST.out.put hlt (fun h => absurd h hia))
          have i1 : ¬ (i : Int) < (la.length : Int) := by omega
          have i2 : decide ((i : Int) < (la.length : Int)) = false := by simpa using i1
          have i4 : decide (i < la.length) = false := by simpa using hia
          have HSS := Lib.hid (show ∀ W', Below wr.heap.size wr W' → (fun W' : World => W'.cell? ⟨B + 1, 0, none⟩ = some (.slice A1 la.length ca)) W' from fun W' h => (h.cell (p := ⟨B + 1, 0, none⟩) (by show B + 1 < _; omega)).trans bc1)
          clear hie
          go_wp2_with fail
          refine wp_region_held_drew (S := (fun W' : World => W'.cell? ⟨B + 1, 0, none⟩ = some (.slice A1 la.length ca))) (by kernel_rfl) (HSS.out _ (bel2 (Below.refl wr.heap.size wr) (by rfl) (by rfl) (by rfl) (by rfl))) (fun hHeld => ?_)
          refine wpAnyH_take (i := 0) (oi := { dst := Option.some 15, op := Go.Op.move (Go.Operand.tmp 4), type := 3, pos := "l11_run.go:135", after := #[], guard := Option.none }) (v := ?v13) rfl (by kernel_rfl) (by kernel_rfl) (by kernel_rfl) (fun _ _ _ h => h) (Or.inl ⟨by rfl, ?hy13⟩) (by assumption) ?rest13
          case hy13 =>
            intro w9 hSw
            clear hSw
            go_simp
            first | done | with_reducible rfl
          (try simp only [Act.put]); (try simp only [List.setIfInBounds_toArray]); (try simp only [List.set_cons_succ]); (try simp only [List.set_cons_zero])
          refine wpAnyH_take (i := 1) (oi := { dst := Option.some 16, op := Go.Op.load 23 (Go.Operand.tmp 2), type := 23, pos := "l11_run.go:135", after := #[], guard := Option.none }) (v := ?vq) rfl (by kernel_rfl) (by kernel_rfl) (by kernel_rfl) (fun _ _ _ h => h) (Or.inl ⟨by rfl, ?hyq⟩) (by assumption) ?restq
          case hyq =>
            intro w9 f0
            go_simp
            first | done | with_reducible rfl
          (try simp only [Act.put]); (try simp only [List.setIfInBounds_toArray]); (try simp only [List.set_cons_succ]); (try simp only [List.set_cons_zero])
          refine wpAnyH_take (i := 2) (oi := { dst := Option.some 17, op := Go.Op.call { callee := Go.Callee.builtin Go.Builtin.len, args := #[Go.Operand.tmp 16], argTypes := #[23] }, type := 3, pos := "l11_run.go:135", after := #[{ on := 1, ground := Go.Ground.data }], guard := Option.none }) (v := ?v14) rfl (by kernel_rfl) (by kernel_rfl) (by kernel_rfl) (fun _ _ _ h => h) (Or.inl ⟨by rfl, ?hy14⟩) (by assumption) ?rest14
          case hy14 =>
            intro w9 hSw
            clear hSw
            go_simp
            first | done | with_reducible rfl
          (try simp only [Act.put]); (try simp only [List.setIfInBounds_toArray]); (try simp only [List.set_cons_succ]); (try simp only [List.set_cons_zero])
          refine wpAnyH_take (i := 3) (oi := { dst := Option.some 18, op := Go.Op.binOp Go.BinOp.lss 3 (Go.Operand.tmp 15) (Go.Operand.tmp 17) 3, type := 4, pos := "l11_run.go:135", after := #[{ on := 0, ground := Go.Ground.data }, { on := 2, ground := Go.Ground.data }], guard := Option.none }) (v := ?v15) rfl (by kernel_rfl) (by kernel_rfl) (by kernel_rfl) (fun _ _ _ h => h) (Or.inl ⟨by rfl, ?hy15⟩) (by assumption) ?rest15
          case hy15 =>
            intro w9 hSw
            clear hSw
            go_simp
            first | done | with_reducible rfl
          (try simp only [Act.put]); (try simp only [List.setIfInBounds_toArray]); (try simp only [List.set_cons_succ]); (try simp only [List.set_cons_zero])
          refine wpAnyH_take (i := 4) (oi := { dst := Option.some 19, op := Go.Op.move (Go.Operand.tmp 18), type := 4, pos := "l11_run.go:135", after := #[{ on := 3, ground := Go.Ground.data }], guard := Option.none }) (v := ?v16) rfl (by kernel_rfl) (by kernel_rfl) (by kernel_rfl) (fun _ _ _ h => h) (Or.inl ⟨by rfl, ?hy16⟩) (by assumption) ?rest16
          case hy16 =>
            intro w9 hSw
            clear hSw
            go_simp
            first | done | with_reducible rfl
          (try simp only [Act.put]); (try simp only [List.setIfInBounds_toArray]); (try simp only [List.set_cons_succ]); (try simp only [List.set_cons_zero])
          refine wpAnyH_take (i := 5) (oi := { dst := Option.some 20, op := Go.Op.load 23 (Go.Operand.tmp 2), type := 23, pos := "l11_run.go:135", after := #[{ on := 4, ground := Go.Ground.guard }], guard := Option.some (4, Bool.true) }) (v := undef) rfl (by kernel_rfl) (by kernel_rfl) (by kernel_rfl) (fun _ _ _ h => h) (Or.inr ⟨by rfl, rfl⟩) (by assumption) ?_
          (try simp only [Act.put]); (try simp only [List.setIfInBounds_toArray]); (try simp only [List.set_cons_succ]); (try simp only [List.set_cons_zero])
          refine wpAnyH_take (i := 6) (oi := { dst := Option.some 21, op := Go.Op.move (Go.Operand.tmp 4), type := 3, pos := "l11_run.go:135", after := #[{ on := 4, ground := Go.Ground.guard }], guard := Option.some (4, Bool.true) }) (v := undef) rfl (by kernel_rfl) (by kernel_rfl) (by kernel_rfl) (fun _ _ _ h => h) (Or.inr ⟨by rfl, rfl⟩) (by assumption) ?_
          (try simp only [Act.put]); (try simp only [List.setIfInBounds_toArray]); (try simp only [List.set_cons_succ]); (try simp only [List.set_cons_zero])
          refine wpAnyH_take (i := 7) (oi := { dst := Option.some 22, op := Go.Op.indexAddr 23 (Go.Operand.tmp 20) (Go.Operand.tmp 21), type := 0, pos := "l11_run.go:135", after := #[{ on := 5, ground := Go.Ground.data }, { on := 6, ground := Go.Ground.data }, { on := 4, ground := Go.Ground.guard }], guard := Option.some (4, Bool.true) }) (v := undef) rfl (by kernel_rfl) (by kernel_rfl) (by kernel_rfl) (fun _ _ _ h => h) (Or.inr ⟨by rfl, rfl⟩) (by assumption) ?_
          (try simp only [Act.put]); (try simp only [List.setIfInBounds_toArray]); (try simp only [List.set_cons_succ]); (try simp only [List.set_cons_zero])
          refine wpAnyH_take (i := 8) (oi := { dst := Option.some 23, op := Go.Op.load 33 (Go.Operand.tmp 22), type := 33, pos := "l11_run.go:135", after := #[{ on := 7, ground := Go.Ground.data }, { on := 4, ground := Go.Ground.guard }], guard := Option.some (4, Bool.true) }) (v := undef) rfl (by kernel_rfl) (by kernel_rfl) (by kernel_rfl) (fun _ _ _ h => h) (Or.inr ⟨by rfl, rfl⟩) (by assumption) ?_
          (try simp only [Act.put]); (try simp only [List.setIfInBounds_toArray]); (try simp only [List.set_cons_succ]); (try simp only [List.set_cons_zero])
          refine wpAnyH_take (i := 9) (oi := { dst := Option.some 24, op := Go.Op.load 33 (Go.Operand.tmp 6), type := 33, pos := "l11_run.go:135", after := #[{ on := 4, ground := Go.Ground.guard }], guard := Option.some (4, Bool.true) }) (v := undef) rfl (by kernel_rfl) (by kernel_rfl) (by kernel_rfl) (fun _ _ _ h => h) (Or.inr ⟨by rfl, rfl⟩) (by assumption) ?_
          (try simp only [Act.put]); (try simp only [List.setIfInBounds_toArray]); (try simp only [List.set_cons_succ]); (try simp only [List.set_cons_zero])
          refine wpAnyH_take (i := 10) (oi := { dst := Option.some 25, op := Go.Op.call { callee := Go.Callee.value (Go.Operand.func 63), args := #[Go.Operand.tmp 23, Go.Operand.tmp 24], argTypes := #[33, 33] }, type := 3, pos := "l11_run.go:135", after := #[{ on := 8, ground := Go.Ground.data }, { on := 9, ground := Go.Ground.data }, { on := 4, ground := Go.Ground.chain }, { on := 4, ground := Go.Ground.guard }], guard := Option.some (4, Bool.true) }) (v := undef) rfl (by kernel_rfl) (by kernel_rfl) (by kernel_rfl) (fun _ _ _ h => h) (Or.inr ⟨by rfl, rfl⟩) (by assumption) ?_
          (try simp only [Act.put]); (try simp only [List.setIfInBounds_toArray]); (try simp only [List.set_cons_succ]); (try simp only [List.set_cons_zero])
          refine wpAnyH_take (i := 11) (oi := { dst := Option.some 26, op := Go.Op.binOp Go.BinOp.lss 3 (Go.Operand.tmp 25) (Go.Operand.const (Go.Value.int Go.IntKind.i64 0)) 3, type := 4, pos := "l11_run.go:135", after := #[{ on := 10, ground := Go.Ground.data }, { on := 4, ground := Go.Ground.guard }], guard := Option.some (4, Bool.true) }) (v := undef) rfl (by kernel_rfl) (by kernel_rfl) (by kernel_rfl) (fun _ _ _ h => h) (Or.inr ⟨by rfl, rfl⟩) (by assumption) ?_
          (try simp only [Act.put]); (try simp only [List.setIfInBounds_toArray]); (try simp only [List.set_cons_succ]); (try simp only [List.set_cons_zero])
          refine wpAnyH_take (i := 12) (oi := { dst := Option.some 27, op := Go.Op.pick (Go.Operand.tmp 19) (Go.Operand.tmp 26) (Go.Operand.const (Go.Value.bool Bool.false)), type := 4, pos := "l11_run.go:135", after := #[{ on := 4, ground := Go.Ground.data }, { on := 11, ground := Go.Ground.data }], guard := Option.none }) (v := ?v17) rfl (by kernel_rfl) (by kernel_rfl) (by kernel_rfl) (fun _ _ _ h => h) (Or.inl ⟨by rfl, ?hy17⟩) (by assumption) ?rest17
          case hy17 =>
            intro w9 hSw
            clear hSw
            go_simp
            first | done | with_reducible rfl
          (try simp only [Act.put]); (try simp only [List.setIfInBounds_toArray]); (try simp only [List.set_cons_succ]); (try simp only [List.set_cons_zero])
          refine wpAnyH_done (by kernel_rfl) ?_ _
          obtain ⟨w9, hw9⟩ : ∃ w9, w9 = wr.drew := ⟨_, rfl⟩
          rw [← hw9]
          have HB9 := Lib.hid (show Below wr.heap.size wr w9 by rw [hw9]; exact bel2 (Below.refl wr.heap.size wr) (by rfl) (by rfl) (by rfl) (by rfl))
          replace e0 : w9.cell? ⟨wo.heap.size, 0, none⟩ = some (.string y0) := by rw [hw9]; exact e0
          replace e1 : w9.cell? ⟨wo.heap.size, 1, none⟩ = some (.int .i64 y1) := by rw [hw9]; exact e1
          replace e2 : w9.cell? ⟨wo.heap.size, 2, none⟩ = some (.bool y2) := by rw [hw9]; exact e2
          replace e3 : w9.cell? ⟨wo.heap.size, 3, none⟩ = some (.int .i64 y3) := by rw [hw9]; exact e3
          clear hw9
          have hyt : YieldAt Fence.wide (n - 1) Try.prog l #[.agg #[.string y0, .int .i64 y1, .bool y2, .int .i64 y3]] w9 _ := HY.out out ⟨y0, y1, y2, y3⟩ w9 (abide HJ.out HJO.out HB9.out) (by have h9 := HST.out.len; omega)
          have HK9 := Lib.hid (HKQ.out.trans (KpM.of_below HB9.out (by omega)))
          obtain ⟨fn, tmps, assign, body, hy, hR⟩ := hyt
          go_upto_region 7 with fail
          refine (wpIn_wide (n := n)).1 ?_
          gi_wp2
          refine hR.mono ?_
          rintro e W3 (⟨rfl, hJ3, hk3⟩ | ⟨rfl, hJx3⟩)
          · have HJ3 := Lib.hid hJ3
            have HK3 := Lib.hid (HK9.out.trans hk3)
            clear hJ3 hk3
            gi_wp2
            go_wp2
            go_roundw
            case rel => exact ⟨k + 1, i, _, by omega, by go_num, rfl, HSP.out, HJ3.out, HK3.out⟩
            case measure => simp [intOf]; omega
          · have HJX := Lib.hid hJx3
            clear hJx3
            gi_wp2
            go_wp2
            (try simp only [Exit.inBlock, Exit.then])
            refine bodyPost_ret (results_none rfl _ _ _) rfl ?_
            exact ⟨⟨_, rfl⟩, .inr ⟨_, HJX.out⟩⟩
    · have hke : k = lb.length := by omega
      subst hke
      have hil := HST.out.hi
      have bc1 := HX1.out wr HKP.out
      have i0 : (0 : Int) ≤ (i : Int) := by omega
      have i1 : (i : Int) ≤ (la.length : Int) := by omega
      have i2 : (i : Int) ≤ (ca : Int) := by omega
      have HE3 := Lib.hid (show out ++ la.drop i = joinL la lb by have h := HST.out.eq; rw [List.drop_length] at h; exact h)
      by_cases hrest : i < la.length
      · obtain ⟨ab, ao, hA1, hab, -, -, -, -⟩ := (HR.out.below HKP.out.below (Nat.le_refl _)).cell i hrest
        subst hA1
        obtain ⟨M, hM⟩ : ∃ M, M = la.length - i := ⟨_, rfl⟩
        have hci : ¬ ca = i := by omega
        have HIM := Lib.hid hM
        obtain ⟨wo, hwo⟩ : ∃ wo, wo = wr := ⟨_, rfl⟩
        subst hwo
        go_wp2_with fail
        go_loopw [46] (fun mv wr => ∃ m : Nat, m ≤ la.length - i ∧ mv = .int .i64 (m : Nat) ∧ J (out ++ (la.drop i).take m) wr ∧ KpM B W wr) (fun mv _ => la.length - i - (intOf mv).toNat)
        case atStart => exact ⟨0, Nat.zero_le _, rfl, by rw [List.take_zero, List.append_nil]; exact HJO.out, HKP.out⟩
        case round =>
          obtain ⟨m, hm, rfl, hj, hkp⟩ := hrel
          have HJM := Lib.hid hj
          have HKM := Lib.hid hkp
          clear hj hkp
          by_cases hml : m < la.length - i
          · have hml2 : i + m < la.length := by omega
            obtain ⟨xb, xo, hA1, hxb, xc0, xc1, xc2, xc3⟩ := (HR.out.below HKM.out.below (Nat.le_refl _)).cell (i + m) hml2
            injection hA1 with hA1
            injection hA1 with q1 q2
            subst q1 q2
            rw [show ao + (i + m) * 4 = ao + i * 4 + m * 4 by omega] at xc0 xc1 xc2 xc3
            obtain ⟨x0, hx0⟩ : ∃ z, z = (la[i + m]'hml2).key := ⟨_, rfl⟩
            rw [← hx0] at xc0
            obtain ⟨x1, hx1⟩ : ∃ z, z = (la[i + m]'hml2).val := ⟨_, rfl⟩
            rw [← hx1] at xc1
            obtain ⟨x2, hx2⟩ : ∃ z, z = (la[i + m]'hml2).gone := ⟨_, rfl⟩
            rw [← hx2] at xc2
            obtain ⟨x3, hx3⟩ : ∃ z, z = (la[i + m]'hml2).time := ⟨_, rfl⟩
            rw [← hx3] at xc3
            have HNX := Lib.hid (show out ++ (la.drop i).take (m + 1) = (out ++ (la.drop i).take m) ++ [⟨x0, x1, x2, x3⟩] by
              rw [List.take_succ_eq_append_getElem (by rw [List.length_drop]; exact hml), List.getElem_drop, List.append_assoc, show la[i + m] = ⟨x0, x1, x2, x3⟩ by rw [hx0, hx1, hx2, hx3]])
            have m0 : (0 : Int) ≤ (m : Int) := by omega
            have m1 : (m : Int) < ((la.length - i : Nat) : Int) := by omega
            obtain ⟨W2, hW2⟩ : ∃ W2, W2 = wr.alloc (.cells #[.string x0, .int .i64 x1, .bool x2, .int .i64 x3] 33) := ⟨_, rfl⟩
            have bb : Below wr.heap.size wr W2 := by rw [hW2]; exact new_box wr x0 x1 x2 x3
            have hBr : B + 2 < wr.heap.size := Nat.lt_of_lt_of_le hBW HKM.out.below.size
            have HK9 := Lib.hid (HKM.out.trans (KpM.of_below bb (by omega)))
            obtain ⟨p0, p1, p2, p3⟩ := (show Box W2 wr.heap.size x0 x1 x2 x3 by rw [hW2]; exact Box.new _ _ _ _ _).cells
            have hyt : YieldAt Fence.wide (n - 1) Try.prog l #[.agg #[.string x0, .int .i64 x1, .bool x2, .int .i64 x3]] W2 _ := HY.out _ ⟨x0, x1, x2, x3⟩ W2 (abide HJ.out HJM.out bb) (by have h9 := HST.out.len; rw [List.length_append, List.length_take, List.length_drop]; omega)
            obtain ⟨fn, tmps, assign, body, hy, hR⟩ := hyt
            have HW2 := Lib.hid hW2
            clear hW2 bb hx0 hx1 hx2 hx3
            go_upto_region 12 with fail
            rw [← HW2.out]
            refine (wpIn_wide (n := n)).1 ?_
            gi_wp2
            refine hR.mono ?_
            rintro e W3 (⟨rfl, hJ3, hk3⟩ | ⟨rfl, hJx3⟩)
            · have HJ3 := Lib.hid hJ3
              have HK3 := Lib.hid (HK9.out.trans hk3)
              clear hJ3 hk3
              gi_wp2
              go_wp2
              go_roundw
              case rel => exact ⟨m + 1, by omega, by go_num, by rw [HNX.out]; exact HJ3.out, HK3.out⟩
              case measure => simp [intOf]; omega
            · have HJX := Lib.hid hJx3
              clear hJx3
              gi_wp2
              go_wp2
              (try simp only [Exit.inBlock, Exit.then])
              refine bodyPost_ret (results_none rfl _ _ _) rfl ?_
              exact ⟨⟨_, rfl⟩, .inr ⟨_, HJX.out⟩⟩
          · have hme : m = la.length - i := by omega
            have HJE := Lib.hid (show J (joinL la lb) wr by
              have h := HJM.out
              rw [hme, List.take_of_length_le (by rw [List.length_drop]; exact Nat.le_refl _), HE3.out] at h
              exact h)
            have m1 : ¬ (m : Int) < ((la.length - i : Nat) : Int) := by omega
            clear hme
            go_wp2
            go_end0
            exact ⟨⟨_, rfl⟩, .inl (by first | exact HJE.out | exact ⟨_, rfl, HJE.out⟩)⟩
      · have hie : i = la.length := by omega
        have HJE := Lib.hid (show J (joinL la lb) wr by rw [← HE3.out, hie, List.drop_length, List.append_nil]; exact HJO.out)
        subst hie
        go_wp2_with fail
        all_goals
          go_loopw [46] (fun mv wr => mv = .int .i64 0 ∧ J (joinL la lb) wr) (fun _ _ => 0)
          case atStart => first | exact ⟨rfl, HJE.out⟩ | exact HJE.out
          case round =>
            obtain ⟨rfl, hj⟩ := hrel
            have HJ9 := Lib.hid hj
            clear hj
            go_wp2
            go_end0
            exact ⟨⟨_, rfl⟩, .inl (by first | exact HJ9.out | exact ⟨_, rfl, HJ9.out⟩)⟩

/-- the iterator's contract -/
theorem merged_stops (n : Nat) (hn : 1 ≤ n) (B na ca nb cb : Nat) (A1 A2 : Option Addr) (la lb : List En) (w : World)
    (hb1 : w.heap[B + 1]? = some (.cells #[.slice A1 na ca] 23)) (hb2 : w.heap[B + 2]? = some (.cells #[.slice A2 nb cb] 23)) (hr : Ents w B A1 na la) (hr2 : Ents w B A2 nb lb) (hca : na ≤ ca) (h1 : na ≤ 400000) (h2 : nb ≤ 400000) (hrow : rowAt w B = none) :
    SeqStopsK Fence.wide n Try.prog 93 #[.pointer (some ⟨B + 2, 0, none⟩), .pointer (some ⟨B + 1, 0, none⟩)] (fun x : En => #[enV x]) (KpM B) (fun xs => xs = joinL la lb) (fun _ => True) (la.length + lb.length) w := fun l J Jx W hW hJ _ hY h0 => by
  have hBW : B + 2 < w.heap.size := (Array.getElem?_eq_some_iff.1 hb2).1
  have e : rowAt W B = rowAt w B := by unfold rowAt; rw [hW.cell (p := ⟨B, 0, none⟩) (by show B < _; omega)]
  refine callsIn_wide.2 ?_
  refine (mergedC n hn l B na ca nb cb A1 A2 la lb J Jx W hJ hY ((hW.block _ (by omega)).trans hb1) ((hW.block _ hBW).trans hb2) (hr.below hW (by omega)) (hr2.below hW (by omega)) hca h1 h2 (e.trans hrow) h0).mono ?_
  rintro e W' ⟨he, h⟩
  refine ⟨he, ?_⟩
  rcases h with ⟨xs, hx, hj⟩ | ⟨pre, hj⟩
  · exact .inl ⟨xs, hx, hj⟩
  · exact .inr ⟨pre, trivial, hj⟩

end Go.Proofs.Ytfpgjkanmanajaa.W
