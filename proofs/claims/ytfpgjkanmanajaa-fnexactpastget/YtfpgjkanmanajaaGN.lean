/-
  The program's lastAt and PastGet.
-/
import Derived.Test.YtfpgjkanmanajaaGM
import Derived.Test.YtfpgjkanmanajaaGH
namespace Go.Proofs.Ytfpgjkanmanajaa.W
open Go.RowKit K R
attribute [local go_sem] Oper.semAt_some

theorem box_fromN {B0 b : Nat} {k : ByteArray} {v : Int} {g : Bool} {t : Int} : OwnFrom B0 (fun (_ : Unit) W => Box W b k v g t) := fun _ X Y row hs hg hr =>
  (hg.block b (lt_heap hs) (fun e' => by
    obtain ⟨-, o, ho, hc⟩ := hr b e'.symm
    rw [show X.heap[b]? = _ from hs] at ho
    cases ho
    cases hc)).trans hs
theorem size_fromN {β : Type} {B0 n : Nat} : OwnFrom B0 (fun (_ : β) W => n ≤ W.heap.size) := fun _ _ _ _ hs hg _ => Nat.le_trans hs hg.size
theorem results_cell_cell {fn : Func} {p u : Tmp} {ty ty2 : TypeId} (h : fn.results = #[.cell p ty, .cell u ty2]) (tmps : Array Value) (P : Program) (w : World) :
    (results fn tmps).run P w = ((asAddr (tmps.getD p undef)).run P w).andThen fun a w₁ => ((loadVar ty a).run P w₁).andThen fun v w₂ => ((asAddr (tmps.getD u undef)).run P w₂).andThen fun a2 w₃ => ((loadVar ty2 a2).run P w₃).andThen fun v2 w₄ => .ok (.tuple #[v, v2]) w₄ := by
  simp only [results, h]
  simp [Sem.run_bind, Result.andThen]
/-- two results, each in a box -/
theorem ret_boxes {fn : Func} {p u : Tmp} {ty ty2 : TypeId} (h : fn.results = #[.cell p ty, .cell u ty2]) (tmps : Array Value) (w : World) (g g2 : Nat) (cs : Array Value) (x : Value)
    (hp : tmps.getD p undef = .pointer (some ⟨g, 0, none⟩)) (hu : tmps.getD u undef = .pointer (some ⟨g2, 0, none⟩)) (hl : (loadVar ty ⟨g, 0, none⟩).run Try.prog w = .ok (.agg cs) w) (hl2 : (loadVar ty2 ⟨g2, 0, none⟩).run Try.prog w = .ok x w) :
    (results fn tmps).run Try.prog w = .ok (.tuple #[.agg cs, x]) w := by
  rw [results_cell_cell h, hp, hu]
  simp [asAddr, Result.andThen, hl, hl2]
theorem load_bool {w : World} {g : Nat} {b : Bool} (hg : w.heap[g]? = some (.cells #[.bool b] 4 (0, 0))) : (loadVar 4 ⟨g, 0, none⟩).run Try.prog w = .ok (.bool b) w := by
  have hc : w.cell? ⟨g, 0, none⟩ = some (.bool b) := by rw [cell_of_row _ _ _ _ _ _ hg]; rfl
  simp [go_sem, loadVar, hc]
/-- no one of those so far is of the key and the time -/
def noneOf (k : ByteArray) (t : Int) (pre : List (Int × En)) : Prop := ∀ y ∈ pre, isOf k t y.2 = false
theorem o_keep {W : World} {D b j : Nat} {v : Value} {o : Obj} (h : W.heap[D]? = some o) (hne : D ≠ b) : (W.setCell ⟨b, j, none⟩ v).heap[D]? = some o := (heap_setCell_other _ _ _ _ hne).trans h
/-- five stores into two boxes -/
theorem stores {W : World} {b b2 : Nat} {k : ByteArray} {v : Int} {g : Bool} {t : Int} {u : Value} {ty : TypeId} (h : Box W b k v g t) (h2 : Boxed W b2 ty u) (hne : b ≠ b2) (a0 : ByteArray) (a1 : Int) (a2 : Bool) (a3 : Int) (a4 : Value) (W' : World)
    (hW : W' = ((((W.setCell ⟨b, 0, none⟩ (.string a0)).setCell ⟨b, 1, none⟩ (.int .i64 a1)).setCell ⟨b, 2, none⟩ (.bool a2)).setCell ⟨b, 3, none⟩ (.int .i64 a3)).setCell ⟨b2, 0, none⟩ a4) :
    Box W' b a0 a1 a2 a3 ∧ Boxed W' b2 ty a4 ∧ KeepsOthers W W' ∧ (∀ (B0 : Nat) (w : World), Below B0 w W → B0 ≤ b → B0 ≤ b2 → Below B0 w W') ∧ (∀ (D : Nat) (o : Obj), W.heap[D]? = some o → D ≠ b → D ≠ b2 → W'.heap[D]? = some o) := by
  subst hW
  refine ⟨?_, ?_, ?_, fun B0 w hb h1 h2 => ?_, fun D o hD h1 h2 => ?_⟩
  · exact (heap_setCell_other _ _ _ _ hne).trans (box_four h _ _ _ _)
  · have g1 := h2.other (B' := b) (fun e => hne e.symm) (.string a0)
    have e1 : Boxed (W.setCell ⟨b, 0, none⟩ (.string a0)) b2 ty u := g1
    have e2 : Boxed ((W.setCell ⟨b, 0, none⟩ (.string a0)).setCell ⟨b, 1, none⟩ (.int .i64 a1)) b2 ty u := (heap_setCell_other _ _ _ _ (fun e => hne e.symm)).trans e1
    have e3 : Boxed (((W.setCell ⟨b, 0, none⟩ (.string a0)).setCell ⟨b, 1, none⟩ (.int .i64 a1)).setCell ⟨b, 2, none⟩ (.bool a2)) b2 ty u := (heap_setCell_other _ _ _ _ (fun e => hne e.symm)).trans e2
    have e4 : Boxed ((((W.setCell ⟨b, 0, none⟩ (.string a0)).setCell ⟨b, 1, none⟩ (.int .i64 a1)).setCell ⟨b, 2, none⟩ (.bool a2)).setCell ⟨b, 3, none⟩ (.int .i64 a3)) b2 ty u := (heap_setCell_other _ _ _ _ (fun e => hne e.symm)).trans e3
    exact e4.set a4
  · exact ((((KeepsOthers.setCell W _ _).trans (KeepsOthers.setCell _ _ _)).trans (KeepsOthers.setCell _ _ _)).trans (KeepsOthers.setCell _ _ _)).trans (KeepsOthers.setCell _ _ _)
  · exact ((((hb.setCell (p := ⟨b, 0, none⟩) h1 _).setCell (p := ⟨b, 1, none⟩) h1 _).setCell (p := ⟨b, 2, none⟩) h1 _).setCell (p := ⟨b, 3, none⟩) h1 _).setCell (p := ⟨b2, 0, none⟩) h2 _
  · exact o_keep (o_keep (o_keep (o_keep (o_keep hD h1) h1) h1) h1) h2
theorem noneOf_snoc {k : ByteArray} {t : Int} {pre : List (Int × En)} {x : Int × En} (h : noneOf k t pre) (hx : isOf k t x.2 = false) : noneOf k t (pre ++ [x]) := fun y hy => by
  rcases List.mem_append.mp hy with h2 | h2
  · exact h y h2
  · rw [List.mem_singleton.mp h2]; exact hx
theorem put_other {W : World} {D b : Nat} {o o' : Obj} (hne : b ≠ D) (h : W.heap[b]? = some o) : (W.putObj D o').heap[b]? = some o := (World.putObj_heap_other (by omega)).trans h

set_option maxHeartbeats 8000000 in
set_option maxRecDepth 100000 in
theorem lastI (w : World) (Bw n c : Nat) (A : Option Addr) (l : List En) (s : ByteArray) (t : Int) (hr : Ents w Bw A n l) (hB0 : Bw ≤ w.heap.size) (hn : n ≤ maxLen) :
    Calls Try.prog 88 #[.slice A n c, .string s, .int .i64 t] w (AtA w (atE (lastL l s t)).key (atE (lastL l s t)).val (atE (lastL l s t)).gone (atE (lastL l s t)).time (lastL l s t).isSome) := by
  have hlen := hr.len
  subst hlen
  obtain ⟨B, hBB⟩ : ∃ B, B = w.heap.size := ⟨_, rfl⟩
  obtain ⟨w1, hw1⟩ : ∃ w1, w1 = (((w.alloc (.cells #[.string s] 9)).alloc (.cells #[.int .i64 t] 3)).alloc (.cells #[.string ⟨#[]⟩, .int .i64 0, .bool false, .int .i64 0] 33)).alloc (.cells #[.bool false] 4) := ⟨_, rfl⟩
  have hs1 : w1.heap.size = B + 4 := by rw [hw1, hBB]; simp
  have b1 : Below w.heap.size w w1 := by rw [hw1]; exact ((((Below.refl _ _).alloc (Nat.le_refl _) _).alloc (by simp) _).alloc (by simp; omega) _).alloc (by simp; omega) _
  have y0 : Boxed w1 B 9 (.string s) := by rw [hw1, hBB]; exact (((Boxed.new w 9 (.string s)).alloc _).alloc _).alloc _
  have y1 : Boxed w1 (B + 1) 3 (.int .i64 t) := by
    have h := ((Boxed.new (w.alloc (.cells #[.string s] 9)) 3 (.int .i64 t)).alloc (.cells #[.string ⟨#[]⟩, .int .i64 0, .bool false, .int .i64 0] 33)).alloc (.cells #[.bool false] 4)
    rw [World.size_alloc, ← hBB, ← hw1] at h
    exact h
  have y2 : Box w1 (B + 1 + 1) ⟨#[]⟩ 0 false 0 := by
    have h0 := Box.new ((w.alloc (.cells #[.string s] 9)).alloc (.cells #[.int .i64 t] 3)) ⟨#[]⟩ 0 false 0
    have h := h0.keep ((Below.refl _ _).alloc (Nat.le_refl _) (.cells #[.bool false] 4))
    rw [World.size_alloc, World.size_alloc, ← hBB, ← hw1] at h
    exact h
  have y3 : Boxed w1 (B + 1 + 1 + 1) 4 (.bool false) := by
    have h := Boxed.new (((w.alloc (.cells #[.string s] 9)).alloc (.cells #[.int .i64 t] 3)).alloc (.cells #[.string ⟨#[]⟩, .int .i64 0, .bool false, .int .i64 0] 33)) 4 (.bool false)
    rw [World.size_alloc, World.size_alloc, World.size_alloc, ← hBB, ← hw1] at h
    exact h
  have HBK := Lib.hid (backI w1 l.length c A)
  obtain ⟨w2, hw2⟩ : ∃ w2, w2 = w1.alloc (.cells #[.slice A l.length c] 23) := ⟨_, rfl⟩
  have hs2 : w2.heap.size = B + 5 := by rw [hw2]; simp; omega
  have b2 : Below w1.heap.size w1 w2 := by rw [hw2]; exact (Below.refl _ _).alloc (Nat.le_refl _) _
  have Y0 := Lib.hid (show Boxed w2 B 9 (.string s) by rw [hw2]; exact y0.alloc _)
  have Y1 := Lib.hid (show Boxed w2 (B + 1) 3 (.int .i64 t) by rw [hw2]; exact y1.alloc _)
  have Y2 := Lib.hid (show Box w2 (B + 1 + 1) ⟨#[]⟩ 0 false 0 from y2.keep b2)
  have Y3 := Lib.hid (show Boxed w2 (B + 1 + 1 + 1) 4 (.bool false) by rw [hw2]; exact y3.alloc _)
  have hbc : w2.cell? ⟨B + 4, 0, none⟩ = some (.slice A l.length c) := by
    have h := (Boxed.new w1 23 (.slice A l.length c)).cell
    rw [← hw2, hs1] at h
    exact h
  have hb2 : Below w.heap.size w w2 := b1.trans (b2.mono b1.size)
  have HB2 := Lib.hid hb2
  have HRR := Lib.hid ((hr.below hb2 hB0).more (show Bw ≤ B + 5 by omega))
  obtain ⟨o, ho⟩ : ∃ o, o = lastL l s t := ⟨_, rfl⟩
  rw [← ho]
  have HO := Lib.hid ho
  have HW1 := Lib.hid hw1
  have HW2 := Lib.hid hw2
  rw [hw1] at HBK
  rw [← hw1, ← hw2, hs1] at HBK
  have hwB : w.heap.size = B := hBB.symm
  obtain ⟨R, hR⟩ : ∃ R, R = AtA w (atE o).key (atE o).val (atE o).gone (atE o).time o.isSome := ⟨_, rfl⟩
  have HRX := Lib.hid hR
  rw [← hR]
  clear hr y0 y1 y2 y3 b1 b2 hb2 ho hw1 hw2 hBB hR
  refine (callsIn_wide (n := 5)).1 ?_
  refine callsIn_of_wp_marks Try.func88 rfl trivial ?_ rfl
  simp only [Try.ntmps88, List.size_toArray, List.length_cons, List.length_nil, Nat.reduceAdd, Nat.reduceSub, Array.replicate_succ, Array.replicate_zero, List.push_toArray, List.append_toArray, List.nil_append, List.cons_append]
  refine wpIn_wide.2 ?_
  go_wp2_with fail
  go_at_call 101
  refine Calls.mono (by rw [← HW1.out]; exact HBK.out) ?_
  rintro e w3 ⟨rfl, rfl⟩
  go_wp2_with fail
  refine (wpIn_wide (n := 5)).1 ?_
  rename_i K hK
  have HK := Lib.hid hK
  clear hK HBK HW1 HW2
  refine wpIn_rangeFunc_ownH (w0 := w3) (Kp := Below (B + 5)) rfl (by decide) (gf := 109) (lb := #[.pointer (some ⟨B + 4, 0, none⟩)]) rfl trivial (enters_of Try.func109 (by kernel_rfl) rfl)
    (back_stops 4 (by decide) (B + 4) (B + 5) l.length c A l w3 hbc (by omega) (by omega) HRR.out hn) belowK_t (belowK_b (by omega)) (Below.refl _ _) (fun _ => rfl)
    (fun pre W => noneOf s t pre ∧ (Below (B + 5) w3 W ∧ B + 5 ≤ W.heap.size))
    (fun cd pre W => cd = .ret ∧ ∃ (pre' : List (Int × En)) (x : Int × En), pre = pre' ++ [x] ∧ noneOf s t pre' ∧ isOf s t x.2 = true ∧ Box W (B + 1 + 1) x.2.key x.2.val x.2.gone x.2.time ∧ Boxed W (B + 1 + 1 + 1) 4 (.bool true) ∧ Below w.heap.size w W)
    (OwnFrom.and (ownFrom_pure _ _) (OwnFrom.and (ownFrom_below (by omega) (by omega)) size_fromN))
    (fun cd pre X Y row hs hg hr => by
      obtain ⟨q0, pre', x, q1, q2, q3, q4, q5, q6⟩ := hs
      exact ⟨q0, pre', x, q1, q2, q3, box_fromN () X Y row q4 hg hr, (Own.from (boxed_own (B + 1 + 1 + 1) 4 (fun (_ : Unit) => Value.bool true)) _) () X Y row q5 hg hr, (ownFrom_below (β := Unit) (n₀ := w.heap.size) (w₀ := w) (Nat.le_refl _) (by omega)) () X Y row q6 hg hr⟩)
    ⟨(fun y hy => by cases hy), Below.refl _ _, by omega⟩
    (fun x a' W => ∃ Bx, B + 5 ≤ Bx ∧ Box W Bx x.2.key x.2.val x.2.gone x.2.time ∧ a' = { tmps := #[.slice A l.length c, .string s, .int .i64 t, undef, .pointer (some ⟨B, 0, none⟩), .pointer (some ⟨B + 1, 0, none⟩), .pointer (some ⟨B + 1 + 1, 0, none⟩), .pointer (some ⟨B + 1 + 1 + 1, 0, none⟩), undef, .pointer (some ⟨Bx, 0, none⟩), .slice A l.length c, backV (B + 4), .int .i64 x.1, enV x.2, undef, undef, undef, undef, undef, undef, undef, undef, undef, undef, undef, undef], defers := [] })
    (fun x a' _ X Y row hs hg hr => by obtain ⟨Bx, h1, h2, h3⟩ := hs; exact ⟨Bx, h1, box_fromN () X Y row h2 hg hr, h3⟩)
    ?assign ?body ?done ?stop
  case assign =>
    rintro lp pre x W K1 ⟨hno, hBl, hS⟩ hK1
    have HK1 := Lib.hid hK1
    clear hK1 HK
    obtain ⟨xi, x0, x1, x2, x3⟩ := x
    simp only [enV]
    gi_wp2
    have hK1 := HK1.out
    exact hK1 _ _ ((KeepsOthers.alloc _ _).from _) ((Below.refl _ W).alloc hS _) ⟨hno, hBl.alloc (by omega) _, by simp; omega⟩ ⟨W.heap.size, hS, Box.new W _ _ _ _, rfl⟩
  case body =>
    rintro lp pre x a' W hl ⟨r, hr⟩ ⟨hno, hBl, hS⟩ ⟨Bx, hBx, bX, rfl⟩ hlt
    obtain ⟨xi, x0, x1, x2, x3⟩ := x
    obtain ⟨e0, e1, e2, e3⟩ := bX.cells
    have c4 := (hBl.cell (p := ⟨B, 0, none⟩) (by show B < _; omega)).trans Y0.out.cell
    have c5 := (hBl.cell (p := ⟨B + 1, 0, none⟩) (by show B + 1 < _; omega)).trans Y1.out.cell
    have b2' : Box W (B + 1 + 1) ⟨#[]⟩ 0 false 0 := Y2.out.below hBl (by omega)
    have b3' : Boxed W (B + 1 + 1 + 1) 4 (.bool false) := (hBl.block _ (by omega)).trans Y3.out
    obtain ⟨q0, q1, q2, q3⟩ := b2'.cells
    have z0 : W.frozen? ⟨B + 1 + 1, 0, none⟩ = false := frozen_of_row _ _ 0 _ _ b2'
    have z1 : W.frozen? ⟨B + 1 + 1, 1, none⟩ = false := frozen_of_row _ _ 1 _ _ b2'
    have z2 : W.frozen? ⟨B + 1 + 1, 2, none⟩ = false := frozen_of_row _ _ 2 _ _ b2'
    have z3 : W.frozen? ⟨B + 1 + 1, 3, none⟩ = false := frozen_of_row _ _ 3 _ _ b2'
    have q4 := b3'.cell
    have z4 := b3'.frozen
    have HBW := Lib.hid (HB2.out.trans (hBl.mono (by have := HB2.out.size; omega)))
    have HB2' := Lib.hid b2'
    have HB3' := Lib.hid b3'
    have HNO := Lib.hid hno
    have HBL := Lib.hid hBl
    clear HK hno hBl bX hr b2' b3' hbc HRR
    simp only [enV] at e0 e1 e2 e3 ⊢
    rcases Bool.eq_false_or_eq_true (x0.toList == s.toList) with h1 | h1
    · by_cases h2 : x3 ≤ t
      · have HP := Lib.hid (show isOf s t ⟨x0, x1, x2, x3⟩ = true by unfold isOf; rw [h1, decide_eq_true h2]; rfl)
        gi_wp2
        obtain ⟨W9, hW9⟩ : ∃ W9, W9 = ((((W.setCell ⟨B + 1 + 1, 0, none⟩ (.string x0)).setCell ⟨B + 1 + 1, 1, none⟩ (.int .i64 x1)).setCell ⟨B + 1 + 1, 2, none⟩ (.bool x2)).setCell ⟨B + 1 + 1, 3, none⟩ (.int .i64 x3)).setCell ⟨B + 1 + 1 + 1, 0, none⟩ (.bool true) := ⟨_, rfl⟩
        obtain ⟨k1, k2, k3, k4, -⟩ := stores HB2'.out HB3'.out (by omega) x0 x1 x2 x3 (.bool true) W9 hW9
        rw [← hW9]
        clear hW9
        exact ⟨k3.from _, rfl, pre, (xi, ⟨x0, x1, x2, x3⟩), rfl, HNO.out, HP.out, k1, k2, k4 _ _ HBW.out (by omega) (by omega)⟩
      · have HN := Lib.hid (noneOf_snoc HNO.out (show isOf s t ((xi, ⟨x0, x1, x2, x3⟩) : Int × En).2 = false by unfold isOf; rw [decide_eq_false h2, Bool.and_false]))
        gi_wp2
        exact ⟨KeepsFrom.refl _ _, Below.refl _ _, HN.out, HBL.out, hS⟩
    · have HN := Lib.hid (noneOf_snoc HNO.out (show isOf s t ((xi, ⟨x0, x1, x2, x3⟩) : Int × En).2 = false by unfold isOf; rw [h1, Bool.false_and]))
      gi_wp2
      exact ⟨KeepsFrom.refl _ _, Below.refl _ _, HN.out, HBL.out, hS⟩
  case done =>
    rintro D ys W hD rfl ⟨hno, hBl, hS⟩ hKD
    have hoe : o = none := by rw [HO.out]; exact back_none hno
    have b2' : Box W (B + 1 + 1) ⟨#[]⟩ 0 false 0 := Y2.out.below hBl (by omega)
    have b3' : Boxed W (B + 1 + 1 + 1) 4 (.bool false) := (hBl.block _ (by omega)).trans Y3.out
    obtain ⟨q0, q1, q2, q3⟩ := b2'.cells
    have z0 : W.frozen? ⟨B + 1 + 1, 0, none⟩ = false := frozen_of_row _ _ 0 _ _ b2'
    have z1 : W.frozen? ⟨B + 1 + 1, 1, none⟩ = false := frozen_of_row _ _ 1 _ _ b2'
    have z2 : W.frozen? ⟨B + 1 + 1, 2, none⟩ = false := frozen_of_row _ _ 2 _ _ b2'
    have z3 : W.frozen? ⟨B + 1 + 1, 3, none⟩ = false := frozen_of_row _ _ 3 _ _ b2'
    have q4 := b3'.cell
    have z4 := b3'.frozen
    have HBW := Lib.hid (HB2.out.trans (hBl.mono (by have := HB2.out.size; omega)))
    have HB2' := Lib.hid b2'
    have HB3' := Lib.hid b3'
    have HKD := Lib.hid hKD
    have HOE := Lib.hid hoe
    refine HK.out _ _ ?_
    clear HK hno hBl hKD hoe b2' b3' hbc HRR HO
    go_wp2
    obtain ⟨W9, hW9⟩ : ∃ W9, W9 = ((((W.setCell ⟨B + 1 + 1, 0, none⟩ (.string ⟨#[]⟩)).setCell ⟨B + 1 + 1, 1, none⟩ (.int .i64 0)).setCell ⟨B + 1 + 1, 2, none⟩ (.bool false)).setCell ⟨B + 1 + 1, 3, none⟩ (.int .i64 0)).setCell ⟨B + 1 + 1 + 1, 0, none⟩ (.bool false) := ⟨_, rfl⟩
    obtain ⟨k1, k2, -, k4, k5⟩ := stores HB2'.out HB3'.out (by omega) ⟨#[]⟩ 0 false 0 (.bool false) W9 hW9
    rw [← hW9, HRX.out, HOE.out]
    clear hW9
    have hkd := k5 D _ HKD.out (by omega) (by omega)
    refine ⟨by simp, .inl ⟨_, _, rfl, run_takeDeferred hkd, ?_⟩⟩
    exact ⟨_, ret_boxes rfl _ _ (B + 1 + 1) (B + 1 + 1 + 1) _ _ rfl rfl (load_entry (put_other (by omega) k1)) (load_bool (put_other (by omega) k2)), rfl, (k4 _ _ HBW.out (by omega) (by omega)).trans (belowK_b (w := w) (Nat.le_refl _) W9 D _ _ (by omega) hkd rfl rfl)⟩
  case stop =>
    rintro D cd pre W hD hpre ⟨rfl, pre', x, rfl, hno, hx, bX, bO, hBW⟩ hKD
    have hoe : o = some x.2 := by rw [HO.out]; exact back_hit hpre hno hx
    obtain ⟨xi, x0, x1, x2, x3⟩ := x
    have HX := Lib.hid bX
    have HOB := Lib.hid bO
    have HBW := Lib.hid hBW
    have HKD := Lib.hid hKD
    have HOE := Lib.hid hoe
    clear HK hno hBW hKD hoe bX bO hbc HRR HO hx hpre Y0 Y1 Y2 Y3 HB2
    gi_wp2
    rw [HRX.out, HOE.out]
    refine ⟨by simp, .inl ⟨_, _, rfl, run_takeDeferred HKD.out, ?_⟩⟩
    exact ⟨_, ret_boxes rfl _ _ (B + 1 + 1) (B + 1 + 1 + 1) _ _ rfl rfl (load_entry (put_other (by omega) HX.out)) (load_bool (put_other (by omega) HOB.out)), rfl, HBW.out.trans (belowK_b (w := w) (Nat.le_refl _) W D _ _ (by omega) HKD.out rfl rfl)⟩

set_option maxHeartbeats 4000000 in
theorem pastGetI (w : World) (B n c : Nat) (A : Option Addr) (l : List En) (s : ByteArray) (t : Int) (hr : Ents w B A n l) (hB : B ≤ w.heap.size) (hn : n ≤ maxLen) :
    Calls Try.prog 58 #[.slice A n c, .string s, .int .i64 t] w (GotA w (lastL l s t)) := by
  have HC := lastI w B n c A l s t hr hB hn
  obtain ⟨o, ho⟩ : ∃ o, o = lastL l s t := ⟨_, rfl⟩
  obtain ⟨x0, x1, x2, x3, b, hx, hbs⟩ := at_letters o
  rw [← ho, hx, hbs] at HC
  rw [← ho]
  have HG := Lib.hid (show gotV o = if b = true then (if x2 = true then (0, false) else (x1, true)) else (0, false) by
    cases o with
    | none => rw [← hbs]; rfl
    | some e => rw [← hbs]; have h2 : e = ⟨x0, x1, x2, x3⟩ := hx; subst h2; rfl)
  unfold GotA
  have HC := Lib.hid HC
  clear hr hx hbs ho
  go_enter Try.func58, Try.ntmps58
  go_wp2_with fail
  go_at_call 88
  refine Calls.mono HC.out ?_
  rintro e w2 ⟨rfl, b_⟩
  obtain ⟨W2, hW2⟩ : ∃ W, W = w2.alloc (.cells #[.string x0, .int .i64 x1, .bool x2, .int .i64 x3] 33) := ⟨_, rfl⟩
  have bb_ : Below w.heap.size w W2 := by rw [hW2]; exact b_.trans ((new_box w2 x0 x1 x2 x3).mono b_.size)
  obtain ⟨p0, p1, p2, p3⟩ := (show Box W2 w2.heap.size x0 x1 x2 x3 by rw [hW2]; exact Box.new _ _ _ _ _).cells
  have HW2 := Lib.hid hW2
  have HB2 := Lib.hid bb_
  clear b_ bb_ hW2 HC
  go_upto_region 2 with fail
  rw [← HW2.out]
  cases b with
  | false =>
    go_wp2
    go_ret2
    exact ⟨by rw [HG.out]; rfl, HB2.out⟩
  | true =>
    cases x2 with
    | true =>
      go_wp2
      go_ret2
      exact ⟨by rw [HG.out]; rfl, HB2.out⟩
    | false =>
      go_wp2
      go_ret2
      exact ⟨by rw [HG.out]; rfl, HB2.out⟩

end Go.Proofs.Ytfpgjkanmanajaa.W
