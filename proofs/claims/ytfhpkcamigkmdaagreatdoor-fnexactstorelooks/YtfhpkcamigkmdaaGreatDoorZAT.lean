/-
  An array of three levels, taken apart.
  The runs of a tree, from the top down.
  Whether an entry of a slice is later than now: the closure, and slices.IndexFunc and ContainsFunc over it.
  A tree in memory; its runs read as a slice of runs; whether none of their entries is later than now.
  slices.Grow of no entries; slices.Concat of runs.
  The program's newestAbove: a map of the last times; it says whether the times of each key descend.
  The program's valid: whether a tree is that of a valid store, apart from what fill has checked.
  When a store is one, in the program's words: its levels one by one, and its tree.
-/
import Derived.Test.YtfhpkcamigkmdaaGreatDoorZAP
import Derived.Test.YtfhpkcamigkmdaaGreatDoorZAL
import Derived.Test.YtfhpkcamigkmdaaGreatDoorQJ
import Derived.LoopN
import Derived.Deep.Cut
import Derived.Deep.AppendLies
import Derived.Deep.QuietTactic
import Derived.Lib.AppendZerosOnto
import Derived.Maps.OwnSet
namespace Go.Proofs.YtfhpkcamigkmdaaGreatDoor.W
open Go.RowKit K R

theorem lv_info : (Tryz.prog.info? 116).map (fun i => i.size) = some 6 := by kernel_rfl
theorem idx0 (u0 u1 u2 u3 u4 u5 u6 u7 u8 u9 u10 u11 u12 u13 u14 u15 u16 u17 : Value) (w : World) :
    (Instr.index 117 (.agg #[u0, u1, u2, u3, u4, u5, u6, u7, u8, u9, u10, u11, u12, u13, u14, u15, u16, u17]) (.int .i64 0)).run Tryz.prog w = .ok (.agg #[u0, u1, u2, u3, u4, u5]) w := by
  obtain ⟨i, hi, hz⟩ := Option.map_eq_some_iff.mp lv_info
  simp [Instr.index, run_underlying Tryz.underlying117, asIntOf, sizeOf, typeInfo, hi, hz, part]
theorem idx1 (u0 u1 u2 u3 u4 u5 u6 u7 u8 u9 u10 u11 u12 u13 u14 u15 u16 u17 : Value) (w : World) :
    (Instr.index 117 (.agg #[u0, u1, u2, u3, u4, u5, u6, u7, u8, u9, u10, u11, u12, u13, u14, u15, u16, u17]) (.int .i64 1)).run Tryz.prog w = .ok (.agg #[u6, u7, u8, u9, u10, u11]) w := by
  obtain ⟨i, hi, hz⟩ := Option.map_eq_some_iff.mp lv_info
  simp [Instr.index, run_underlying Tryz.underlying117, asIntOf, sizeOf, typeInfo, hi, hz, part]
theorem idx2 (u0 u1 u2 u3 u4 u5 u6 u7 u8 u9 u10 u11 u12 u13 u14 u15 u16 u17 : Value) (w : World) :
    (Instr.index 117 (.agg #[u0, u1, u2, u3, u4, u5, u6, u7, u8, u9, u10, u11, u12, u13, u14, u15, u16, u17]) (.int .i64 2)).run Tryz.prog w = .ok (.agg #[u12, u13, u14, u15, u16, u17]) w := by
  obtain ⟨i, hi, hz⟩ := Option.map_eq_some_iff.mp lv_info
  simp [Instr.index, run_underlying Tryz.underlying117, asIntOf, sizeOf, typeInfo, hi, hz, part]
end Go.Proofs.YtfhpkcamigkmdaaGreatDoor.W
namespace Go.Proofs.YtfhpkcamigkmdaaGreatDoor.W
open Go.RowKit K R

/-- the cells of a tree: its top, three levels of six cells each, and its numbers -/
def treeC (v0 : Value) (r0 : Value) (x0 : Sf) (s0 : Value) (r1 : Value) (x1 : Sf) (s1 : Value) (r2 : Value) (x2 : Sf) (s2 : Value) (keep time : Int) (v5 : Value) : Array Value :=
  #[v0, r0, .string x0.letters, .string x0.more, .string x0.first, s0, .int .i64 x0.keep, r1, .string x1.letters, .string x1.more, .string x1.first, s1, .int .i64 x1.keep, r2, .string x2.letters, .string x2.more, .string x2.first, s2, .int .i64 x2.keep, .int .i64 keep, .int .i64 time, v5]
theorem tree_cells {W : World} {g : Nat} {v0 r0 s0 r1 s1 r2 s2 v5 : Value} {x0 x1 x2 : Sf} {keep time : Int} {t : TypeId} {x : Nat × Nat} (h : W.heap[g]? = some (.cells (treeC v0 r0 x0 s0 r1 x1 s1 r2 x2 s2 keep time v5) t x)) :
    W.cell? ⟨g, 0, none⟩ = some (v0) ∧ W.cell? ⟨g, 1, none⟩ = some (r0) ∧ W.cell? ⟨g, 2, none⟩ = some (.string x0.letters) ∧ W.cell? ⟨g, 3, none⟩ = some (.string x0.more) ∧ W.cell? ⟨g, 4, none⟩ = some (.string x0.first) ∧ W.cell? ⟨g, 5, none⟩ = some (s0) ∧ W.cell? ⟨g, 6, none⟩ = some (.int .i64 x0.keep) ∧ W.cell? ⟨g, 7, none⟩ = some (r1) ∧ W.cell? ⟨g, 8, none⟩ = some (.string x1.letters) ∧ W.cell? ⟨g, 9, none⟩ = some (.string x1.more) ∧ W.cell? ⟨g, 10, none⟩ = some (.string x1.first) ∧ W.cell? ⟨g, 11, none⟩ = some (s1) ∧ W.cell? ⟨g, 12, none⟩ = some (.int .i64 x1.keep) ∧ W.cell? ⟨g, 13, none⟩ = some (r2) ∧ W.cell? ⟨g, 14, none⟩ = some (.string x2.letters) ∧ W.cell? ⟨g, 15, none⟩ = some (.string x2.more) ∧ W.cell? ⟨g, 16, none⟩ = some (.string x2.first) ∧ W.cell? ⟨g, 17, none⟩ = some (s2) ∧ W.cell? ⟨g, 18, none⟩ = some (.int .i64 x2.keep) ∧ W.cell? ⟨g, 19, none⟩ = some (.int .i64 keep) ∧ W.cell? ⟨g, 20, none⟩ = some (.int .i64 time) ∧ W.cell? ⟨g, 21, none⟩ = some (v5) := by
  refine ⟨?_, ?_, ?_, ?_, ?_, ?_, ?_, ?_, ?_, ?_, ?_, ?_, ?_, ?_, ?_, ?_, ?_, ?_, ?_, ?_, ?_, ?_⟩ <;> rw [cell_of_row _ _ _ _ _ _ h] <;> rfl
/-- a filter that lets all pass -/
theorem passAll (L M_ F v : Value) (k : Value) (w : World) : Calls Tryz.prog 193 #[.agg #[L, M_, F, v, k]] w fun e w' => e = .returned (.bool true) ∧ Below w.heap.size w w' := by
  go_enter Tryz.func193, Tryz.ntmps193
  go_wp2
  go_ret
  exact ⟨rfl, (Below.refl _ _).alloc (Nat.le_refl _) _⟩
theorem own1 (w : World) (u : Value) : (w.alloc (.cells #[u] 29)).ownsRow w.heap.size 29 1 (.slice (some ⟨w.heap.size, 0, none⟩) 1 1) 1 [u] :=
  ⟨rfl, .inr ⟨w.heap.size, 1, #[u], rfl, Nat.le_refl _, heap_alloc_new w _, Nat.le_refl _, by unfold maxLen; omega, rfl, rfl⟩⟩
theorem low_app {E : TypeId} {sz n : Nat} {w0 w w' : World} {v : Value} {cs : List Value} (hb : Below w0.heap.size w0 w) (ho : w.ownsRow w0.heap.size E sz v n cs) (hg : w.grownBy w' v.ownBlock) : Below w0.heap.size w0 w' :=
  hb.grown hg hb.size fun k hk => (World.ownsRow.lt ho k hk).1
theorem slot_new {w w' : World} {cs : Array Value} {t : TypeId} {u : Value} (hb : Below (w.alloc (.cells cs t)).heap.size (w.alloc (.cells cs t)) w') (h : cs[0]? = some u) : w'.cell? ⟨w.heap.size, 0, none⟩ = some u := by
  rw [hb.cell (p := ⟨w.heap.size, 0, none⟩) (by simp), cell_of_row _ _ _ _ _ _ (heap_alloc_new w _)]
  exact h
/-- append of one slice to a slice of slices -/
theorem app_sl {ops : Array Oper} {rest : List Oper} {o : Oper} {a : Act} {Q : Exit → Act → World → Prop} (hgd : o.guard = none) (s x : Operand)
    (ho : o.op = .call { callee := .builtin .append, args := #[s, x], argTypes := #[30, 30] })
    (w : World) (base : Nat) (v : Value) (n : Nat) (vs : List Value) (hs : a.eval s = v) (hown : w.ownsRow base 29 1 v n vs) (b cc : Nat) (u : Value)
    (hx : a.eval x = .slice (some ⟨b, 0, none⟩) 1 cc) (hcell : w.cell? ⟨b, 0, none⟩ = some u) (hu : u.oneCell' = true) (hl : n ≤ 1000000) (hbase : base ≤ w.heap.size)
    (h : ∀ g cap w', w'.ownsRow base 29 1 (.slice (some ⟨g, 0, none⟩) (n + 1) cap) (n + 1) (vs ++ [u]) → w.grownBy w' v.ownBlock →
      wpList Tryz.prog ops Q rest (a.put o.dst (.slice (some ⟨g, 0, none⟩) (n + 1) cap)) w') : wpList Tryz.prog ops Q (o :: rest) a w := by
  obtain ⟨i0, hi, hz0, hz1, hz2⟩ := info_parts lvl_info
  refine wpList_append_lies w hgd s x _ ho base _ i0 (.slice none 0 0) 1 24 Tryz.underlying30 hi hz0 hz1 hz2 rfl (by decide) v n vs hs hown ⟨b, 0, none⟩ 1 cc [u] hx rfl ?_ ?_ (by decide) ?_ ?_ hbase _ rfl ?_
  · intro j y hj
    match j, hj with
    | 0, hj => simp at hj; subst hj; simpa [Addr.add] using hcell
  · intro y hy; simp at hy; subst hy; exact hu
  · unfold maxLen; omega
  · omega
  · intro g cap w' h2 h3 _ _
    exact h g cap w' h2 h3

set_option maxHeartbeats 8000000 in
set_option maxRecDepth 100000 in
theorem passI (w : World) (g : Nat) (A0 A1 A2 A3 : Option Addr) (n0 n1 n2 n3 c0 c1 c2 c3 : Nat) (x0 x1 x2 : Sf) (B0 B1 B2 : Option Addr) (m0 m1 m2 d0 d1 d2 : Nat) (v5 : Value) (keep time : Int)
    (hbox : w.heap[g]? = some (.cells (treeC (.slice A0 n0 c0) (.slice A1 n1 c1) x0 (.slice B0 m0 d0) (.slice A2 n2 c2) x1 (.slice B1 m1 d1) (.slice A3 n3 c3) x2 (.slice B2 m2 d2) keep time v5) 119 (0, 0))) :
    Calls Tryz.prog 72 #[.pointer (some ⟨g, 0, none⟩), .func (.func 193) #[] #[]] w fun e w' => ∃ gg cap, e = .returned (.slice (some ⟨gg, 0, none⟩) 4 cap) ∧ w'.ownsRow w.heap.size 29 1 (.slice (some ⟨gg, 0, none⟩) 4 cap) 4 [.slice A0 n0 c0, .slice A1 n1 c1, .slice A2 n2 c2, .slice A3 n3 c3] ∧ Below w.heap.size w w' := by
  have hgl : g < w.heap.size := (Array.getElem?_eq_some_iff.1 hbox).1
  obtain ⟨q0, -⟩ := tree_cells hbox
  obtain ⟨W1, hW1⟩ : ∃ W, W = w.alloc (.cells #[.slice A0 n0 c0] 29) := ⟨_, rfl⟩
  have hb1 : Below w.heap.size w W1 := by rw [hW1]; exact (Below.refl _ _).alloc (Nat.le_refl _) _
  have HO := Lib.hid (show W1.ownsRow w.heap.size 29 1 (.slice (some ⟨w.heap.size, 0, none⟩) 1 1) 1 [.slice A0 n0 c0] by rw [hW1]; exact own1 w _)
  obtain ⟨-, k1, k2, k3, k4, k5, k6, k7, k8, k9, k10, k11, k12, k13, k14, k15, k16, k17, k18, k19, k20, k21⟩ := tree_cells ((hb1.block g hgl).trans hbox)
  have HB := Lib.hid hb1
  have HW1 := Lib.hid hW1
  clear hbox hb1 hW1
  go_enter Tryz.func72, Tryz.ntmps72
  go_upto_region 2 with fail
  rw [← HW1.out]
  go_wp2_with fail
  clear k1 k2 k3 k4 k5 k6 k7 k8 k9 k10 k11 k12 k13 k14 k15 k16 k17 k18 k19 k20 k21
  have hx0 := fun W => idx0 (.slice A1 n1 c1) (.string x0.letters) (.string x0.more) (.string x0.first) (.slice B0 m0 d0) (.int .i64 x0.keep) (.slice A2 n2 c2) (.string x1.letters) (.string x1.more) (.string x1.first) (.slice B1 m1 d1) (.int .i64 x1.keep) (.slice A3 n3 c3) (.string x2.letters) (.string x2.more) (.string x2.first) (.slice B2 m2 d2) (.int .i64 x2.keep) W
  have hx1 := fun W => idx1 (.slice A1 n1 c1) (.string x0.letters) (.string x0.more) (.string x0.first) (.slice B0 m0 d0) (.int .i64 x0.keep) (.slice A2 n2 c2) (.string x1.letters) (.string x1.more) (.string x1.first) (.slice B1 m1 d1) (.int .i64 x1.keep) (.slice A3 n3 c3) (.string x2.letters) (.string x2.more) (.string x2.first) (.slice B2 m2 d2) (.int .i64 x2.keep) W
  have hx2 := fun W => idx2 (.slice A1 n1 c1) (.string x0.letters) (.string x0.more) (.string x0.first) (.slice B0 m0 d0) (.int .i64 x0.keep) (.slice A2 n2 c2) (.string x1.letters) (.string x1.more) (.string x1.first) (.slice B1 m1 d1) (.int .i64 x1.keep) (.slice A3 n3 c3) (.string x2.letters) (.string x2.more) (.string x2.first) (.slice B2 m2 d2) (.int .i64 x2.keep) W
  refine wp_loop_rounds 4 ?_
  rw [rounds_succ]
  go_wp2_with fail
  go_at_call 193
  refine Calls.mono (passAll _ _ _ _ _ _) ?_
  rintro e y1 ⟨rfl, by1⟩
  have p1 := slot_new by1 (u := .slice A1 n1 c1) rfl
  have HP1 := Lib.hid (rowBelow (World.ownsRow.alloc HO.out _) by1)
  have HQ1 := Lib.hid ((HB.out.alloc HB.out.size _).trans (by1.mono (Nat.le_trans HB.out.size (by simp))))
  clear by1
  go_wp2_with (at_builtin; go_must (refine app_sl rfl (.tmp 24) (.tmp 27) rfl _ w.heap.size _ 1 [.slice A0 n0 c0] rfl (World.ownsRow.alloc HP1.out _) y1.heap.size 1 (.slice A1 n1 c1) rfl (cell_new _ _ _) rfl (by omega) (Nat.le_trans HQ1.out.size (by simp)) ?_); intro g1 cap1 z1 o1 gr1; have HO1 := Lib.hid o1; have HB1 := Lib.hid (low_app (HQ1.out.alloc HQ1.out.size _) (World.ownsRow.alloc HP1.out _) gr1); clear o1 gr1 p1)
  rw [rounds_succ]
  go_wp2_with fail
  go_at_call 193
  refine Calls.mono (passAll _ _ _ _ _ _) ?_
  rintro e y2 ⟨rfl, by2⟩
  have p2 := slot_new by2 (u := .slice A2 n2 c2) rfl
  have HP2 := Lib.hid (rowBelow (World.ownsRow.alloc HO1.out _) by2)
  have HQ2 := Lib.hid ((HB1.out.alloc HB1.out.size _).trans (by2.mono (Nat.le_trans HB1.out.size (by simp))))
  clear by2
  go_wp2_with (at_builtin; go_must (refine app_sl rfl (.tmp 24) (.tmp 27) rfl _ w.heap.size _ 2 [.slice A0 n0 c0, .slice A1 n1 c1] rfl (World.ownsRow.alloc HP2.out _) y2.heap.size 1 (.slice A2 n2 c2) rfl (cell_new _ _ _) rfl (by omega) (Nat.le_trans HQ2.out.size (by simp)) ?_); intro g2 cap2 z2 o2 gr2; have HO2 := Lib.hid o2; have HB2 := Lib.hid (low_app (HQ2.out.alloc HQ2.out.size _) (World.ownsRow.alloc HP2.out _) gr2); clear o2 gr2 p2)
  rw [rounds_succ]
  go_wp2_with fail
  go_at_call 193
  refine Calls.mono (passAll _ _ _ _ _ _) ?_
  rintro e y3 ⟨rfl, by3⟩
  have p3 := slot_new by3 (u := .slice A3 n3 c3) rfl
  have HP3 := Lib.hid (rowBelow (World.ownsRow.alloc HO2.out _) by3)
  have HQ3 := Lib.hid ((HB2.out.alloc HB2.out.size _).trans (by3.mono (Nat.le_trans HB2.out.size (by simp))))
  clear by3
  go_wp2_with (at_builtin; go_must (refine app_sl rfl (.tmp 24) (.tmp 27) rfl _ w.heap.size _ 3 [.slice A0 n0 c0, .slice A1 n1 c1, .slice A2 n2 c2] rfl (World.ownsRow.alloc HP3.out _) y3.heap.size 1 (.slice A3 n3 c3) rfl (cell_new _ _ _) rfl (by omega) (Nat.le_trans HQ3.out.size (by simp)) ?_); intro g3 cap3 z3 o3 gr3; have HO3 := Lib.hid o3; have HB3 := Lib.hid (low_app (HQ3.out.alloc HQ3.out.size _) (World.ownsRow.alloc HP3.out _) gr3); clear o3 gr3 p3)
  rw [rounds_succ]
  go_wp2
  go_ret
  exact ⟨g3, cap3, rfl, HO3.out, HB3.out⟩

set_option maxHeartbeats 8000000 in
set_option maxRecDepth 100000 in
theorem runsI (w : World) (g : Nat) (A0 A1 A2 A3 : Option Addr) (n0 n1 n2 n3 c0 c1 c2 c3 : Nat) (x0 x1 x2 : Sf) (B0 B1 B2 : Option Addr) (m0 m1 m2 d0 d1 d2 : Nat) (v5 : Value) (keep time : Int)
    (hbox : w.heap[g]? = some (.cells (treeC (.slice A0 n0 c0) (.slice A1 n1 c1) x0 (.slice B0 m0 d0) (.slice A2 n2 c2) x1 (.slice B1 m1 d1) (.slice A3 n3 c3) x2 (.slice B2 m2 d2) keep time v5) 119 (0, 0))) :
    Calls Tryz.prog 168 #[.pointer (some ⟨g, 0, none⟩)] w fun e w' => ∃ gg cap, e = .returned (.slice (some ⟨gg, 0, none⟩) 4 cap) ∧ w'.ownsRow w.heap.size 29 1 (.slice (some ⟨gg, 0, none⟩) 4 cap) 4 [.slice A0 n0 c0, .slice A1 n1 c1, .slice A2 n2 c2, .slice A3 n3 c3] ∧ Below w.heap.size w w' := by
  go_enter Tryz.func168, Tryz.ntmps168
  go_wp2_with fail
  go_at_call 72
  refine Calls.mono (passI w g A0 A1 A2 A3 n0 n1 n2 n3 c0 c1 c2 c3 x0 x1 x2 B0 B1 B2 m0 m1 m2 d0 d1 d2 v5 keep time hbox) ?_
  rintro e w2 ⟨gg, cap, rfl, ho, hb⟩
  have HO := Lib.hid ho
  have HB := Lib.hid hb
  clear ho hb hbox
  go_wp2
  go_ret
  exact ⟨gg, cap, rfl, HO.out, HB.out⟩

end Go.Proofs.YtfhpkcamigkmdaaGreatDoor.W
namespace Go.Proofs.YtfhpkcamigkmdaaGreatDoor.W
open Go.RowKit K R

set_option maxHeartbeats 2000000 in
theorem laterC (w : World) (bp g : Nat) (k : ByteArray) (v : Int) (gn : Bool) (t now : Int) (h1 : w.cell? ⟨bp, 0, none⟩ = some (.pointer (some ⟨g, 0, none⟩))) (h2 : w.cell? ⟨g, 20, none⟩ = some (.int .i64 now)) :
    Calls Tryz.prog 167 #[.agg #[.string k, .int .i64 v, .bool gn, .int .i64 t], .pointer (some ⟨bp, 0, none⟩)] w fun e w' => e = .returned (.bool (decide (now < t))) ∧ Below w.heap.size w w' := by
  obtain ⟨W0, hW0⟩ : ∃ W, W = w.alloc (.cells #[.string k, .int .i64 v, .bool gn, .int .i64 t] 83) := ⟨_, rfl⟩
  have hb : Below w.heap.size w W0 := by rw [hW0]; exact (Below.refl _ _).alloc (Nat.le_refl _) _
  have i1 := (hb.cell (p := ⟨bp, 0, none⟩) (block_lt_of_cell h1)).trans h1
  have i2 := (hb.cell (p := ⟨g, 20, none⟩) (block_lt_of_cell h2)).trans h2
  have i3 : W0.cell? ⟨w.heap.size, 3, none⟩ = some (.int .i64 t) := by rw [hW0, cell_of_row _ _ _ _ _ _ (heap_alloc_new w _)]; rfl
  have HB := Lib.hid hb
  have HW := Lib.hid hW0
  clear hb hW0 h1 h2
  go_enter Tryz.func167, Tryz.ntmps167
  go_upto_region 1 with fail
  rw [← HW.out]
  go_quiet (fail)
  go_wp2
  go_ret
  exact ⟨rfl, bel2 HB.out (by rfl) (by rfl) (by rfl) (by rfl)⟩

/-- an entry is later than now -/
def lateB (now : Int) (e : En) : Bool := decide (now < e.time)
set_option maxHeartbeats 4000000 in
theorem indexE (w : World) (B n c bp g : Nat) (A : Option Addr) (l : List En) (now : Int) (hr : Ents w B A n l) (hB : B ≤ w.heap.size) (hn : n ≤ maxLen) (h1 : w.cell? ⟨bp, 0, none⟩ = some (.pointer (some ⟨g, 0, none⟩))) (h2 : w.cell? ⟨g, 20, none⟩ = some (.int .i64 now)) :
    Calls Tryz.prog 194 #[.slice A n c, .func (.func 167) #[] #[.pointer (some ⟨bp, 0, none⟩)]] w fun e w' => (∃ z : Int, e = .returned (.int .i64 z) ∧ (l.any (lateB now) = true ∧ 0 ≤ z ∨ l.any (lateB now) = false ∧ z = -1)) ∧ Below w.heap.size w w' := by
  have hlen := hr.len
  subst hlen
  unfold maxLen at hn
  have HR := Lib.hid hr
  have hbp := block_lt_of_cell h1
  have hgl := block_lt_of_cell h2
  have HC := Lib.hid (show ∀ W k v gn t, Below w.heap.size w W → Calls Tryz.prog 167 #[.agg #[.string k, .int .i64 v, .bool gn, .int .i64 t], .pointer (some ⟨bp, 0, none⟩)] W fun e w' => e = .returned (.bool (decide (now < t))) ∧ Below w.heap.size w w' from fun W k v gn t hW =>
    (laterC W bp g k v gn t now ((hW.cell (p := ⟨bp, 0, none⟩) hbp).trans h1) ((hW.cell (p := ⟨g, 20, none⟩) hgl).trans h2)).mono fun _ _ ⟨x, y⟩ => ⟨x, hW.trans (y.mono hW.size)⟩)
  clear hr h1 h2
  go_enter Tryz.func194, Tryz.ntmps194
  go_wp2_with fail
  go_loopw [8] (fun i wr => ∃ k : Nat, k ≤ l.length ∧ i = .int .i64 (k : Nat) ∧ Hid (∀ j (h : j < l.length), j < k → lateB now l[j] = false) ∧ Below w.heap.size w wr) (fun i _ => l.length - (intOf i).toNat)
  case atStart => exact ⟨0, Nat.zero_le _, rfl, Lib.hid (fun j _ h => absurd h (Nat.not_lt_zero _)), Below.refl _ _⟩
  case round =>
    obtain ⟨k, hk, rfl, hno, hb⟩ := hrel
    have HBL := Lib.hid hb
    clear hb
    by_cases hlt : k < l.length
    · obtain ⟨kb, ko, hA, hkb, c0, c1, c2, c3⟩ := (HR.out.below HBL.out hB).cell k hlt
      subst hA
      obtain ⟨x0, h0⟩ : ∃ y, y = l[k].key := ⟨_, rfl⟩
      obtain ⟨x1, h1⟩ : ∃ y, y = l[k].val := ⟨_, rfl⟩
      obtain ⟨x2, h2⟩ : ∃ y, y = l[k].gone := ⟨_, rfl⟩
      obtain ⟨x3, h3⟩ : ∃ y, y = l[k].time := ⟨_, rfl⟩
      rw [← h0] at c0
      rw [← h1] at c1
      rw [← h2] at c2
      rw [← h3] at c3
      have z0 : (0 : Int) ≤ (k : Int) := by omega
      have z1 : (k : Int) < (l.length : Int) := by omega
      obtain ⟨b, hbq⟩ : ∃ b, b = decide (now < x3) := ⟨_, rfl⟩
      have HZ := Lib.hid (HC.out wr x0 x1 x2 x3 HBL.out)
      rw [← hbq] at HZ
      have HLB := Lib.hid (show lateB now l[k] = b by unfold lateB; rw [← h3, hbq])
      clear hbq h0 h1 h2 h3
      cases b with
      | false =>
        go_wp2_with (go_at_call 167; refine Calls.mono HZ.out ?_; rintro e w5 ⟨rfl, hb5⟩; have HB5 := Lib.hid hb5; clear hb5)
        go_roundw
        case rel =>
          refine ⟨k + 1, by omega, by go_num, Lib.hid (fun j h hj => ?_), HB5.out⟩
          by_cases e : j = k
          · subst e; exact HLB.out
          · exact hno.out j h (by omega)
        case measure => simp [intOf]; omega
      | true =>
        go_wp2_with (go_at_call 167; refine Calls.mono HZ.out ?_; rintro e w5 ⟨rfl, hb5⟩; have HB5 := Lib.hid hb5; clear hb5)
        go_ret
        exact ⟨⟨(k : Int), rfl, .inl ⟨List.any_eq_true.mpr ⟨_, List.getElem_mem hlt, HLB.out⟩, by omega⟩⟩, HB5.out⟩
    · have hke : k = l.length := by omega
      subst hke
      have HA := Lib.hid (show l.any (lateB now) = false by
        rw [← Bool.not_eq_true, List.any_eq_true]
        rintro ⟨x, hx, hxb⟩
        obtain ⟨i, hi, rfl⟩ := List.getElem_of_mem hx
        rw [hno.out i hi hi] at hxb; cases hxb)
      go_wp2
      go_ret
      exact ⟨⟨-1, rfl, .inr ⟨HA.out, rfl⟩⟩, HBL.out⟩

set_option maxHeartbeats 2000000 in
theorem containsE (w : World) (B n c bp g : Nat) (A : Option Addr) (l : List En) (now : Int) (hr : Ents w B A n l) (hB : B ≤ w.heap.size) (hn : n ≤ maxLen) (h1 : w.cell? ⟨bp, 0, none⟩ = some (.pointer (some ⟨g, 0, none⟩))) (h2 : w.cell? ⟨g, 20, none⟩ = some (.int .i64 now)) :
    Calls Tryz.prog 169 #[.slice A n c, .func (.func 167) #[] #[.pointer (some ⟨bp, 0, none⟩)]] w fun e w' => e = .returned (.bool (l.any (lateB now))) ∧ Below w.heap.size w w' := by
  have HC := Lib.hid (indexE w B n c bp g A l now hr hB hn h1 h2)
  clear hr h1 h2
  obtain ⟨q, hq⟩ : ∃ q, q = l.any (lateB now) := ⟨_, rfl⟩
  rw [← hq] at HC ⊢
  clear hq
  cases q
  · go_enter Tryz.func169, Tryz.ntmps169
    go_wp2_with fail
    go_at_call 194
    refine Calls.mono HC.out ?_
    rintro e w2 ⟨⟨z, rfl, hz⟩, hb⟩
    have HB := Lib.hid hb
    clear hb
    have hz1 : z = -1 := by
      rcases hz with ⟨h, -⟩ | ⟨-, h⟩
      · cases h
      · exact h
    subst hz1
    clear hz
    go_wp2
    go_ret
    exact ⟨rfl, HB.out⟩
  · go_enter Tryz.func169, Tryz.ntmps169
    go_wp2_with fail
    go_at_call 194
    refine Calls.mono HC.out ?_
    rintro e w2 ⟨⟨z, rfl, hz⟩, hb⟩
    have HB := Lib.hid hb
    clear hb
    have hz1 : 0 ≤ z := by
      rcases hz with ⟨-, h⟩ | ⟨h, -⟩
      · exact h
      · cases h
    clear hz
    go_wp2
    go_ret
    exact ⟨rfl, HB.out⟩

end Go.Proofs.YtfhpkcamigkmdaaGreatDoor.W
namespace Go.Proofs.YtfhpkcamigkmdaaGreatDoor.W
open Go.RowKit K R

/-- what a tree holds -/
structure Tree where
  top : List En
  r0 : List En
  r1 : List En
  r2 : List En
  x0 : Sf
  x1 : Sf
  x2 : Sf
  keep : Int
  time : Int
  times : List Int
def Tree.runs (t : Tree) : List (List En) := [t.top, t.r0, t.r1, t.r2]
/-- a tree in memory, at block g, with these slices -/
structure TreeM (w : World) (g : Nat) (A0 A1 A2 A3 B0 B1 B2 A5 : Option Addr) (c0 c1 c2 c3 d0 d1 d2 c5 : Nat) (t : Tree) : Prop where
  box : w.heap[g]? = some (.cells (treeC (.slice A0 t.top.length c0) (.slice A1 t.r0.length c1) t.x0 (.slice B0 t.x0.rests.length d0) (.slice A2 t.r1.length c2) t.x1 (.slice B1 t.x1.rests.length d1) (.slice A3 t.r2.length c3) t.x2 (.slice B2 t.x2.rests.length d2) t.keep t.time (.slice A5 t.times.length c5)) 119 (0, 0))
  e0 : Ents w w.heap.size A0 t.top.length t.top
  e1 : Ents w w.heap.size A1 t.r0.length t.r0
  e2 : Ents w w.heap.size A2 t.r1.length t.r1
  e3 : Ents w w.heap.size A3 t.r2.length t.r2
  nums : Nums w w.heap.size A5 t.times.length t.times
  m0 : t.top.length ≤ c0 ∧ c0 ≤ maxLen
  m1 : t.r0.length ≤ c1 ∧ c1 ≤ maxLen
  m2 : t.r1.length ≤ c2 ∧ c2 ≤ maxLen
  m3 : t.r2.length ≤ c3 ∧ c3 ≤ maxLen
theorem TreeM.below {w w' : World} {g : Nat} {A0 A1 A2 A3 B0 B1 B2 A5 : Option Addr} {c0 c1 c2 c3 d0 d1 d2 c5 : Nat} {t : Tree} (h : TreeM w g A0 A1 A2 A3 B0 B1 B2 A5 c0 c1 c2 c3 d0 d1 d2 c5 t) (hb : Below w.heap.size w w') : TreeM w' g A0 A1 A2 A3 B0 B1 B2 A5 c0 c1 c2 c3 d0 d1 d2 c5 t :=
  ⟨(hb.block g (Array.getElem?_eq_some_iff.1 h.box).1).trans h.box, (h.e0.below hb (Nat.le_refl _)).more hb.size, (h.e1.below hb (Nat.le_refl _)).more hb.size, (h.e2.below hb (Nat.le_refl _)).more hb.size, (h.e3.below hb (Nat.le_refl _)).more hb.size, (h.nums.below hb (Nat.le_refl _)).more hb.size, h.m0, h.m1, h.m2, h.m3⟩
/-- a tree's runs, as runs() hands them on -/
theorem runsT {w : World} {g : Nat} {A0 A1 A2 A3 B0 B1 B2 A5 : Option Addr} {c0 c1 c2 c3 d0 d1 d2 c5 : Nat} {t : Tree} (h : TreeM w g A0 A1 A2 A3 B0 B1 B2 A5 c0 c1 c2 c3 d0 d1 d2 c5 t) :
    Calls Tryz.prog 168 #[.pointer (some ⟨g, 0, none⟩)] w fun e w' => ∃ gg cap, e = .returned (.slice (some ⟨gg, 0, none⟩) 4 cap) ∧ 4 ≤ cap ∧ Lvls w' w'.heap.size (some ⟨gg, 0, none⟩) 4 t.runs ∧ Below w.heap.size w w' := by
  refine (runsI w g A0 A1 A2 A3 _ _ _ _ c0 c1 c2 c3 t.x0 t.x1 t.x2 B0 B1 B2 _ _ _ d0 d1 d2 _ t.keep t.time h.box).mono ?_
  rintro e w' ⟨gg, cap, rfl, ho, hb⟩
  have ht := h.below hb
  have hlt := (World.ownsRow.lt ho gg rfl).2
  refine ⟨gg, cap, rfl, ?_, ⟨rfl, fun i hi => ?_⟩, hb⟩
  · rcases ho.2 with ⟨hv, -⟩ | ⟨_, _, _, hv, _, _, hc, _⟩
    · cases hv
    · injection hv with _ _ e3; omega
  · have h4 : i < 4 := hi
    rcases (by omega : i = 0 ∨ i = 1 ∨ i = 2 ∨ i = 3) with rfl | rfl | rfl | rfl
    · exact ⟨gg, 0, A0, c0, rfl, hlt, by rw [Nat.zero_add]; exact rowGet ho (i := 0) rfl, ht.e0, ht.m0.1, ht.m0.2⟩
    · exact ⟨gg, 0, A1, c1, rfl, hlt, by rw [Nat.zero_add]; exact rowGet ho (i := 1) rfl, ht.e1, ht.m1.1, ht.m1.2⟩
    · exact ⟨gg, 0, A2, c2, rfl, hlt, by rw [Nat.zero_add]; exact rowGet ho (i := 2) rfl, ht.e2, ht.m2.1, ht.m2.2⟩
    · exact ⟨gg, 0, A3, c3, rfl, hlt, by rw [Nat.zero_add]; exact rowGet ho (i := 3) rfl, ht.e3, ht.m3.1, ht.m3.2⟩

/-- none of the first runs, but the last one's, is later -/
def noneB (t : Tree) : Bool := !((t.top.any (lateB t.time)) || ((t.r0.any (lateB t.time)) || (t.r1.any (lateB t.time))))

set_option maxHeartbeats 4000000 in
theorem noneI (w : World) (g : Nat) (A0 A1 A2 A3 B0 B1 B2 A5 : Option Addr) (c0 c1 c2 c3 d0 d1 d2 c5 : Nat) (t : Tree) (h : TreeM w g A0 A1 A2 A3 B0 B1 B2 A5 c0 c1 c2 c3 d0 d1 d2 c5 t) :
    Calls Tryz.prog 138 #[.pointer (some ⟨g, 0, none⟩)] w fun e w' => e = .returned (.bool (noneB t)) ∧ Below w.heap.size w w' := by
  obtain ⟨W0, hW0⟩ : ∃ W, W = w.alloc (.cells #[.pointer (some ⟨g, 0, none⟩)] 69) := ⟨_, rfl⟩
  have hb0 : Below w.heap.size w W0 := by rw [hW0]; exact (Below.refl _ _).alloc (Nat.le_refl _) _
  have hp : W0.cell? ⟨w.heap.size, 0, none⟩ = some (.pointer (some ⟨g, 0, none⟩)) := by rw [hW0]; exact cell_new _ _ _
  have ht0 := h.below hb0
  have HT := Lib.hid ht0
  have HB := Lib.hid hb0
  have HW := Lib.hid hW0
  have hpl := block_lt_of_cell hp
  have HP := Lib.hid hp
  clear h hb0 hW0 ht0
  go_enter Tryz.func138, Tryz.ntmps138
  go_upto_region 2 with fail
  rw [← HW.out]
  go_wp2_with fail
  go_at_call 168
  refine Calls.mono (runsT HT.out) ?_
  rintro e w1 ⟨gg, cap, rfl, hcap, hl, hb⟩
  have HL := Lib.hid hl
  have HB1 := Lib.hid hb
  have hc3 : (3 : Int) ≤ (cap : Int) := by omega
  clear hl hb hp
  go_wp2_with fail
  go_loopw [11] (fun i wr => ∃ k : Nat, k ≤ 3 ∧ i = .int .i64 (k : Nat) ∧ Hid (∀ j (h : j < t.runs.length), j < k → (t.runs[j]).any (lateB t.time) = false) ∧ Below w1.heap.size w1 wr) (fun i _ => 3 - (intOf i).toNat)
  case atStart => exact ⟨0, by omega, rfl, Lib.hid (fun j _ h => absurd h (Nat.not_lt_zero _)), Below.refl _ _⟩
  case round =>
    obtain ⟨k, hk, rfl, hno, hb⟩ := hrel
    have HBL := Lib.hid hb
    have HBW := Lib.hid (HB1.out.trans (hb.mono HB1.out.size))
    clear hb
    by_cases hlt : k < 3
    · have hk4 : k < t.runs.length := by show k < 4; omega
      obtain ⟨kb, ko, A', c', hA, hkb, d0, he, e1, e2⟩ := HL.out.cell k hk4
      simp only [Option.some.injEq, Addr.mk.injEq, and_true] at hA
      obtain ⟨rfl, rfl⟩ := hA
      have q0 := (HBL.out.cell (p := ⟨gg, 0 + k, none⟩) hkb).trans d0
      rw [Nat.zero_add] at q0
      obtain ⟨r, h0⟩ : ∃ r, r = t.runs[k] := ⟨_, rfl⟩
      rw [← h0] at q0 he e1
      have H0 := Lib.hid h0
      have z0 : (0 : Int) ≤ (k : Int) := by omega
      have z1 : (k : Int) < 3 := by omega
      have htw := HT.out.below HBW.out
      have HC := Lib.hid (containsE wr wr.heap.size r.length c' w.heap.size g A' r t.time ((he.below HBL.out (Nat.le_refl _)).more HBL.out.size) (Nat.le_refl _) (Nat.le_trans e1 e2) ((HBW.out.cell (p := ⟨w.heap.size, 0, none⟩) hpl).trans HP.out) (tree_cells htw.box).2.2.2.2.2.2.2.2.2.2.2.2.2.2.2.2.2.2.2.2.1)
      obtain ⟨b, hb⟩ : ∃ b, b = r.any (lateB t.time) := ⟨_, rfl⟩
      rw [← hb] at HC
      have HQ := Lib.hid hb
      clear h0 hb he d0 htw e1
      cases b with
      | true =>
        go_wp2_with (go_at_call 169; refine Calls.mono HC.out ?_; rintro e w5 ⟨rfl, hb5⟩; have HB5 := Lib.hid hb5; clear hb5)
        go_ret
        refine ⟨ret_bool ?_, HB.out.trans ((HBW.out.trans (HB5.out.mono HBW.out.size)).mono HB.out.size)⟩
        have hq := HQ.out
        rw [H0.out] at hq
        unfold noneB
        rcases (by omega : k = 0 ∨ k = 1 ∨ k = 2) with rfl | rfl | rfl
        · rw [show t.top.any (lateB t.time) = true from hq.symm]; simp
        · rw [show t.r0.any (lateB t.time) = true from hq.symm]; simp
        · rw [show t.r1.any (lateB t.time) = true from hq.symm]; simp
      | false =>
        go_wp2_with (go_at_call 169; refine Calls.mono HC.out ?_; rintro e w5 ⟨rfl, hb5⟩; have HB5 := Lib.hid hb5; clear hb5)
        go_roundw
        case rel =>
          refine ⟨k + 1, by omega, by go_num, Lib.hid (fun j h hj => ?_), HBL.out.trans (HB5.out.mono HBL.out.size)⟩
          by_cases e : j = k
          · subst e; rw [← H0.out]; exact HQ.out.symm
          · exact hno.out j h (by omega)
        case measure => simp [intOf]; omega
    · have hke : k = 3 := by omega
      subst hke
      have HN := Lib.hid (show noneB t = true by
        have a0 := hno.out 0 (by show 0 < 4; omega) (by omega)
        have a1 := hno.out 1 (by show 1 < 4; omega) (by omega)
        have a2 := hno.out 2 (by show 2 < 4; omega) (by omega)
        unfold noneB
        rw [show t.top.any (lateB t.time) = false from a0, show t.r0.any (lateB t.time) = false from a1, show t.r1.any (lateB t.time) = false from a2]
        rfl)
      go_wp2
      go_ret
      exact ⟨ret_bool HN.out.symm, HB.out.trans (HBW.out.mono HB.out.size)⟩

end Go.Proofs.YtfhpkcamigkmdaaGreatDoor.W
namespace Go.Proofs.YtfhpkcamigkmdaaGreatDoor.W
open Go.RowKit K R

theorem low_app' {E : TypeId} {sz n : Nat} {w0 w w' : World} {v : Value} {cs : List Value} (hb : Below w0.heap.size w0 w) (ho : w.ownsRow w0.heap.size E sz v n cs) (hg : w.grownBy w' v.ownBlock) : Below w0.heap.size w0 w' :=
  hb.grown hg hb.size fun k hk => (World.ownsRow.lt ho k hk).1

set_option maxHeartbeats 4000000 in
set_option maxRecDepth 100000 in
theorem growE (w : World) (n : Nat) (hn : n ≤ 1048576) :
    Calls Tryz.prog 127 #[.slice none 0 0, .int .i64 (n : Nat)] w (NewSE w []) := by
  have h1 : ¬ ((n : Int) < 0) := by omega
  have h3 : wrap64 ((n : Int) - 0) = (n : Int) := by unfold wrap64; omega
  by_cases h0 : n = 0
  · subst h0
    go_enter Tryz.func127, Tryz.ntmps127
    go_wp2
    go_ret
    exact ⟨_, rfl, ownE_nil _ _, Below.refl _ _⟩
  · obtain ⟨i0, hi, hz0, hz1, hz2⟩ := info_parts ent_info
    have h4 : (n : Int) > 0 := by omega
    have hold : (Builtin.firstCells i0.size 0 (.slice none 0 0)).run Tryz.prog w.drew = .ok ([] : List Value).toArray w.drew := by
      simp [Builtin.firstCells]
    have hrz : ∀ ty, (Builtin.append_ #[29, 3] ty #[.slice none 0 0, .int .i64 (n : Nat)]).run Tryz.prog w = _ := fun ty =>
      Lib.run_append_grow_zeros w 29 3 ty 83 i0 (.agg #[.string ⟨#[]⟩, .int .i64 0, .bool false, .int .i64 0]) .i64 .i64 Tryz.underlying29 Tryz.underlying3 hi hz0 none 0 0 [] hold n (by omega) (by rw [hz1]; omega) (by omega) (by omega) (by rw [hz2]; omega) (growslice_fits (by omega) (by rw [hz2]; omega))
    have hGn : 0 + n ≤ grownCap w (0 + n) 0 83 := grownCap_ge w _ _ _
    have hGm : grownCap w (0 + n) 0 83 ≤ maxLen := grownCap_le_maxLen w _ _ _ (by unfold maxLen; omega)
    obtain ⟨G, hG⟩ : ∃ G, G = grownCap w (0 + n) 0 83 := ⟨_, rfl⟩
    rw [← hG] at hGn hGm
    rw [Nat.zero_add] at hGn
    have hrz2 : ∃ W1, (∀ ty, (Builtin.append_ #[29, 3] ty #[.slice none 0 0, .int .i64 (n : Nat)]).run Tryz.prog w = .ok (.slice (some ⟨w.heap.size, 0, none⟩) n G) W1) ∧ OwnE W1 w.heap.size (.slice (some ⟨w.heap.size, 0, none⟩) 0 G) [] ∧ Below w.heap.size w W1 := by
      refine ⟨_, fun ty => by rw [hrz ty, ← hG, Nat.zero_add], ?_, ?_⟩
      · have h := World.ownsRow_made (base := w.heap.size) (e := 83) (size := 4) w.drew ((([] : List Value).toArray ++ Builtin.zeroCells (Value.agg #[.string ⟨#[]⟩, .int .i64 0, .bool false, .int .i64 0]).cells n) ++ Builtin.zeroCells (Value.agg #[.string ⟨#[]⟩, .int .i64 0, .bool false, .int .i64 0]).cells (G - n)) G (Nat.le_refl _) hGm (by rw [Array.size_append, Array.size_append, size_zeroCells, size_zeroCells]; show 0 + n * 4 + (G - n) * 4 = G * 4; omega)
        exact h
      · exact (show Below w.heap.size w w.drew from bel2 (Below.refl _ _) (by rfl) (by rfl) (by rfl) (by rfl)).alloc (Nat.le_refl _) _
    obtain ⟨W1, hr1, ho1, hb1⟩ := hrz2
    have HO := Lib.hid ho1
    have HB := Lib.hid hb1
    have z0 : (0 : Int) ≤ (n : Int) := by omega
    have hGi : (0 : Int) ≤ (G : Int) := by omega
    clear hrz hold hi hz0 hz1 hz2 ho1 hb1 hG hGn hGm h4
    have h5 : (0 : Int) < (n : Int) := by omega
    go_enter Tryz.func127, Tryz.ntmps127
    go_wp2_with (at_builtin; refine Lib.wpList_append_run _ rfl _ _ _ _ rfl _ _ rfl rfl _ _ (hr1 _) ?_)
    go_ret
    exact ⟨_, rfl, HO.out, HB.out⟩

/-- the first k runs, one behind the other -/
def flatTo (ls : List (List En)) (k : Nat) : List En := (ls.take k).flatten
theorem flatTo_succ {ls : List (List En)} {k : Nat} (h : k < ls.length) : flatTo ls (k + 1) = flatTo ls k ++ ls[k] := by
  unfold flatTo
  rw [List.take_succ_eq_append_getElem h, List.flatten_append]
  simp
theorem flatTo_all (ls : List (List En)) : flatTo ls ls.length = ls.flatten := by unfold flatTo; rw [List.take_of_length_le (Nat.le_refl _)]
theorem flatTo_le (ls : List (List En)) (k : Nat) : (flatTo ls k).length ≤ ls.flatten.length := by
  unfold flatTo
  conv => rhs; rw [← List.take_append_drop k ls]
  rw [List.flatten_append, List.length_append]; omega

set_option maxHeartbeats 8000000 in
set_option maxRecDepth 100000 in
theorem concatE (w : World) (B n c : Nat) (A : Option Addr) (ls : List (List En)) (hr : Lvls w B A n ls) (hB : B ≤ w.heap.size) (hn : n ≤ 1048576) (htot : ls.flatten.length ≤ 1048576) :
    Calls Tryz.prog 83 #[.slice A n c] w (NewSE w ls.flatten) := by
  have hlen := hr.len
  subst hlen
  have HR := Lib.hid hr
  obtain ⟨tot, ht⟩ : ∃ tot, tot = ls.flatten := ⟨_, rfl⟩
  have HFL := Lib.hid (show ∀ k, (flatTo ls k).length ≤ tot.length from fun k => by rw [ht]; exact flatTo_le ls k)
  have HFA := Lib.hid (show flatTo ls ls.length = tot by rw [ht]; exact flatTo_all ls)
  rw [← ht] at htot ⊢
  clear hr ht
  go_enter Tryz.func83, Tryz.ntmps83
  go_wp2_with fail
  go_loopw [3, 11] (fun s i wr => ∃ k : Nat, k ≤ ls.length ∧ i = .int .i64 (k : Nat) ∧ s = .int .i64 (((flatTo ls k).length : Nat) : Int) ∧ w = wr) (fun _ i _ => ls.length - (intOf i).toNat)
  case atStart => exact ⟨0, Nat.zero_le _, rfl, rfl, rfl⟩
  case round =>
    obtain ⟨k, hk, rfl, rfl, rfl⟩ := hrel
    by_cases hlt : k < ls.length
    · obtain ⟨kb, ko, A', c', hA, hkb, d0, he, e1, e2⟩ := HR.out.cell k hlt
      subst hA
      have hft := flatTo_succ hlt
      have hfl := HFL.out (k + 1)
      rw [hft, List.length_append] at hfl
      obtain ⟨r, h0⟩ : ∃ r, r = ls[k] := ⟨_, rfl⟩
      rw [← h0] at d0 hft hfl
      obtain ⟨m, hm⟩ : ∃ m, m = (flatTo ls k).length := ⟨_, rfl⟩
      rw [← hm] at hfl ⊢
      have HF := Lib.hid (show (flatTo ls (k + 1)).length = m + r.length by rw [hft, List.length_append, hm])
      have z0 : (0 : Int) ≤ (k : Int) := by omega
      have z1 : (k : Int) < (ls.length : Int) := by omega
      have hw : IntKind.i64.wrap ((m : Int) + (r.length : Int)) = ((m + r.length : Nat) : Int) := by rw [i64_z _ (by omega) (by omega)]; omega
      have hng : ¬ ((m + r.length : Nat) : Int) < 0 := by omega
      have hng2 : ¬ (m : Int) + (r.length : Int) < 0 := by omega
      clear hft hm h0 he e1
      go_wp2
      go_roundw
      case rel => exact ⟨k + 1, by omega, by go_num, by rw [HF.out]; first | rfl | (simp; done) | go_num, by first | rfl | trivial⟩
      case measure => simp [intOf]; omega
    · have hke : k = ls.length := by omega
      subst hke
      rw [HFA.out]
      go_wp2_with fail
      go_at_call 127
      refine Calls.mono (growE w tot.length htot) ?_
      rintro e w1 ⟨v1, rfl, o1, b1⟩
      have HO1 := Lib.hid o1
      have HB1 := Lib.hid b1
      clear o1 b1
      go_wp2_with fail
      go_loopw [6, 27] (fun v i wr => ∃ k : Nat, k ≤ ls.length ∧ i = .int .i64 (k : Nat) ∧ OwnE wr w.heap.size v (flatTo ls k) ∧ Below w.heap.size w wr) (fun _ i _ => ls.length - (intOf i).toNat)
      case atStart => exact ⟨0, Nat.zero_le _, rfl, HO1.out, HB1.out⟩
      case round =>
        obtain ⟨k, hk, rfl, ho, hb⟩ := hrel
        have HO := Lib.hid ho
        have HB := Lib.hid hb
        clear ho hb
        by_cases hlt : k < ls.length
        · obtain ⟨kb, ko, A', c', hA, hkb, d0, he, e1, e2⟩ := (HR.out.below HB.out hB).cell k hlt
          subst hA
          have hft := flatTo_succ hlt
          have hfl := HFL.out (k + 1)
          rw [hft, List.length_append] at hfl
          obtain ⟨r, h0⟩ : ∃ r, r = ls[k] := ⟨_, rfl⟩
          rw [← h0] at d0 hft hfl he
          have HF := Lib.hid hft
          have HE := Lib.hid he
          have z0 : (0 : Int) ≤ (k : Int) := by omega
          have z1 : (k : Int) < (ls.length : Int) := by omega
          obtain ⟨acc, ha⟩ : ∃ acc, acc = flatTo ls k := ⟨_, rfl⟩
          rw [← ha] at HO hfl HF
          clear hft h0 he ha
          go_wp2_with (at_builtin; go_must (refine app_ens rfl (.tmp 31) (.tmp 32) rfl _ w.heap.size _ acc rfl HO.out B r.length c' A' r rfl HE.out (by omega) HB.out.size ?_); intro v5 w5 o5 g5; have HO5 := Lib.hid o5; have HB5 := Lib.hid (low_app' HB.out HO.out g5); clear o5 g5)
          go_roundw
          case rel => exact ⟨k + 1, by omega, by go_num, by rw [HF.out]; exact HO5.out, HB5.out⟩
          case measure => simp [intOf]; omega
        · have hke : k = ls.length := by omega
          subst hke
          rw [HFA.out] at HO
          go_wp2
          go_ret
          exact ⟨_, rfl, HO.out, HB.out⟩

end Go.Proofs.YtfhpkcamigkmdaaGreatDoor.W
namespace Go.Proofs.YtfhpkcamigkmdaaGreatDoor.W
open Go.RowKit Go.WideMaps Go.Maps K R

theorem grownOf' {w w' : World} (h : Below w.heap.size w w') : w.grownBy w' none := ⟨h.os, h.tape, h.output, h.size, fun k hk _ => h.block k hk⟩
def klit (k : ByteArray) : Lit := .string k.data.toList
def dInt (z : Int) : DataW Unit := .lit (.int .i64 z)
/-- the map after some entries: of each key the time of its last one -/
def mapL (l : List En) : DataW Unit := l.foldl (fun m e => m.put (klit e.key) (dInt e.time)) (.map [])
theorem mapL_snoc (l : List En) (e : En) : mapL (l ++ [e]) = (mapL l).put (klit e.key) (dInt e.time) := by simp [mapL, List.foldl_append]
theorem mapL_is : ∀ (n : Nat) (l : List En), l.length = n → IsMap (mapL l)
  | 0, l, h => by
    have : l = [] := List.eq_nil_of_length_eq_zero h
    subst this
    exact isMap_empty
  | n + 1, l, h => by
    rcases List.eq_nil_or_concat l with rfl | ⟨L, b, rfl⟩
    · cases h
    · rw [List.concat_eq_append, mapL_snoc]
      exact (mapL_is n L (by simpa using h)).put _ _
theorem klit_inj {a b : ByteArray} (h : klit a = klit b) : a = b := by
  unfold klit at h
  injection h with h
  exact ba_ext (by rw [ByteArray.toList_eq, ByteArray.toList_eq]; exact h)
theorem mapL_at : ∀ (n : Nat) (l : List En), l.length = n → ∀ (k : ByteArray), Maps.has (mapL l) (klit k) = (lastT l k).isSome ∧ (mapL l).atKey (klit k) (dInt 0) = dInt ((lastT l k).getD 0)
  | 0, l, h, k => by
    have : l = [] := List.eq_nil_of_length_eq_zero h
    subst this
    exact ⟨rfl, rfl⟩
  | n + 1, l, h, k => by
    rcases List.eq_nil_or_concat l with rfl | ⟨L, b, rfl⟩
    · cases h
    · have hL : L.length = n := by simpa using h
      rw [List.concat_eq_append, mapL_snoc, lastT_snoc]
      by_cases e : b.key = k
      · rw [if_pos (eqs_iff.mpr e), ← e]
        exact ⟨has_put_same (mapL_is _ L rfl) (show WideAt.IsKeyLit (klit b.key) from trivial) _, atKey_put_same (mapL_is _ L rfl) (show WideAt.IsKeyLit (klit b.key) from trivial) _ _⟩
      · have hne : klit k ≠ klit b.key := fun h => e (klit_inj h).symm
        rw [if_neg (fun h => e (eqs_iff.mp h)), has_put_other hne, atKey_put_other hne]
        exact mapL_at n L hL k
theorem rowGrownZ {E : TypeId} {sz : Nat} {w w' : World} {base g n : Nat} {v : Value} {cs : List Value} (h : w.ownsRow base E sz v n cs) (hg : w.grownBy w' (some g)) (hlt : g < base) : w'.ownsRow base E sz v n cs :=
  World.ownsRow.kept h hg (by
    cases e : v.ownBlock with
    | none => exact .inl rfl
    | some k => exact .inr (fun x => by have := (World.ownsRow.lt h k e).1; injection x; omega))
theorem at_val {c u : Int} (h : DataW.lit (Lit.int .i64 c) = dInt ((some u).getD 0)) : c = u := by
  unfold dInt at h
  injection h with h
  injection h with _ h
theorem lawStr : Keyed Tryz.prog 9 := string_keyed Tryz.underlying9
theorem zeroInt (w : World) : (zeroValue 3).run Tryz.prog w = .ok (.int .i64 0) w := by kernel_rfl
theorem desc_no {l : List En} {k : Nat} (h : k < l.length) (hb : olderB (l.take k) l[k] = false) (hd : descP (l.take k)) : ¬ descP l := fun hl => by
  have h1 := desc_take hl (k + 1)
  rw [List.take_succ_eq_append_getElem h] at h1
  have := (desc_snoc hd).mp h1
  rw [hb] at this; cases this

/-- whether times descend -/
def TellsD (l : List En) (w : World) (e : Ending) (w' : World) : Prop := ∃ b, e = .returned (.bool b) ∧ (b = true ↔ descP l) ∧ Below w.heap.size w w'
set_option maxHeartbeats 8000000 in
set_option maxRecDepth 100000 in
theorem newestI (w : World) (g : Nat) (A0 A1 A2 A3 B0 B1 B2 A5 : Option Addr) (c0 c1 c2 c3 d0 d1 d2 c5 : Nat) (t : Tree) (h : TreeM w g A0 A1 A2 A3 B0 B1 B2 A5 c0 c1 c2 c3 d0 d1 d2 c5 t)
    (htot : t.runs.flatten.length ≤ 1048576) (htm : ∀ e ∈ t.runs.flatten, -1000000 ≤ e.time ∧ e.time ≤ 1000000 ∧ e.key.size ≤ maxLen) :
    Calls Tryz.prog 139 #[.pointer (some ⟨g, 0, none⟩)] w (TellsD t.runs.flatten w) := by
  have hmm := @run_makeMap Tryz.prog
  obtain ⟨W0, hW0⟩ : ∃ W, W = w.alloc (.map #[] 0) := ⟨_, rfl⟩
  have hb0 : Below w.heap.size w W0 := by rw [hW0]; exact (Below.refl _ _).alloc (Nat.le_refl _) _
  have hs0 : W0.heap.size = w.heap.size + 1 := by rw [hW0]; simp
  have HM0 := Lib.hid (show W0.ownsMap Tryz.prog 9 (plainElem (H := Unit) Tryz.prog 3) w.heap.size 0 (.map []) by rw [hW0]; exact World.ownsMap_made _ _ _ _)
  have HT := Lib.hid (h.below hb0)
  have HB := Lib.hid hb0
  have HW := Lib.hid hW0
  have HTM := Lib.hid htm
  obtain ⟨flat, hfl⟩ : ∃ flat, flat = t.runs.flatten := ⟨_, rfl⟩
  have HFL := Lib.hid hfl
  rw [← hfl] at htot HTM ⊢
  clear h hb0 hW0 hfl htm
  go_enter Tryz.func139, Tryz.ntmps139
  go_wp2_with fail
  rw [← HW.out]
  go_at_call 168
  refine Calls.mono (runsT HT.out) ?_
  rintro e w1 ⟨gg, cap, rfl, hcap, hl, hb⟩
  have HL := Lib.hid hl
  have HB1 := Lib.hid hb
  have HM1 := Lib.hid (HM0.out.kept (row := none) (grownOf' hb) (by simp))
  clear hl hb
  go_wp2_with fail
  go_at_call 83
  refine Calls.mono (concatE w1 w1.heap.size 4 cap (some ⟨gg, 0, none⟩) t.runs HL.out (Nat.le_refl _) (by omega) (by rw [← HFL.out]; exact htot)) ?_
  rw [← HFL.out]
  rintro e w2 ⟨v2, rfl, ho, hb⟩
  obtain ⟨AC, cc, hv2, -, -, -⟩ := ownE_parts ho
  subst hv2
  have HO := Lib.hid ho
  have HB2 := Lib.hid (HB1.out.trans (hb.mono HB1.out.size))
  have HM2 := Lib.hid (HM1.out.kept (row := none) (grownOf' hb) (by simp))
  have hs1 : W0.heap.size ≤ w1.heap.size := HB1.out.size
  clear ho hb
  go_wp2_with fail
  have hcc : flat.length ≤ 1048576 := htot
  go_loopw [13] (fun i wr => ∃ k : Nat, k ≤ flat.length ∧ i = .int .i64 (k : Nat) ∧ wr.ownsMap Tryz.prog 9 (plainElem (H := Unit) Tryz.prog 3) w.heap.size k (mapL (flat.take k)) ∧ Hid (descP (flat.take k)) ∧ OwnE wr w1.heap.size (.slice AC flat.length cc) flat ∧ Below w.heap.size w wr) (fun i _ => flat.length - (intOf i).toNat)
  case atStart => exact ⟨0, Nat.zero_le _, rfl, HM2.out, Lib.hid desc_nil, HO.out, HB.out.trans (HB2.out.mono HB.out.size)⟩
  case round =>
    obtain ⟨k, hk, rfl, hm, hd, ho, hb⟩ := hrel
    have HM := Lib.hid hm
    have HOW := Lib.hid ho
    have HBW := Lib.hid hb
    clear hm ho hb
    by_cases hlt : k < flat.length
    · obtain ⟨A', c', hv', hn', hx', hents⟩ := ownE_parts HOW.out
      injection hv' with ea eb ec
      subst ea ec
      obtain ⟨kb, ko, hA, hkb, q0, q1, q2, q3⟩ := hents.cell k hlt
      subst hA
      obtain ⟨x0, h0⟩ : ∃ y, y = flat[k].key := ⟨_, rfl⟩
      obtain ⟨x1, h1⟩ : ∃ y, y = flat[k].val := ⟨_, rfl⟩
      obtain ⟨x2, h2⟩ : ∃ y, y = flat[k].gone := ⟨_, rfl⟩
      obtain ⟨x3, h3⟩ : ∃ y, y = flat[k].time := ⟨_, rfl⟩
      have hbd := HTM.out _ (List.getElem_mem hlt)
      rw [← h0] at q0
      rw [← h1] at q1
      rw [← h2] at q2
      rw [← h3] at q3
      rw [← h0, ← h3] at hbd
      have H0 := Lib.hid h0
      have H3 := Lib.hid h3
      have z0 : (0 : Int) ≤ (k : Int) := by omega
      have z1 : (k : Int) < (flat.length : Int) := by omega
      have hkey := keyOf_string_mk (P := Tryz.prog) (k := 9) Tryz.underlying9 hbd.2.2
      obtain ⟨hhas, hat0⟩ := mapL_at _ (flat.take k) rfl x0
      have HAT := Lib.hid hat0
      have hdes := desc_snoc (e := flat[k]) hd.out
      rw [← List.take_succ_eq_append_getElem hlt] at hdes
      have hmn : mapL (flat.take (k + 1)) = (mapL (flat.take k)).put (klit x0) (dInt x3) := by rw [List.take_succ_eq_append_getElem hlt, mapL_snoc, ← h0, ← h3]
      have HMN := Lib.hid hmn
      have hol : olderB (flat.take k) flat[k] = (match lastT (flat.take k) x0 with | some t => decide (x3 < t) | none => true) := by unfold olderB; rw [← h0, ← h3]; rfl
      have HWF := Lib.hid (show (Lit.int .i64 x3).wf = true from WalkArith.wf_i64 (by omega))
      obtain ⟨D, hD⟩ : ∃ D, D = mapL (flat.take k) := ⟨_, rfl⟩
      rw [← hD] at HM hhas HAT HMN
      obtain ⟨pr, hpr⟩ : ∃ pr, pr = flat.take k := ⟨_, rfl⟩
      rw [← hpr] at hhas HAT hol hdes
      have HPR := Lib.hid hpr
      have HK := Lib.hid hkey
      obtain ⟨W2, hW2⟩ : ∃ W, W = wr.alloc (.cells #[.string x0, .int .i64 x1, .bool x2, .int .i64 x3] 83) := ⟨_, rfl⟩
      have HM2' := Lib.hid (show W2.ownsMap Tryz.prog 9 (plainElem (H := Unit) Tryz.prog 3) w.heap.size k D by rw [hW2]; exact HM.out.alloc _)
      have HO2 := Lib.hid (show OwnE W2 w1.heap.size (.slice (some ⟨kb, ko, none⟩) flat.length cc) flat by rw [hW2]; exact World.ownsRow.alloc HOW.out _)
      have HB2' := Lib.hid (show Below w.heap.size w W2 by rw [hW2]; exact HBW.out.alloc HBW.out.size _)
      have y0 : W2.cell? ⟨wr.heap.size, 0, none⟩ = some (.string x0) := by rw [hW2, cell_of_row _ _ _ _ _ _ (heap_alloc_new wr _)]; rfl
      have y3 : W2.cell? ⟨wr.heap.size, 3, none⟩ = some (.int .i64 x3) := by rw [hW2, cell_of_row _ _ _ _ _ _ (heap_alloc_new wr _)]; rfl
      have HW2 := Lib.hid hW2
      have HDS := Lib.hid hdes
      clear hkey hat0 hdes hmn hD hpr hW2 h0 h1 h2 h3 hents hn' hx'
      cases hlast : lastT pr x0 with
      | none =>
        rw [hlast] at hhas hol
        have hh : Maps.has D (Lit.string x0.data.toList) = false := by simpa [klit] using hhas
        have HOL := Lib.hid (show olderB pr flat[k] = true from hol)
        clear hhas hol HAT
        go_upto_region 5 with fail
        rw [← HW2.out]
        go_wp2_with (first | (at_lookup; refine wpList_lookup_own_ok_int _ rfl _ _ 182 rfl 9 3 .i64 lawStr Tryz.underlying182 Tryz.underlying3 (zeroInt _) w.heap.size k D rfl HM2'.out _ _ rfl HK.out ?_; intro c hat hwc) | (at_mapUpdate; refine wpList_mapUpdate_own _ rfl _ _ _ 182 rfl 9 3 lawStr Tryz.underlying182 _ w.heap.size k D rfl HM2'.out (by unfold maxLen; omega) _ _ _ rfl rfl HK.out _ [] (plainElem_int Tryz.underlying3 HWF.out) ?_; intro w3 hm3 hg3; have HM3 := Lib.hid hm3; have HG3 := Lib.hid hg3; clear hm3 hg3))
        go_roundw
        case rel => exact ⟨k + 1, by omega, by go_num, by rw [HMN.out]; exact HM3.out, Lib.hid (HDS.out.mpr HOL.out), rowGrownZ HO2.out HG3.out (by omega), HB2'.out.grown HG3.out HB2'.out.size (fun j hj => by cases hj; exact Nat.le_refl _)⟩
        case measure => simp [intOf]; omega
      | some u =>
        rw [hlast] at hhas hol HAT
        have hh : Maps.has D (Lit.string x0.data.toList) = true := by simpa [klit] using hhas
        clear hhas
        by_cases hlate : x3 < u
        · have HOL := Lib.hid (show olderB pr flat[k] = true by rw [hol]; exact decide_eq_true hlate)
          have hge : ¬ u ≤ x3 := by omega
          clear hol
          go_upto_region 5 with fail
          rw [← HW2.out]
          go_wp2_with (first | (at_lookup; refine wpList_lookup_own_ok_int _ rfl _ _ 182 rfl 9 3 .i64 lawStr Tryz.underlying182 Tryz.underlying3 (zeroInt _) w.heap.size k D rfl HM2'.out _ _ rfl HK.out ?_; intro c hat hwc; have hcu := at_val (hat.symm.trans HAT.out); subst hcu; clear hat) | (at_mapUpdate; refine wpList_mapUpdate_own _ rfl _ _ _ 182 rfl 9 3 lawStr Tryz.underlying182 _ w.heap.size k D rfl HM2'.out (by unfold maxLen; omega) _ _ _ rfl rfl HK.out _ [] (plainElem_int Tryz.underlying3 HWF.out) ?_; intro w3 hm3 hg3; have HM3 := Lib.hid hm3; have HG3 := Lib.hid hg3; clear hm3 hg3))
          go_roundw
          case rel => exact ⟨k + 1, by omega, by go_num, by rw [HMN.out]; exact HM3.out, Lib.hid (HDS.out.mpr HOL.out), rowGrownZ HO2.out HG3.out (by omega), HB2'.out.grown HG3.out HB2'.out.size (fun j hj => by cases hj; exact Nat.le_refl _)⟩
          case measure => simp [intOf]; omega
        · have hob : olderB pr flat[k] = false := by rw [hol]; exact decide_eq_false hlate
          have hge : u ≤ x3 := by omega
          have HNO := Lib.hid (desc_no hlt (by rw [← HPR.out]; exact hob) hd.out)
          clear hol hob
          go_upto_region 5 with fail
          rw [← HW2.out]
          go_wp2_with ((at_lookup; refine wpList_lookup_own_ok_int _ rfl _ _ 182 rfl 9 3 .i64 lawStr Tryz.underlying182 Tryz.underlying3 (zeroInt _) w.heap.size k D rfl HM2'.out _ _ rfl HK.out ?_; intro c hat hwc; have hcu := at_val (hat.symm.trans HAT.out); subst hcu; clear hat))
          go_ret
          exact ⟨false, rfl, ⟨fun h => (by cases h), fun h => absurd h HNO.out⟩, HB2'.out⟩
    · have hke : k = flat.length := by omega
      subst hke
      have hd' := hd.out
      rw [List.take_of_length_le (Nat.le_refl _)] at hd'
      have HD := Lib.hid hd'
      clear hd'
      go_wp2
      go_ret
      exact ⟨true, rfl, ⟨fun _ => HD.out, fun _ => rfl⟩, HBW.out⟩

end Go.Proofs.YtfhpkcamigkmdaaGreatDoor.W
namespace Go.Proofs.YtfhpkcamigkmdaaGreatDoor.W
open Go.RowKit K R

/-- a tree is valid -/
def TreeP (t : Tree) : Prop := t.top.length ≤ 4 ∧ runB t.top = true ∧ treeTimesB t.times t.time = true ∧ noneB t = true ∧ descP t.runs.flatten
def TellsT (t : Tree) (w : World) (e : Ending) (w' : World) : Prop := ∃ b, e = .returned (.bool b) ∧ (b = true ↔ TreeP t) ∧ Below w.heap.size w w'
theorem run_bound {r : List En} (h : runB r = true) : r.length ≤ 40 ∧ ∀ e ∈ r, -1000000 ≤ e.time ∧ e.time ≤ 1000000 ∧ e.key.size ≤ maxLen := by
  obtain ⟨h1, h2, -⟩ := run_iff.mp h
  refine ⟨h1, fun e he => ?_⟩
  have h3 := h2 e he
  unfold okE at h3
  have hk : keyB e.key = true := by
    cases hk : keyB e.key with
    | true => rfl
    | false => rw [hk] at h3; cases h3
  simp [hk] at h3
  have hs : e.key.size ≤ 5 := by
    unfold keyB at hk
    simp at hk
    omega
  exact ⟨by omega, by omega, by unfold maxLen; omega⟩

set_option maxHeartbeats 8000000 in
set_option maxRecDepth 100000 in
theorem validI (w : World) (g : Nat) (A0 A1 A2 A3 B0 B1 B2 A5 : Option Addr) (c0 c1 c2 c3 d0 d1 d2 c5 : Nat) (t : Tree) (h : TreeM w g A0 A1 A2 A3 B0 B1 B2 A5 c0 c1 c2 c3 d0 d1 d2 c5 t)
    (h0 : runB t.r0 = true) (h1 : runB t.r1 = true) (h2 : runB t.r2 = true) (hk : ∀ e ∈ t.top, e.key.size ≤ maxLen) (hn : t.times.length ≤ maxLen) :
    Calls Tryz.prog 98 #[.pointer (some ⟨g, 0, none⟩)] w (TellsT t w) := by
  have hcell := tree_cells h.box
  have q0 := hcell.1
  have HRT := Lib.hid (runI w w.heap.size t.top.length c0 A0 t.top h.e0 (Nat.le_refl _) (Nat.le_trans h.m0.1 h.m0.2) hk)
  have HT := Lib.hid h
  have HTM := Lib.hid (show ∀ W, Below w.heap.size w W → Calls Tryz.prog 137 #[.pointer (some ⟨g, 0, none⟩)] W fun e w' => e = .returned (.bool (treeTimesB t.times t.time)) ∧ W = w' from fun W hW => by
    have hc := tree_cells (HT.out.below hW).box
    exact timesI W W.heap.size g c5 A5 t.times t.time (HT.out.below hW).nums (Nat.le_refl _) hn hc.2.2.2.2.2.2.2.2.2.2.2.2.2.2.2.2.2.2.2.2.1 hc.2.2.2.2.2.2.2.2.2.2.2.2.2.2.2.2.2.2.2.2.2)
  have HNO := Lib.hid (show ∀ W, Below w.heap.size w W → Calls Tryz.prog 138 #[.pointer (some ⟨g, 0, none⟩)] W fun e w' => e = .returned (.bool (noneB t)) ∧ Below w.heap.size w w' from fun W hW =>
    (noneI W g A0 A1 A2 A3 B0 B1 B2 A5 c0 c1 c2 c3 d0 d1 d2 c5 t (HT.out.below hW)).mono fun _ _ ⟨x, y⟩ => ⟨x, hW.trans (y.mono hW.size)⟩)
  clear h hcell
  by_cases g1 : t.top.length ≤ 4
  case neg =>
    have n1 : ¬ (t.top.length : Int) ≤ 4 := by omega
    go_enter Tryz.func98, Tryz.ntmps98
    go_wp2
    go_ret
    exact ⟨false, rfl, ⟨fun h => (by cases h), fun h => absurd h.1 g1⟩, Below.refl _ _⟩
  have n1 : (t.top.length : Int) ≤ 4 := by omega
  by_cases g2 : runB t.top = true
  case neg =>
    have g2 : runB t.top = false := by simpa using g2
    rw [g2] at HRT
    go_enter Tryz.func98, Tryz.ntmps98
    go_wp2_with (go_at_call 115; refine Calls.mono HRT.out ?_; rintro e w1 ⟨rfl, hb1⟩; have HB1 := Lib.hid hb1; clear hb1)
    go_ret
    exact ⟨false, rfl, ⟨fun h => (by cases h), fun h => absurd h.2.1 (by rw [g2]; simp)⟩, HB1.out⟩
  have b0 := run_bound g2
  rw [g2] at HRT
  by_cases g3 : treeTimesB t.times t.time = true
  case neg =>
    have g3 : treeTimesB t.times t.time = false := by simpa using g3
    rw [g3] at HTM
    go_enter Tryz.func98, Tryz.ntmps98
    go_wp2_with (first | (go_at_call 115; refine Calls.mono HRT.out ?_; rintro e w1 ⟨rfl, hb1⟩; have HB1 := Lib.hid hb1; clear hb1) | (go_at_call 137; refine Calls.mono (HTM.out _ HB1.out) ?_; rintro e w2 ⟨rfl, rfl⟩))
    go_ret
    exact ⟨false, rfl, ⟨fun h => (by cases h), fun h => absurd h.2.2.1 (by rw [g3]; simp)⟩, HB1.out⟩
  rw [g3] at HTM
  by_cases g4 : noneB t = true
  case neg =>
    have g4 : noneB t = false := by simpa using g4
    rw [g4] at HNO
    go_enter Tryz.func98, Tryz.ntmps98
    go_wp2_with (first | (go_at_call 115; refine Calls.mono HRT.out ?_; rintro e w1 ⟨rfl, hb1⟩; have HB1 := Lib.hid hb1; clear hb1) | (go_at_call 137; refine Calls.mono (HTM.out _ HB1.out) ?_; rintro e w2 ⟨rfl, rfl⟩) | (go_at_call 138; refine Calls.mono (HNO.out _ HB1.out) ?_; rintro e w3 ⟨rfl, hb3⟩; have HB3 := Lib.hid hb3; clear hb3))
    go_ret
    exact ⟨false, rfl, ⟨fun h => (by cases h), fun h => absurd h.2.2.2.1 (by rw [g4]; simp)⟩, HB3.out⟩
  rw [g4] at HNO
  have hb := run_bound h0
  have hb1 := run_bound h1
  have hb2 := run_bound h2
  have HNE := Lib.hid (show ∀ W, Below w.heap.size w W → Calls Tryz.prog 139 #[.pointer (some ⟨g, 0, none⟩)] W (TellsD t.runs.flatten W) from fun W hW =>
    newestI W g A0 A1 A2 A3 B0 B1 B2 A5 c0 c1 c2 c3 d0 d1 d2 c5 t (HT.out.below hW)
      (by show ([t.top, t.r0, t.r1, t.r2].flatten).length ≤ _; simp; omega)
      (fun e he => by
        have he' : e ∈ [t.top, t.r0, t.r1, t.r2].flatten := he
        simp at he'
        rcases he' with h | h | h | h
        · exact b0.2 e h
        · exact hb.2 e h
        · exact hb1.2 e h
        · exact hb2.2 e h))
  have HP := Lib.hid (show ∀ b, (b = true ↔ descP t.runs.flatten) → (b = true ↔ TreeP t) from fun b hb => hb.trans ⟨fun hd => ⟨g1, g2, g3, g4, hd⟩, fun hp => hp.2.2.2.2⟩)
  clear hb hb1 hb2 b0 h0 h1 h2 hk
  go_enter Tryz.func98, Tryz.ntmps98
  go_wp2_with (first | (go_at_call 115; refine Calls.mono HRT.out ?_; rintro e w1 ⟨rfl, hb1⟩; have HB1 := Lib.hid hb1; clear hb1) | (go_at_call 137; refine Calls.mono (HTM.out _ HB1.out) ?_; rintro e w2 ⟨rfl, rfl⟩) | (go_at_call 138; refine Calls.mono (HNO.out _ HB1.out) ?_; rintro e w3 ⟨rfl, hb3⟩; have HB3 := Lib.hid hb3; clear hb3) | (go_at_call 139; refine Calls.mono (HNE.out _ HB3.out) ?_; rintro e w4 ⟨b, rfl, hbb, hb4⟩; have HB4 := Lib.hid (HB3.out.trans (hb4.mono HB3.out.size)); have HBB := Lib.hid hbb; clear hb4 hbb))
  go_ret
  exact ⟨b, rfl, HP.out b HBB.out, HB4.out⟩

end Go.Proofs.YtfhpkcamigkmdaaGreatDoor.W
namespace Go.Proofs.YtfhpkcamigkmdaaGreatDoor.W
open Go.RowKit K R

/-- the tree of a store -/
def treeOf (s : Sto) (x0 x1 x2 : Sf) : Tree := ⟨s.top, s.levels.getD 0 [], s.levels.getD 1 [], s.levels.getD 2 [], x0, x1, x2, s.keep, s.time, s.times⟩
theorem sameL_comm' (a b : List ByteArray) : sameL a b = sameL b a := by
  rw [Bool.eq_iff_iff, sameL_iff, sameL_iff]
  exact eq_comm
theorem beq_sym (a b : ByteArray) : (a.toList == b.toList) = (b.toList == a.toList) := by rw [Bool.eq_iff_iff, beq_iff_eq, beq_iff_eq]; exact eq_comm
theorem sfB_eq (keep : Int) (r : List En) (x : Sf) : sfB keep r x = eqB x.letters x.more x.first (svL (keysL r) keep) (svM (keysL r) keep) (svF (keysL r) keep) x.rests (svR (keysL r) keep) x.keep (svK (keysL r) keep) := by
  unfold sfB eqB
  rw [beq_sym x.letters, beq_sym x.more, beq_sym x.first, sameL_comm' x.rests, Bool.and_comm (decide _)]
  congr 4
  rw [decide_eq_decide]
  exact eq_comm
theorem keysO_run {r : List En} (h : runB r = true) : keysO r = keysL r := by unfold keysO; rw [if_pos h]
theorem none_iff (t : Tree) : noneB t = true ↔ ∀ r ∈ t.runs.dropLast, ∀ e ∈ r, e.time ≤ t.time := by
  have hd : t.runs.dropLast = [t.top, t.r0, t.r1] := rfl
  rw [hd]
  unfold noneB
  have ha : ∀ l : List En, l.any (lateB t.time) = false ↔ ∀ e ∈ l, e.time ≤ t.time := fun l => by
    rw [← Bool.not_eq_true, List.any_eq_true]
    unfold lateB
    constructor
    · intro h e he
      by_cases hl : e.time ≤ t.time
      · exact hl
      · exact absurd ⟨e, he, decide_eq_true (by omega)⟩ h
    · rintro h ⟨e, he, hl⟩
      have := of_decide_eq_true hl
      have := h e he
      omega
  rw [Bool.not_eq_true', Bool.or_eq_false_iff, Bool.or_eq_false_iff, ha, ha, ha]
  simp
theorem stP_iff {s : Sto} (x0 x1 x2 : Sf) (h3 : s.levels.length = 3) (h4 : s.sieves.length = 3) :
    StP s ↔ (∀ i (h : i < s.levels.length) (h2 : i < s.sieves.length), lvlB s.keep i s.levels[i] s.sieves[i] = true) ∧ TreeP (treeOf s x0 x1 x2) := by
  have hls : [s.levels.getD 0 [], s.levels.getD 1 [], s.levels.getD 2 []] = s.levels := by
    match s.levels, h3 with
    | [a, b, c], _ => rfl
  have hruns : (treeOf s x0 x1 x2).runs = s.top :: s.levels := by
    show [s.top, s.levels.getD 0 [], s.levels.getD 1 [], s.levels.getD 2 []] = s.top :: s.levels
    rw [hls]
  have hall : (∀ i (h : i < s.levels.length) (h2 : i < s.sieves.length), lvlB s.keep i s.levels[i] s.sieves[i] = true) → ∀ r ∈ s.levels, runB r = true := fun h r hr => by
    obtain ⟨i, hi, rfl⟩ := List.getElem_of_mem hr
    have := h i hi (by omega)
    unfold lvlB at this
    rw [Bool.and_eq_true] at this
    exact this.1
  have hnew : runB s.top = true → (∀ r ∈ s.levels, runB r = true) → (newestIn s.time (s.top :: s.levels) = true ↔ (noneB (treeOf s x0 x1 x2) = true ∧ descP (treeOf s x0 x1 x2).runs.flatten)) := fun ht hl => by
    rw [new_desc (fun r hr => by rcases List.mem_cons.mp hr with rfl | hr; exact ht; exact hl r hr), none_iff, hruns, and_comm]
    rfl
  have htm : treeTimesB s.times s.time = true ↔ inB s.time 0 999 = true ∧ timesB s.times s.time = true := by unfold treeTimesB; rw [Bool.and_eq_true]
  constructor
  · intro h
    exact ⟨h.lvl, h.four, h.top, htm.mpr ⟨h.time, h.times⟩, (hnew h.top (hall h.lvl)).mp h.new⟩
  · rintro ⟨h1, h2, h5, h6, h7⟩
    have hkeep : inB s.keep 0 5 = true := by
      have := h1 0 (by omega) (by omega)
      unfold lvlB at this
      rw [Bool.and_eq_true, Bool.and_eq_true, Bool.and_eq_true] at this
      have hy := this.2.2.1
      unfold svYes at hy
      rw [Bool.and_eq_true] at hy
      exact hy.2
    exact ⟨h3, h4, hkeep, (htm.mp h6).1, (htm.mp h6).2, h5, h2, h1, (hnew h5 (hall h1)).mpr h7⟩

end Go.Proofs.YtfhpkcamigkmdaaGreatDoor.W
