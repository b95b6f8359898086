/-
  Contracts of the program's forms of deeds: formOf.
-/
import Derived.Test.YtklphdomjhliaaaDoorHB
import Derived.Laws.ResultCell
import Derived.Laws.Tables
import Derived.Laws.CopyOwn
namespace Go.Proofs.YtklphdomjhliaaaDoor.W
open Go.RowKit K R B

theorem form_size : (Tryd.prog.info? 46).map (·.size) = some 3 := by kernel_rfl
theorem load_form {w : World} {g : Nat} {x0 x1 x2 : Value} (hg : w.heap[g]? = some (.cells #[x0, x1, x2] 46 (0, 0))) : (loadVar 46 ⟨g, 0, none⟩).run Tryd.prog w = .ok (.agg #[x0, x1, x2]) w :=
  run_loadVar_row w g _ _ _ (0, 0) _ hg Tryd.underlying46 rfl form_size
/-- three stores into a box -/
theorem box_three {t : TypeId} {wr : World} {g : Nat} {y0 y1 y2 : Value} (hb : wr.heap[g]? = some (.cells #[y0, y1, y2] t (0, 0))) (x0 x1 x2 : Value) :
    (((wr.setCell ⟨g, 0, none⟩ x0).setCell ⟨g, 1, none⟩ x1).setCell ⟨g, 2, none⟩ x2).heap[g]? = some (.cells #[x0, x1, x2] t (0, 0)) := by
  have h0 := heap_setCell_same wr g 0 _ _ x0 hb
  have h1 := heap_setCell_same _ g 1 _ _ x1 h0
  have h2 := heap_setCell_same _ g 2 _ _ x2 h1
  rw [h2]
  simp
theorem cells_three {t : TypeId} {x : Nat × Nat} {w : World} {g : Nat} {y0 y1 y2 : Value} (h : w.heap[g]? = some (.cells #[y0, y1, y2] t x)) : w.cell? ⟨g, 0, none⟩ = some y0 ∧ w.cell? ⟨g, 1, none⟩ = some y1 ∧ w.cell? ⟨g, 2, none⟩ = some y2 := by
  refine ⟨?_, ?_, ?_⟩ <;> (rw [cell_of_row _ _ _ _ _ _ h]; rfl)
/-- two results, the first in a box -/
theorem ret_pair3 {fn : Func} {p u : Tmp} {ty : TypeId} (h : fn.results = #[.cell p ty, .tmp u]) (tmps : Array Value) (w : World) (g : Nat) (cs : Array Value) (x : Value)
    (hp : tmps.getD p undef = .pointer (some ⟨g, 0, none⟩)) (hx : tmps.getD u undef = x) (hl : (loadVar ty ⟨g, 0, none⟩).run Tryd.prog w = .ok (.agg cs) w) :
    (results fn tmps).run Tryd.prog w = .ok (.tuple #[.agg cs, x]) w := by
  rw [results_cell_tmp h, hp, hx]
  simp [asAddr, Result.andThen, hl]


theorem wpList_built {ops : Array Oper} {rest : List Oper} {o : Oper} {a : Act} {w : World} {Q : Exit → Act → World → Prop} (cells : Array Value) (hg : o.guard = none) (t : TypeId) (parts : Array (Nat × Operand)) (ho : o.op = .build t parts)
    (hf : Tryd.prog.built t (parts.map fun (i, x) => (i, a.eval x)).toList = some cells)
    (h : wpList Tryd.prog ops Q rest (a.put o.dst (.agg cells)) w) : wpList Tryd.prog ops Q (o :: rest) a w :=
  wpList_build hg t parts ho (by rw [hf]; rfl) (by rw [hf]; exact h)
def formsA : Array Value := #[.string ⟨#[]⟩, .bool false, .bool false, .string ⟨#[112, 117, 116]⟩, .bool true, .bool true, .string ⟨#[116, 97, 107, 101]⟩, .bool true, .bool false, .string ⟨#[104, 111, 108, 100]⟩, .bool false, .bool false, .string ⟨#[102, 114, 101, 101]⟩, .bool false, .bool true, .string ⟨#[100, 111, 119, 110]⟩, .bool false, .bool false, .string ⟨#[106, 111, 105, 110]⟩, .bool false, .bool true]
theorem forms_size : formsA.size = 21 := rfl
theorem forms_one : formsA.all (·.oneCell') = true := by kernel_rfl
theorem forms_info : (Tryd.prog.info? 61).map (·.size) = some 21 := by kernel_rfl
theorem new_row (w : World) : ((w.alloc (Obj.cells #[Value.string { data := #[] }, Value.bool false, Value.bool false] 46)).alloc (Obj.cells #[Value.string { data := #[] }, Value.bool false, Value.bool false, Value.string { data := #[] }, Value.bool false, Value.bool false, Value.string { data := #[] }, Value.bool false, Value.bool false, Value.string { data := #[] }, Value.bool false, Value.bool false, Value.string { data := #[] }, Value.bool false, Value.bool false, Value.string { data := #[] }, Value.bool false, Value.bool false, Value.string { data := #[] }, Value.bool false, Value.bool false] 61)).heap[w.heap.size + 1]? = some (.cells #[Value.string { data := #[] }, Value.bool false, Value.bool false, Value.string { data := #[] }, Value.bool false, Value.bool false, Value.string { data := #[] }, Value.bool false, Value.bool false, Value.string { data := #[] }, Value.bool false, Value.bool false, Value.string { data := #[] }, Value.bool false, Value.bool false, Value.string { data := #[] }, Value.bool false, Value.bool false, Value.string { data := #[] }, Value.bool false, Value.bool false] 61 (0, 0)) := by
  have := heap_alloc_new (w.alloc (Obj.cells #[Value.string { data := #[] }, Value.bool false, Value.bool false] 46)) (Obj.cells #[Value.string { data := #[] }, Value.bool false, Value.bool false, Value.string { data := #[] }, Value.bool false, Value.bool false, Value.string { data := #[] }, Value.bool false, Value.bool false, Value.string { data := #[] }, Value.bool false, Value.bool false, Value.string { data := #[] }, Value.bool false, Value.bool false, Value.string { data := #[] }, Value.bool false, Value.bool false, Value.string { data := #[] }, Value.bool false, Value.bool false] 61)
  simpa using this
theorem forms_row : (#[Value.string { data := #[] }, Value.bool false, Value.bool false, Value.string { data := #[] }, Value.bool false, Value.bool false, Value.string { data := #[] }, Value.bool false, Value.bool false, Value.string { data := #[] }, Value.bool false, Value.bool false, Value.string { data := #[] }, Value.bool false, Value.bool false, Value.string { data := #[] }, Value.bool false, Value.bool false, Value.string { data := #[] }, Value.bool false, Value.bool false] : Array Value).size = formsA.size := rfl
set_option maxHeartbeats 8000000 in
set_option maxRecDepth 100000 in
/-- the form of a kind -/
theorem formI (k : Int) (w : World) :
    Calls Tryd.prog 21 #[.int .i64 k] w fun e w' => e = .returned (.tuple #[.agg #[.string (ofL (nmL k)), .bool (hkB k), .bool (hnB k)], .bool (kinB k)]) ∧ Below w.heap.size w w' := by
  obtain ⟨W, hW⟩ : ∃ W, W = ((w.alloc (Obj.cells #[Value.string { data := #[] }, Value.bool false, Value.bool false] 46)).alloc (Obj.cells #[Value.string { data := #[] }, Value.bool false, Value.bool false, Value.string { data := #[] }, Value.bool false, Value.bool false, Value.string { data := #[] }, Value.bool false, Value.bool false, Value.string { data := #[] }, Value.bool false, Value.bool false, Value.string { data := #[] }, Value.bool false, Value.bool false, Value.string { data := #[] }, Value.bool false, Value.bool false, Value.string { data := #[] }, Value.bool false, Value.bool false] 61)).setRow (w.heap.size + 1) formsA := ⟨_, rfl⟩
  have hsz : W.heap.size = w.heap.size + 2 := by rw [hW]; simp
  have hrow : W.heap[w.heap.size + 1]? = some (.cells formsA 61 (0, 0)) := by rw [hW]; exact setRow_heap _ _ _ _ _ _ (new_row w)
  have hbox : W.heap[w.heap.size]? = some (.cells #[.string ⟨#[]⟩, .bool false, .bool false] 46 (0, 0)) := by
    rw [hW, setRow_other _ _ _ _ (by omega)]
    have h1 := heap_alloc_old (w.alloc (Obj.cells #[Value.string { data := #[] }, Value.bool false, Value.bool false] 46)) (Obj.cells #[Value.string { data := #[] }, Value.bool false, Value.bool false, Value.string { data := #[] }, Value.bool false, Value.bool false, Value.string { data := #[] }, Value.bool false, Value.bool false, Value.string { data := #[] }, Value.bool false, Value.bool false, Value.string { data := #[] }, Value.bool false, Value.bool false, Value.string { data := #[] }, Value.bool false, Value.bool false, Value.string { data := #[] }, Value.bool false, Value.bool false] 61) (r := w.heap.size) (by simp)
    rw [h1]; exact heap_alloc_new _ _
  have HB := Lib.hid (show Below w.heap.size w W by rw [hW]; exact below_setRow (((Below.refl _ _).alloc (Nat.le_refl _) _).alloc (by simp) _) (by omega) _)
  have HX := Lib.hid hbox
  have hc : ∀ i, W.cell? ⟨w.heap.size + 1, i, none⟩ = formsA[i]? := fun i => cell_of_row _ _ _ _ _ _ hrow
  have HW := Lib.hid hW
  by_cases hk : kinB k = true
  case neg =>
    have hb : ¬ (1 ≤ k ∧ k ≤ 6) := by unfold kinB at hk; simpa using hk
    have hk0 : kinB k = false := by simpa using hk
    obtain ⟨e1, e2, e3⟩ := kin_not hk0
    rw [e1, e2, e3, hk0]
    clear e1 e2 e3 hk0 hk hrow hbox hW hc
    have h7 : k < 1 ∨ 1 ≤ k ∧ 7 ≤ k := by omega
    rcases h7 with h7 | ⟨h6, h7⟩
    all_goals
      go_enter Tryd.func21, Tryd.ntmps21
      go_upto_region 1 with fail
      refine wp_region_lit ?_
      refine wpList_built #[.string ⟨#[112, 117, 116]⟩, .bool true, .bool true] rfl 46 _ rfl (by kernel_rfl) ?_
      refine wpList_built #[.string ⟨#[116, 97, 107, 101]⟩, .bool true, .bool false] rfl 46 _ rfl (by kernel_rfl) ?_
      refine wpList_built #[.string ⟨#[104, 111, 108, 100]⟩, .bool false, .bool false] rfl 46 _ rfl (by kernel_rfl) ?_
      refine wpList_built #[.string ⟨#[102, 114, 101, 101]⟩, .bool false, .bool true] rfl 46 _ rfl (by kernel_rfl) ?_
      refine wpList_built #[.string ⟨#[100, 111, 119, 110]⟩, .bool false, .bool false] rfl 46 _ rfl (by kernel_rfl) ?_
      refine wpList_built #[.string ⟨#[106, 111, 105, 110]⟩, .bool false, .bool true] rfl 46 _ rfl (by kernel_rfl) ?_
      refine wpList_built formsA rfl 61 _ rfl (by kernel_rfl) ?_
      go_upto_region 2 with (refine wpList_store_row rfl 61 _ _ rfl (w.heap.size + 1) formsA rfl rfl 61 _ (new_row w) forms_info forms_row forms_one ?_)
      rw [← HW.out]
      have f0 := fun j => frozen_of_row W w.heap.size j _ _ HX.out
      obtain ⟨b0, b1, b2⟩ := cells_three HX.out
      go_wp2
      refine bodyPost_ret (v := .tuple #[.agg #[.string ⟨#[]⟩, .bool false, .bool false], .bool false]) ?_ rfl ⟨rfl, ?_⟩
      · exact ret_pair3 rfl _ _ w.heap.size _ _ rfl rfl (load_form (box_three HX.out _ _ _))
      · exact ((HB.out.setCell (Nat.le_refl _) _).setCell (Nat.le_refl _) _).setCell (Nat.le_refl _) _
  case pos =>
  rcases kin_cases hk with rfl | rfl | rfl | rfl | rfl | rfl
  ·
    have c0 := hc 3
    have c1 := hc 4
    have c2 := hc 5
    rw [show formsA[3]? = some (.string ⟨#[112, 117, 116]⟩) from rfl] at c0
    rw [show formsA[4]? = some (.bool true) from rfl] at c1
    rw [show formsA[5]? = some (.bool true) from rfl] at c2
    clear hrow hbox hW hc hk
    go_enter Tryd.func21, Tryd.ntmps21
    go_upto_region 1 with fail
    refine wp_region_lit ?_
    refine wpList_built #[.string ⟨#[112, 117, 116]⟩, .bool true, .bool true] rfl 46 _ rfl (by kernel_rfl) ?_
    refine wpList_built #[.string ⟨#[116, 97, 107, 101]⟩, .bool true, .bool false] rfl 46 _ rfl (by kernel_rfl) ?_
    refine wpList_built #[.string ⟨#[104, 111, 108, 100]⟩, .bool false, .bool false] rfl 46 _ rfl (by kernel_rfl) ?_
    refine wpList_built #[.string ⟨#[102, 114, 101, 101]⟩, .bool false, .bool true] rfl 46 _ rfl (by kernel_rfl) ?_
    refine wpList_built #[.string ⟨#[100, 111, 119, 110]⟩, .bool false, .bool false] rfl 46 _ rfl (by kernel_rfl) ?_
    refine wpList_built #[.string ⟨#[106, 111, 105, 110]⟩, .bool false, .bool true] rfl 46 _ rfl (by kernel_rfl) ?_
    refine wpList_built formsA rfl 61 _ rfl (by kernel_rfl) ?_
    go_upto_region 2 with (refine wpList_store_row rfl 61 _ _ rfl (w.heap.size + 1) formsA rfl rfl 61 _ (new_row w) forms_info forms_row forms_one ?_)
    rw [← HW.out]
    have f0 := fun j => frozen_of_row W w.heap.size j _ _ HX.out
    obtain ⟨b0, b1, b2⟩ := cells_three HX.out
    go_wp2
    refine bodyPost_ret (v := .tuple #[.agg #[.string ⟨#[112, 117, 116]⟩, .bool true, .bool true], .bool true]) ?_ rfl ⟨rfl, ?_⟩
    · exact ret_pair3 rfl _ _ w.heap.size _ _ rfl rfl (load_form (box_three HX.out _ _ _))
    · exact ((HB.out.setCell (Nat.le_refl _) _).setCell (Nat.le_refl _) _).setCell (Nat.le_refl _) _
  ·
    have c0 := hc 6
    have c1 := hc 7
    have c2 := hc 8
    rw [show formsA[6]? = some (.string ⟨#[116, 97, 107, 101]⟩) from rfl] at c0
    rw [show formsA[7]? = some (.bool true) from rfl] at c1
    rw [show formsA[8]? = some (.bool false) from rfl] at c2
    clear hrow hbox hW hc hk
    go_enter Tryd.func21, Tryd.ntmps21
    go_upto_region 1 with fail
    refine wp_region_lit ?_
    refine wpList_built #[.string ⟨#[112, 117, 116]⟩, .bool true, .bool true] rfl 46 _ rfl (by kernel_rfl) ?_
    refine wpList_built #[.string ⟨#[116, 97, 107, 101]⟩, .bool true, .bool false] rfl 46 _ rfl (by kernel_rfl) ?_
    refine wpList_built #[.string ⟨#[104, 111, 108, 100]⟩, .bool false, .bool false] rfl 46 _ rfl (by kernel_rfl) ?_
    refine wpList_built #[.string ⟨#[102, 114, 101, 101]⟩, .bool false, .bool true] rfl 46 _ rfl (by kernel_rfl) ?_
    refine wpList_built #[.string ⟨#[100, 111, 119, 110]⟩, .bool false, .bool false] rfl 46 _ rfl (by kernel_rfl) ?_
    refine wpList_built #[.string ⟨#[106, 111, 105, 110]⟩, .bool false, .bool true] rfl 46 _ rfl (by kernel_rfl) ?_
    refine wpList_built formsA rfl 61 _ rfl (by kernel_rfl) ?_
    go_upto_region 2 with (refine wpList_store_row rfl 61 _ _ rfl (w.heap.size + 1) formsA rfl rfl 61 _ (new_row w) forms_info forms_row forms_one ?_)
    rw [← HW.out]
    have f0 := fun j => frozen_of_row W w.heap.size j _ _ HX.out
    obtain ⟨b0, b1, b2⟩ := cells_three HX.out
    go_wp2
    refine bodyPost_ret (v := .tuple #[.agg #[.string ⟨#[116, 97, 107, 101]⟩, .bool true, .bool false], .bool true]) ?_ rfl ⟨rfl, ?_⟩
    · exact ret_pair3 rfl _ _ w.heap.size _ _ rfl rfl (load_form (box_three HX.out _ _ _))
    · exact ((HB.out.setCell (Nat.le_refl _) _).setCell (Nat.le_refl _) _).setCell (Nat.le_refl _) _
  ·
    have c0 := hc 9
    have c1 := hc 10
    have c2 := hc 11
    rw [show formsA[9]? = some (.string ⟨#[104, 111, 108, 100]⟩) from rfl] at c0
    rw [show formsA[10]? = some (.bool false) from rfl] at c1
    rw [show formsA[11]? = some (.bool false) from rfl] at c2
    clear hrow hbox hW hc hk
    go_enter Tryd.func21, Tryd.ntmps21
    go_upto_region 1 with fail
    refine wp_region_lit ?_
    refine wpList_built #[.string ⟨#[112, 117, 116]⟩, .bool true, .bool true] rfl 46 _ rfl (by kernel_rfl) ?_
    refine wpList_built #[.string ⟨#[116, 97, 107, 101]⟩, .bool true, .bool false] rfl 46 _ rfl (by kernel_rfl) ?_
    refine wpList_built #[.string ⟨#[104, 111, 108, 100]⟩, .bool false, .bool false] rfl 46 _ rfl (by kernel_rfl) ?_
    refine wpList_built #[.string ⟨#[102, 114, 101, 101]⟩, .bool false, .bool true] rfl 46 _ rfl (by kernel_rfl) ?_
    refine wpList_built #[.string ⟨#[100, 111, 119, 110]⟩, .bool false, .bool false] rfl 46 _ rfl (by kernel_rfl) ?_
    refine wpList_built #[.string ⟨#[106, 111, 105, 110]⟩, .bool false, .bool true] rfl 46 _ rfl (by kernel_rfl) ?_
    refine wpList_built formsA rfl 61 _ rfl (by kernel_rfl) ?_
    go_upto_region 2 with (refine wpList_store_row rfl 61 _ _ rfl (w.heap.size + 1) formsA rfl rfl 61 _ (new_row w) forms_info forms_row forms_one ?_)
    rw [← HW.out]
    have f0 := fun j => frozen_of_row W w.heap.size j _ _ HX.out
    obtain ⟨b0, b1, b2⟩ := cells_three HX.out
    go_wp2
    refine bodyPost_ret (v := .tuple #[.agg #[.string ⟨#[104, 111, 108, 100]⟩, .bool false, .bool false], .bool true]) ?_ rfl ⟨rfl, ?_⟩
    · exact ret_pair3 rfl _ _ w.heap.size _ _ rfl rfl (load_form (box_three HX.out _ _ _))
    · exact ((HB.out.setCell (Nat.le_refl _) _).setCell (Nat.le_refl _) _).setCell (Nat.le_refl _) _
  ·
    have c0 := hc 12
    have c1 := hc 13
    have c2 := hc 14
    rw [show formsA[12]? = some (.string ⟨#[102, 114, 101, 101]⟩) from rfl] at c0
    rw [show formsA[13]? = some (.bool false) from rfl] at c1
    rw [show formsA[14]? = some (.bool true) from rfl] at c2
    clear hrow hbox hW hc hk
    go_enter Tryd.func21, Tryd.ntmps21
    go_upto_region 1 with fail
    refine wp_region_lit ?_
    refine wpList_built #[.string ⟨#[112, 117, 116]⟩, .bool true, .bool true] rfl 46 _ rfl (by kernel_rfl) ?_
    refine wpList_built #[.string ⟨#[116, 97, 107, 101]⟩, .bool true, .bool false] rfl 46 _ rfl (by kernel_rfl) ?_
    refine wpList_built #[.string ⟨#[104, 111, 108, 100]⟩, .bool false, .bool false] rfl 46 _ rfl (by kernel_rfl) ?_
    refine wpList_built #[.string ⟨#[102, 114, 101, 101]⟩, .bool false, .bool true] rfl 46 _ rfl (by kernel_rfl) ?_
    refine wpList_built #[.string ⟨#[100, 111, 119, 110]⟩, .bool false, .bool false] rfl 46 _ rfl (by kernel_rfl) ?_
    refine wpList_built #[.string ⟨#[106, 111, 105, 110]⟩, .bool false, .bool true] rfl 46 _ rfl (by kernel_rfl) ?_
    refine wpList_built formsA rfl 61 _ rfl (by kernel_rfl) ?_
    go_upto_region 2 with (refine wpList_store_row rfl 61 _ _ rfl (w.heap.size + 1) formsA rfl rfl 61 _ (new_row w) forms_info forms_row forms_one ?_)
    rw [← HW.out]
    have f0 := fun j => frozen_of_row W w.heap.size j _ _ HX.out
    obtain ⟨b0, b1, b2⟩ := cells_three HX.out
    go_wp2
    refine bodyPost_ret (v := .tuple #[.agg #[.string ⟨#[102, 114, 101, 101]⟩, .bool false, .bool true], .bool true]) ?_ rfl ⟨rfl, ?_⟩
    · exact ret_pair3 rfl _ _ w.heap.size _ _ rfl rfl (load_form (box_three HX.out _ _ _))
    · exact ((HB.out.setCell (Nat.le_refl _) _).setCell (Nat.le_refl _) _).setCell (Nat.le_refl _) _
  ·
    have c0 := hc 15
    have c1 := hc 16
    have c2 := hc 17
    rw [show formsA[15]? = some (.string ⟨#[100, 111, 119, 110]⟩) from rfl] at c0
    rw [show formsA[16]? = some (.bool false) from rfl] at c1
    rw [show formsA[17]? = some (.bool false) from rfl] at c2
    clear hrow hbox hW hc hk
    go_enter Tryd.func21, Tryd.ntmps21
    go_upto_region 1 with fail
    refine wp_region_lit ?_
    refine wpList_built #[.string ⟨#[112, 117, 116]⟩, .bool true, .bool true] rfl 46 _ rfl (by kernel_rfl) ?_
    refine wpList_built #[.string ⟨#[116, 97, 107, 101]⟩, .bool true, .bool false] rfl 46 _ rfl (by kernel_rfl) ?_
    refine wpList_built #[.string ⟨#[104, 111, 108, 100]⟩, .bool false, .bool false] rfl 46 _ rfl (by kernel_rfl) ?_
    refine wpList_built #[.string ⟨#[102, 114, 101, 101]⟩, .bool false, .bool true] rfl 46 _ rfl (by kernel_rfl) ?_
    refine wpList_built #[.string ⟨#[100, 111, 119, 110]⟩, .bool false, .bool false] rfl 46 _ rfl (by kernel_rfl) ?_
    refine wpList_built #[.string ⟨#[106, 111, 105, 110]⟩, .bool false, .bool true] rfl 46 _ rfl (by kernel_rfl) ?_
    refine wpList_built formsA rfl 61 _ rfl (by kernel_rfl) ?_
    go_upto_region 2 with (refine wpList_store_row rfl 61 _ _ rfl (w.heap.size + 1) formsA rfl rfl 61 _ (new_row w) forms_info forms_row forms_one ?_)
    rw [← HW.out]
    have f0 := fun j => frozen_of_row W w.heap.size j _ _ HX.out
    obtain ⟨b0, b1, b2⟩ := cells_three HX.out
    go_wp2
    refine bodyPost_ret (v := .tuple #[.agg #[.string ⟨#[100, 111, 119, 110]⟩, .bool false, .bool false], .bool true]) ?_ rfl ⟨rfl, ?_⟩
    · exact ret_pair3 rfl _ _ w.heap.size _ _ rfl rfl (load_form (box_three HX.out _ _ _))
    · exact ((HB.out.setCell (Nat.le_refl _) _).setCell (Nat.le_refl _) _).setCell (Nat.le_refl _) _
  ·
    have c0 := hc 18
    have c1 := hc 19
    have c2 := hc 20
    rw [show formsA[18]? = some (.string ⟨#[106, 111, 105, 110]⟩) from rfl] at c0
    rw [show formsA[19]? = some (.bool false) from rfl] at c1
    rw [show formsA[20]? = some (.bool true) from rfl] at c2
    clear hrow hbox hW hc hk
    go_enter Tryd.func21, Tryd.ntmps21
    go_upto_region 1 with fail
    refine wp_region_lit ?_
    refine wpList_built #[.string ⟨#[112, 117, 116]⟩, .bool true, .bool true] rfl 46 _ rfl (by kernel_rfl) ?_
    refine wpList_built #[.string ⟨#[116, 97, 107, 101]⟩, .bool true, .bool false] rfl 46 _ rfl (by kernel_rfl) ?_
    refine wpList_built #[.string ⟨#[104, 111, 108, 100]⟩, .bool false, .bool false] rfl 46 _ rfl (by kernel_rfl) ?_
    refine wpList_built #[.string ⟨#[102, 114, 101, 101]⟩, .bool false, .bool true] rfl 46 _ rfl (by kernel_rfl) ?_
    refine wpList_built #[.string ⟨#[100, 111, 119, 110]⟩, .bool false, .bool false] rfl 46 _ rfl (by kernel_rfl) ?_
    refine wpList_built #[.string ⟨#[106, 111, 105, 110]⟩, .bool false, .bool true] rfl 46 _ rfl (by kernel_rfl) ?_
    refine wpList_built formsA rfl 61 _ rfl (by kernel_rfl) ?_
    go_upto_region 2 with (refine wpList_store_row rfl 61 _ _ rfl (w.heap.size + 1) formsA rfl rfl 61 _ (new_row w) forms_info forms_row forms_one ?_)
    rw [← HW.out]
    have f0 := fun j => frozen_of_row W w.heap.size j _ _ HX.out
    obtain ⟨b0, b1, b2⟩ := cells_three HX.out
    go_wp2
    refine bodyPost_ret (v := .tuple #[.agg #[.string ⟨#[106, 111, 105, 110]⟩, .bool false, .bool true], .bool true]) ?_ rfl ⟨rfl, ?_⟩
    · exact ret_pair3 rfl _ _ w.heap.size _ _ rfl rfl (load_form (box_three HX.out _ _ _))
    · exact ((HB.out.setCell (Nat.le_refl _) _).setCell (Nat.le_refl _) _).setCell (Nat.le_refl _) _
end Go.Proofs.YtklphdomjhliaaaDoor.W
