/-
  What the laws of deeds draw: deeds.
-/
import Derived.Test.YtklphdomjhliaaaDoorHH
import Derived.Deep.Cut
namespace Go.Proofs.YtklphdomjhliaaaDoor.W
open Go.RowKit K R B

def zeroD : Array Value := #[.int .i64 0, .string ⟨#[]⟩, .int .i64 0]
/-- a deed was drawn -/
def DeedD (g p n c : Nat) (A : Option Addr) (w : World) (e : Ending) (w' : World) : Prop :=
  ∃ (k num : Int) (key : ByteArray) (p' : Nat), key.size ≤ 6 ∧ p' ≤ p + 30 ∧ e = .returned (.agg #[.int .i64 k, .string key, .int .i64 num]) ∧ Rd w' g p' A n c ∧ w.grownBy w' (some g)
/-- while a deed is drawn: its box, and the reader -/
structure DrS (w W : World) (g q n c : Nat) (A : Option Addr) : Prop where
  rd : Rd W g q A n c
  box : W.heap[w.heap.size]? = some (.cells #[.int .i64 0, .string ⟨#[]⟩, .int .i64 0] 24 (0, 0))
  gr : w.grownBy W (some g)
  lt : g < w.heap.size
theorem DrS.go {w W W' : World} {g q q' n c : Nat} {A : Option Addr} (h : DrS w W g q n c A) (hr : Rd W' g q' A n c) (hg : W.grownBy W' (some g)) : DrS w W' g q' n c A :=
  ⟨hr, (hg.block _ (Array.getElem?_eq_some_iff.1 h.box).1 (fun e => by injection e with e; have := h.lt; omega)).trans h.box, h.gr.trans hg, h.lt⟩
theorem DrS.start {w : World} {g p n c : Nat} {A : Option Addr} (h : Rd w g p A n c) : DrS w (w.alloc (.cells #[.int .i64 0, .string ⟨#[]⟩, .int .i64 0] 24)) g p n c A :=
  ⟨h.alloc _, heap_alloc_new _ _, World.grownBy_alloc w _ _, (Array.getElem?_eq_some_iff.1 h.blk).1⟩
theorem Rd.put {W : World} {g b i p n c : Nat} {A : Option Addr} (h : Rd W g p A n c) (hb : g < b) (u : Value) : Rd (W.setCell ⟨b, i, none⟩ u) g p A n c :=
  h.grown (r := some b) ⟨rfl, rfl, rfl, by simp [World.setCell], fun k _ hk => heap_setCell_other _ _ _ _ (fun e => hk (by rw [e]))⟩ (fun k hk => by injection hk with hk; omega)
/-- the deed is laid into its box -/
theorem DrS.done {w W : World} {g q n c : Nat} {A : Option Addr} (h : DrS w W g q n c A) (x0 x1 x2 : Value) :
    Rd (((W.setCell ⟨w.heap.size, 0, none⟩ x0).setCell ⟨w.heap.size, 1, none⟩ x1).setCell ⟨w.heap.size, 2, none⟩ x2) g q A n c ∧ w.grownBy (((W.setCell ⟨w.heap.size, 0, none⟩ x0).setCell ⟨w.heap.size, 1, none⟩ x1).setCell ⟨w.heap.size, 2, none⟩ x2) (some g) := by
  have hl := h.lt
  refine ⟨((h.rd.put hl _).put hl _).put hl _, h.gr.os, h.gr.tape, h.gr.output, by have := h.gr.size; simpa [World.setCell] using this, fun k hk hn => ?_⟩
  rw [heap_setCell_other _ _ _ _ (show k ≠ w.heap.size by omega), heap_setCell_other _ _ _ _ (show k ≠ w.heap.size by omega), heap_setCell_other _ _ _ _ (show k ≠ w.heap.size by omega)]
  exact h.gr.block k hk hn

set_option maxHeartbeats 8000000 in
set_option maxRecDepth 100000 in
theorem deedDr (w : World) (g p n c b0 : Nat) (A : Option Addr) (hr : Rd w g p A n c) (hp : p ≤ 800000) (hbg : b0 ≠ g) :
    Calls Tryd.prog 18 #[.pointer (some ⟨g, 0, none⟩), .slice (some ⟨b0, 0, none⟩) 0 0] w (DeedD g p n c A w) := by
  have D0 := Lib.hid (DrS.start hr)
  clear hr
  obtain ⟨W0, hW0⟩ : ∃ W, W = w.alloc (.cells #[.int .i64 0, .string ⟨#[]⟩, .int .i64 0] 24) := ⟨_, rfl⟩
  rw [← hW0] at D0
  have HW0 := Lib.hid hW0
  clear hW0
  go_enter Tryd.func18, Tryd.ntmps18
  go_upto_region 1 with fail
  rw [← HW0.out]
  go_wp2_with fail
  go_at_call 19
  refine Calls.mono (pick W0 g p n c A 10 D0.out.rd (by omega) (by omega)) ?_
  rintro e w1 ⟨x, rfl, hx0, hx1, hr1, hg1⟩
  have D1 := Lib.hid (D0.out.go hr1 hg1)
  obtain ⟨b0', b1', b2'⟩ := cells_three D1.out.box
  have f0' := fun j => frozen_of_row w1 w.heap.size j _ _ D1.out.box
  clear hr1 hg1 D0
  have NEAR := Lib.hid (show ∀ W q, Rd W g q A n c → q ≤ 800005 → Calls Tryd.prog 34 #[.pointer (some ⟨g, 0, none⟩), .slice (some ⟨b0, 0, none⟩) 0 0] W (StrD 6 20 g q n c A W) from fun W q h hq => nearD W g q n c A 0 0 0 (some ⟨b0, 0, none⟩) [] h (by omega) (Strs.nil _ _ _) (Nat.zero_le _) (fun b o e => by injection e with e; injection e with e; rw [← e]; exact hbg) (fun s hs => by cases hs) (by omega))
  have PICK := Lib.hid (show ∀ W q (m : Int), Rd W g q A n c → q ≤ 900000 → m ≤ 1000 → Calls Tryd.prog 19 #[.pointer (some ⟨g, 0, none⟩), .int .i64 m] W (Picked g q n c A m W) from fun W q m h hq hm => pick W g q n c A m h (by omega) (by omega))
  have hx : x ≤ 4 ∨ x = 5 ∨ x = 6 ∨ x = 7 ∨ x = 8 ∨ x = 9 := by omega
  rcases hx with hx | rfl | rfl | rfl | rfl | rfl
  · have hx' : x = 0 ∨ x = 1 ∨ x = 2 ∨ x = 3 ∨ x = 4 := by omega
    clear hx
    rcases hx' with rfl | rfl | rfl | rfl | rfl
    all_goals
      go_wp2_with fail
      go_at_call 34
      refine Calls.mono (NEAR.out _ _ D1.out.rd (by omega)) ?_
      rintro e w2 ⟨s, p2, hs, hp2, rfl, hr2, hg2⟩
      have D2 := Lib.hid (D1.out.go hr2 hg2)
      clear hr2 hg2
      go_wp2_with fail
      go_at_call 19
      refine Calls.mono (PICK.out _ _ 100 D2.out.rd (by omega) (by omega)) ?_
      rintro e w3 ⟨y, rfl, hy0, hy1, hr3, hg3⟩
      have D3 := Lib.hid (D2.out.go hr3 hg3)
      obtain ⟨b0', b1', b2'⟩ := cells_three D3.out.box
      have f0' := fun j => frozen_of_row w3 w.heap.size j _ _ D3.out.box
      clear hr3 hg3
      go_wp2
      refine bodyPost_ret (v := .agg #[.int .i64 1, .string s, .int .i64 y]) ?_ rfl ⟨1, y, s, p2 + 1, hs, by omega, rfl, D3.out.done _ _ _⟩
      exact results_cell_row rfl _ _ w.heap.size 24 _ (0, 0) _ rfl (box_three D3.out.box _ _ _) Tryd.underlying24 rfl (by kernel_rfl)
  · go_wp2_with fail
    go_at_call 34
    refine Calls.mono (NEAR.out _ _ D1.out.rd (by omega)) ?_
    rintro e w2 ⟨s, p2, hs, hp2, rfl, hr2, hg2⟩
    have D2 := Lib.hid (D1.out.go hr2 hg2)
    obtain ⟨b0', b1', b2'⟩ := cells_three D2.out.box
    have f0' := fun j => frozen_of_row w2 w.heap.size j _ _ D2.out.box
    clear hr2 hg2
    go_wp2
    refine bodyPost_ret (v := .agg #[.int .i64 2, .string s, .int .i64 0]) ?_ rfl ⟨2, 0, s, p2, hs, by omega, rfl, D2.out.done _ _ _⟩
    exact results_cell_row rfl _ _ w.heap.size 24 _ (0, 0) _ rfl (box_three D2.out.box _ _ _) Tryd.underlying24 rfl (by kernel_rfl)
  · go_wp2
    refine bodyPost_ret (v := .agg #[.int .i64 3, .string ⟨#[]⟩, .int .i64 0]) ?_ rfl ⟨3, 0, ⟨#[]⟩, p + 1, by decide, by omega, rfl, D1.out.done _ _ _⟩
    exact results_cell_row rfl _ _ w.heap.size 24 _ (0, 0) _ rfl (box_three D1.out.box _ _ _) Tryd.underlying24 rfl (by kernel_rfl)
  · go_wp2_with fail
    go_at_call 19
    refine Calls.mono (PICK.out _ _ 20 D1.out.rd (by omega) (by omega)) ?_
    rintro e w3 ⟨y, rfl, hy0, hy1, hr3, hg3⟩
    have D3 := Lib.hid (D1.out.go hr3 hg3)
    obtain ⟨b0', b1', b2'⟩ := cells_three D3.out.box
    have f0' := fun j => frozen_of_row w3 w.heap.size j _ _ D3.out.box
    clear hr3 hg3
    go_wp2
    refine bodyPost_ret (v := .agg #[.int .i64 4, .string ⟨#[]⟩, .int .i64 y]) ?_ rfl ⟨4, y, ⟨#[]⟩, p + 1 + 1, by decide, by omega, rfl, D3.out.done _ _ _⟩
    exact results_cell_row rfl _ _ w.heap.size 24 _ (0, 0) _ rfl (box_three D3.out.box _ _ _) Tryd.underlying24 rfl (by kernel_rfl)
  · go_wp2
    refine bodyPost_ret (v := .agg #[.int .i64 5, .string ⟨#[]⟩, .int .i64 0]) ?_ rfl ⟨5, 0, ⟨#[]⟩, p + 1, by decide, by omega, rfl, D1.out.done _ _ _⟩
    exact results_cell_row rfl _ _ w.heap.size 24 _ (0, 0) _ rfl (box_three D1.out.box _ _ _) Tryd.underlying24 rfl (by kernel_rfl)
  · go_wp2_with fail
    go_at_call 19
    refine Calls.mono (PICK.out _ _ 3 D1.out.rd (by omega) (by omega)) ?_
    rintro e w3 ⟨y, rfl, hy0, hy1, hr3, hg3⟩
    have D3 := Lib.hid (D1.out.go hr3 hg3)
    obtain ⟨b0', b1', b2'⟩ := cells_three D3.out.box
    have f0' := fun j => frozen_of_row w3 w.heap.size j _ _ D3.out.box
    clear hr3 hg3
    go_wp2
    refine bodyPost_ret (v := .agg #[.int .i64 6, .string ⟨#[]⟩, .int .i64 y]) ?_ rfl ⟨6, y, ⟨#[]⟩, p + 1 + 1, by decide, by omega, rfl, D3.out.done _ _ _⟩
    exact results_cell_row rfl _ _ w.heap.size 24 _ (0, 0) _ rfl (box_three D3.out.box _ _ _) Tryd.underlying24 rfl (by kernel_rfl)
end Go.Proofs.YtklphdomjhliaaaDoor.W
