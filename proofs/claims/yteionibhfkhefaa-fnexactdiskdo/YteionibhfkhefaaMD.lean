/-
  What a law is told of a slice of writes that came in: it can be read, and each text is a string that Go can hold.
-/
import Derived.Test.YteionibhfkhefaaMA
import Derived.Test.YteionibhfkhefaaF3
import Derived.ProofKit
import Derived.OpenShut
import Derived.ShutString
import Derived.SliceStrings
namespace Go.Proofs.Yteionibhfkhefaa.W
open Go.ChangeShapes Go.WideShapes Go.ChangeAt Go.RowKit K R

def IsMovs (w : World) (A : Option Addr) (n c : Nat) (l : List Mv) : Prop := Movs w w.heap.size A n l ∧ n ≤ c ∧ c ≤ maxLen ∧ ∀ e ∈ l, e.text.size ≤ maxLen
theorem isMovs_nil (w : World) : IsMovs w none 0 0 [] := ⟨⟨rfl, fun i hi => absurd hi (Nat.not_lt_zero _)⟩, Nat.le_refl _, by unfold maxLen; omega, fun s hs => by cases hs⟩
theorem mvl_cells : Try.prog.cellsOf 39 = 2 := by kernel_rfl

set_option maxRecDepth 100000 in
theorem open_movs {H : Type} {enc : TypeId × Value → H} {W : World} {base : Nat} {spare : Nat → Bool} {held : Bool} {fuel : Nat} {cs : List Value} {x : DataW H × List MemPlace}
    (h : DataW.trod enc Try.prog W base spare held fuel 27 cs = some x) :
    cs = [.slice none 0 0] ∨ ∃ (a : Addr) (len cap : Nat) (l : List Mv), cs = [.slice (some a) len cap] ∧ IsMovs W (some a) len cap l := by
  rcases DataW.trod_slice Try.underlying27 h with ⟨h0, -⟩ | ⟨a, len, cap, elems, rest, n, -, rfl, -, hb, hl, hm, hlen, hel, -, -⟩
  · exact .inl h0
  · refine .inr ⟨a, len, cap, ?_⟩
    have each : ∀ i, i < len → ∃ e : Mv, e.text.size ≤ maxLen ∧ W.cell? ((a.add (i * 2)).add 0) = some (.int .i64 e.pos) ∧ W.cell? ((a.add (i * 2)).add 1) = some (.string e.text) := by
      intro i hi
      have hb' := hel i hi
      rw [mvl_cells, List.getElem?_eq_getElem (by omega), Option.bind_eq_some_iff] at hb'
      obtain ⟨cs', hc, ht⟩ := hb'
      obtain ⟨xs, n', -, -, hcl, hxl, hg⟩ := DataW.trod_struct Try.underlying39 ht
      rw [mvl_cells] at hcl
      have hxl2 : xs.length = 2 := hxl
      have hcell := World.cells?_some hc
      match cs', hcl, xs, hxl2 with
      | [c0, c1], _, [x0, x1], _ =>
        have g0 := hg 0 _ rfl
        have g1 := hg 1 _ rfl
        simp [int1_cells] at g0
        simp [str1_cells] at g1
        obtain ⟨v, hv, -, -⟩ := DataW.trod_int Try.underlying3 g0
        obtain ⟨k, hk, -, hks⟩ := DataW.trod_string Try.underlying9 g1
        simp only [List.cons.injEq, and_true] at hk hv
        subst hk hv
        exact ⟨⟨v, k⟩, hks, hcell.2.2 0 (by omega), hcell.2.2 1 (by omega)⟩
    obtain ⟨l, h1, h2⟩ := list_of len each
    refine ⟨l, rfl, ⟨h1, fun i hi => ?_⟩, hl, hm, fun e he => ?_⟩
    · obtain ⟨-, q0, q1⟩ := h2 i hi
      obtain ⟨b, off, spot⟩ := a
      have hspot : spot = none := by
        obtain ⟨-, p0, -⟩ := h2 0 (by omega)
        simpa [Addr.add] using World.cell?_spot p0
      subst hspot
      rw [add_n, add_n] at q0 q1
      exact ⟨b, off, rfl, block_lt_of_cell q0, q0, q1⟩
    · obtain ⟨i, hi, rfl⟩ := List.getElem_of_mem he
      exact (h2 i hi).1

end Go.Proofs.Yteionibhfkhefaa.W
