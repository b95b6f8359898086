/-
  What a law is told of a slice of entries that came in: it can be read, and each key is a string that Go can hold.
-/
import Derived.Test.YtbckgmfopbpocaaDoorE1
import Derived.ProofKit
import Derived.OpenShut
import Derived.ShutString
import Derived.SliceStrings
namespace Go.Proofs.YtbckgmfopbpocaaDoor.W
open Go.ChangeShapes Go.WideShapes Go.ChangeAt Go.RowKit K R

def IsEnts (w : World) (A : Option Addr) (n c : Nat) (l : List En) : Prop := Ents w w.heap.size A n l ∧ n ≤ c ∧ c ≤ maxLen ∧ ∀ e ∈ l, e.key.size ≤ maxLen
theorem isEnts_nil (w : World) : IsEnts w none 0 0 [] := ⟨⟨rfl, fun i hi => absurd hi (Nat.not_lt_zero _)⟩, Nat.le_refl _, by unfold maxLen; omega, fun s hs => by cases hs⟩
theorem enl_cells : Tryd.prog.cellsOf 62 = 4 := by kernel_rfl
theorem str1_cells : Tryd.prog.cellsOf 9 = 1 := by kernel_rfl
theorem bool1_cells : Tryd.prog.cellsOf 4 = 1 := by kernel_rfl
theorem int1_cells : Tryd.prog.cellsOf 3 = 1 := by kernel_rfl
theorem add_n (b off i : Nat) : (⟨b, off, none⟩ : Addr).add i = ⟨b, off + i, none⟩ := by unfold Addr.add; split <;> simp_all
theorem list_of {α : Type} {P : Nat → α → Prop} : ∀ n, (∀ i, i < n → ∃ e, P i e) → ∃ l : List α, l.length = n ∧ ∀ i (h : i < l.length), P i l[i]
  | 0, _ => ⟨[], rfl, fun i h => absurd h (Nat.not_lt_zero _)⟩
  | n + 1, h => by
    obtain ⟨l, h1, h2⟩ := list_of n fun i hi => h i (by omega)
    obtain ⟨e, he⟩ := h n (by omega)
    refine ⟨l ++ [e], by simp [h1], fun i hi => ?_⟩
    by_cases hin : i < l.length
    · rw [List.getElem_append_left hin]; exact h2 i hin
    · rw [List.length_append, List.length_singleton] at hi
      have : i = l.length := by omega
      subst this
      rw [List.getElem_append_right (Nat.le_refl _)]
      simp
      rw [h1]; exact he

set_option maxRecDepth 100000 in
theorem open_ents {H : Type} {enc : TypeId × Value → H} {W : World} {base : Nat} {spare : Nat → Bool} {held : Bool} {fuel : Nat} {cs : List Value} {x : DataW H × List MemPlace}
    (h : DataW.trod enc Tryd.prog W base spare held fuel 33 cs = some x) :
    cs = [.slice none 0 0] ∨ ∃ (a : Addr) (len cap : Nat) (l : List En), cs = [.slice (some a) len cap] ∧ IsEnts W (some a) len cap l := by
  rcases DataW.trod_slice Tryd.underlying33 h with ⟨h0, -⟩ | ⟨a, len, cap, elems, rest, n, -, rfl, -, hb, hl, hm, hlen, hel, -, -⟩
  · exact .inl h0
  · refine .inr ⟨a, len, cap, ?_⟩
    have each : ∀ i, i < len → ∃ e : En, e.key.size ≤ maxLen ∧ W.cell? ((a.add (i * 4)).add 0) = some (.string e.key) ∧ W.cell? ((a.add (i * 4)).add 1) = some (.int .i64 e.val) ∧ W.cell? ((a.add (i * 4)).add 2) = some (.bool e.gone) ∧ W.cell? ((a.add (i * 4)).add 3) = some (.int .i64 e.time) := by
      intro i hi
      have hb' := hel i hi
      rw [enl_cells, List.getElem?_eq_getElem (by omega), Option.bind_eq_some_iff] at hb'
      obtain ⟨cs', hc, ht⟩ := hb'
      obtain ⟨xs, n', -, -, hcl, hxl, hg⟩ := DataW.trod_struct Tryd.underlying62 ht
      rw [enl_cells] at hcl
      have hxl4 : xs.length = 4 := hxl
      have hcell := World.cells?_some hc
      match cs', hcl, xs, hxl4 with
      | [c0, c1, c2, c3], _, [x0, x1, x2, x3], _ =>
        have g0 := hg 0 _ rfl
        have g1 := hg 1 _ rfl
        have g2 := hg 2 _ rfl
        have g3 := hg 3 _ rfl
        simp [str1_cells] at g0
        simp [int1_cells] at g1 g3
        simp [bool1_cells] at g2
        obtain ⟨k, hk, -, hks⟩ := DataW.trod_string Tryd.underlying9 g0
        obtain ⟨v, hv, -, -⟩ := DataW.trod_int Tryd.underlying3 g1
        obtain ⟨b, hbb, -⟩ := DataW.trod_bool Tryd.underlying4 g2
        obtain ⟨t, htt, -, -⟩ := DataW.trod_int Tryd.underlying3 g3
        simp only [List.cons.injEq, and_true] at hk hv hbb htt
        subst hk hv hbb htt
        exact ⟨⟨k, v, b, t⟩, hks, hcell.2.2 0 (by omega), hcell.2.2 1 (by omega), hcell.2.2 2 (by omega), hcell.2.2 3 (by omega)⟩
    obtain ⟨l, h1, h2⟩ := list_of len each
    refine ⟨l, rfl, ⟨h1, fun i hi => ?_⟩, hl, hm, fun e he => ?_⟩
    · obtain ⟨-, q0, q1, q2, q3⟩ := h2 i hi
      obtain ⟨b, off, spot⟩ := a
      have hspot : spot = none := by
        obtain ⟨-, p0, -⟩ := h2 0 (by omega)
        simpa [Addr.add] using World.cell?_spot p0
      subst hspot
      rw [add_n, add_n] at q0 q1 q2 q3
      exact ⟨b, off, rfl, block_lt_of_cell q0, q0, q1, q2, q3⟩
    · obtain ⟨i, hi, rfl⟩ := List.getElem_of_mem he
      exact (h2 i hi).1

end Go.Proofs.YtbckgmfopbpocaaDoor.W
