/-
  What a law is told of a slice of entries that came in: it can be read, and each key is a string that Go can hold.
  What a law is told of a store that came in: it can be read, and all its strings are such as Go can hold.
-/
import Derived.Test.YtfhpkcamigkmdaaGreatDoorZAA
import Derived.Test.YtfhpkcamigkmdaaGreatDoorZAH
import Derived.Test.YtfhpkcamigkmdaaGreatDoorZAI
import Derived.Test.YtfhpkcamigkmdaaGreatDoorZAG
import Derived.ProofKit
import Derived.OpenShut
import Derived.ShutString
import Derived.SliceStrings
namespace Go.Proofs.YtfhpkcamigkmdaaGreatDoor.W
open Go.ChangeShapes Go.WideShapes Go.ChangeAt Go.RowKit K R

def IsEnts (w : World) (A : Option Addr) (n c : Nat) (l : List En) : Prop := Ents w w.heap.size A n l ∧ n ≤ c ∧ c ≤ maxLen ∧ ∀ e ∈ l, e.key.size ≤ maxLen
theorem enl_cells : Tryz.prog.cellsOf 106 = 4 := by kernel_rfl
theorem str1_cells : Tryz.prog.cellsOf 9 = 1 := by kernel_rfl
theorem bool1_cells : Tryz.prog.cellsOf 4 = 1 := by kernel_rfl
theorem int1_cells : Tryz.prog.cellsOf 3 = 1 := by kernel_rfl
theorem add_n (b off i : Nat) : (⟨b, off, none⟩ : Addr).add i = ⟨b, off + i, none⟩ := by unfold Addr.add; split <;> simp_all
theorem list_of {α : Type} {P : Nat → α → Prop} : ∀ n, (∀ i, i < n → ∃ e, P i e) → ∃ l : List α, l.length = n ∧ ∀ i (h : i < l.length), P i l[i]
  | 0, _ => ⟨[], rfl, fun i h => absurd h (Nat.not_lt_zero _)⟩
  | n + 1, h => by
    obtain ⟨l, h1, h2⟩ := list_of n fun i hi => h i (by omega)
    obtain ⟨e, he⟩ := h n (by omega)
    refine ⟨l ++ [e], by simp [h1], fun i hi => ?_⟩
    by_cases hin : i < l.length
    · rw [List.getElem_append_left hin]; exact h2 i hin
    · rw [List.length_append, List.length_singleton] at hi
      have : i = l.length := by omega
      subst this
      rw [List.getElem_append_right (Nat.le_refl _)]
      simp
      rw [h1]; exact he

set_option maxRecDepth 100000 in
theorem open_ents {H : Type} {enc : TypeId × Value → H} {W : World} {base : Nat} {spare : Nat → Bool} {held : Bool} {fuel : Nat} {cs : List Value} {x : DataW H × List MemPlace}
    (h : DataW.trod enc Tryz.prog W base spare held fuel 22 cs = some x) :
    cs = [.slice none 0 0] ∨ ∃ (a : Addr) (len cap : Nat) (l : List En), cs = [.slice (some a) len cap] ∧ IsEnts W (some a) len cap l := by
  rcases DataW.trod_slice Tryz.underlying22 h with ⟨h0, -⟩ | ⟨a, len, cap, elems, rest, n, -, rfl, -, hb, hl, hm, hlen, hel, -, -⟩
  · exact .inl h0
  · refine .inr ⟨a, len, cap, ?_⟩
    have each : ∀ i, i < len → ∃ e : En, e.key.size ≤ maxLen ∧ W.cell? ((a.add (i * 4)).add 0) = some (.string e.key) ∧ W.cell? ((a.add (i * 4)).add 1) = some (.int .i64 e.val) ∧ W.cell? ((a.add (i * 4)).add 2) = some (.bool e.gone) ∧ W.cell? ((a.add (i * 4)).add 3) = some (.int .i64 e.time) := by
      intro i hi
      have hb' := hel i hi
      rw [enl_cells, List.getElem?_eq_getElem (by omega), Option.bind_eq_some_iff] at hb'
      obtain ⟨cs', hc, ht⟩ := hb'
      obtain ⟨xs, n', -, -, hcl, hxl, hg⟩ := DataW.trod_struct Tryz.underlying106 ht
      rw [enl_cells] at hcl
      have hxl4 : xs.length = 4 := hxl
      have hcell := World.cells?_some hc
      match cs', hcl, xs, hxl4 with
      | [c0, c1, c2, c3], _, [x0, x1, x2, x3], _ =>
        have g0 := hg 0 _ rfl
        have g1 := hg 1 _ rfl
        have g2 := hg 2 _ rfl
        have g3 := hg 3 _ rfl
        simp [str1_cells] at g0
        simp [int1_cells] at g1 g3
        simp [bool1_cells] at g2
        obtain ⟨k, hk, -, hks⟩ := DataW.trod_string Tryz.underlying9 g0
        obtain ⟨v, hv, -, -⟩ := DataW.trod_int Tryz.underlying3 g1
        obtain ⟨b, hbb, -⟩ := DataW.trod_bool Tryz.underlying4 g2
        obtain ⟨t, htt, -, -⟩ := DataW.trod_int Tryz.underlying3 g3
        simp only [List.cons.injEq, and_true] at hk hv hbb htt
        subst hk hv hbb htt
        exact ⟨⟨k, v, b, t⟩, hks, hcell.2.2 0 (by omega), hcell.2.2 1 (by omega), hcell.2.2 2 (by omega), hcell.2.2 3 (by omega)⟩
    obtain ⟨l, h1, h2⟩ := list_of len each
    refine ⟨l, rfl, ⟨h1, fun i hi => ?_⟩, hl, hm, fun e he => ?_⟩
    · obtain ⟨-, q0, q1, q2, q3⟩ := h2 i hi
      obtain ⟨b, off, spot⟩ := a
      have hspot : spot = none := by
        obtain ⟨-, p0, -⟩ := h2 0 (by omega)
        simpa [Addr.add] using World.cell?_spot p0
      subst hspot
      rw [add_n, add_n] at q0 q1 q2 q3
      exact ⟨b, off, rfl, block_lt_of_cell q0, q0, q1, q2, q3⟩
    · obtain ⟨i, hi, rfl⟩ := List.getElem_of_mem he
      exact (h2 i hi).1

end Go.Proofs.YtfhpkcamigkmdaaGreatDoor.W
namespace Go.Proofs.YtfhpkcamigkmdaaGreatDoor.W
open Go.ChangeShapes Go.WideShapes Go.ChangeAt Go.RowKit K R

theorem svl_cells : Tryz.prog.cellsOf 108 = 5 := by kernel_rfl
theorem enls_cells : Tryz.prog.cellsOf 22 = 1 := by kernel_rfl
theorem strs1_cells : Tryz.prog.cellsOf 90 = 1 := by kernel_rfl
theorem lvls_cells : Tryz.prog.cellsOf 23 = 1 := by kernel_rfl
theorem svls_cells : Tryz.prog.cellsOf 24 = 1 := by kernel_rfl
theorem nums1_cells : Tryz.prog.cellsOf 25 = 1 := by kernel_rfl
theorem str8_cells : Tryz.prog.cellsOf 27 = 6 := by kernel_rfl

set_option maxRecDepth 100000 in
theorem open_lvls {H : Type} {enc : TypeId × Value → H} {W : World} {base : Nat} {spare : Nat → Bool} {held : Bool} {fuel : Nat} {cs : List Value} {x : DataW H × List MemPlace}
    (h : DataW.trod enc Tryz.prog W base spare held fuel 23 cs = some x) :
    ∃ (A : Option Addr) (len cap : Nat) (ls : List (List En)), cs = [.slice A len cap] ∧ Lvls W W.heap.size A len ls ∧ len ≤ cap ∧ cap ≤ maxLen ∧ ∀ r ∈ ls, fitE r := by
  rcases DataW.trod_slice Tryz.underlying23 h with ⟨h0, -⟩ | ⟨a, len, cap, elems, rest, n, -, rfl, -, hb, hl, hm, hlen, hel, -, -⟩
  · exact ⟨none, 0, 0, [], h0, ⟨rfl, fun i hi => absurd hi (Nat.not_lt_zero _)⟩, Nat.le_refl _, by unfold maxLen; omega, fun r hr => by cases hr⟩
  · refine ⟨some a, len, cap, ?_⟩
    have each : ∀ i, i < len → ∃ e : List En, fitE e ∧ ∃ (A' : Option Addr) (c' : Nat), W.cell? ((a.add i).add 0) = some (.slice A' e.length c') ∧ Ents W W.heap.size A' e.length e ∧ e.length ≤ c' ∧ c' ≤ maxLen := by
      intro i hi
      have hb' := hel i hi
      rw [enls_cells, List.getElem?_eq_getElem (by omega), Option.bind_eq_some_iff] at hb'
      obtain ⟨cs', hc, ht⟩ := hb'
      rw [Nat.mul_one] at hc
      have hcell := World.cells?_some hc
      rcases open_ents ht with rfl | ⟨a', len', cap', l', rfl, hE, h1, h2, h3⟩
      · exact ⟨[], (fun e he => by cases he), none, 0, hcell.2.2 0 (by simp), ⟨rfl, fun i hi => absurd hi (Nat.not_lt_zero _)⟩, Nat.le_refl _, by unfold maxLen; omega⟩
      · have hl' := hE.len
        subst hl'
        exact ⟨l', h3, some a', cap', hcell.2.2 0 (by simp), hE, h1, h2⟩
    obtain ⟨ls, h1, h2⟩ := list_of len each
    refine ⟨ls, rfl, ⟨h1, fun i hi => ?_⟩, hl, hm, fun e he => ?_⟩
    · obtain ⟨-, A', c', q0, hE, q1, q2⟩ := h2 i hi
      obtain ⟨b, off, spot⟩ := a
      have hspot : spot = none := by
        obtain ⟨-, _, _, p0, -⟩ := h2 0 (by omega)
        simpa [Addr.add] using World.cell?_spot p0
      subst hspot
      rw [add_n, add_n, Nat.add_zero] at q0
      exact ⟨b, off, A', c', rfl, block_lt_of_cell q0, q0, hE, q1, q2⟩
    · obtain ⟨i, hi, rfl⟩ := List.getElem_of_mem he
      exact (h2 i hi).1

set_option maxRecDepth 100000 in
theorem open_svs {H : Type} {enc : TypeId × Value → H} {W : World} {base : Nat} {spare : Nat → Bool} {held : Bool} {fuel : Nat} {cs : List Value} {x : DataW H × List MemPlace}
    (h : DataW.trod enc Tryz.prog W base spare held fuel 24 cs = some x) :
    ∃ (A : Option Addr) (len cap : Nat) (ss : List Sf), cs = [.slice A len cap] ∧ Svs W W.heap.size A len ss ∧ len ≤ cap ∧ cap ≤ maxLen ∧ ∀ r ∈ ss, fitS r := by
  rcases DataW.trod_slice Tryz.underlying24 h with ⟨h0, -⟩ | ⟨a, len, cap, elems, rest, n, -, rfl, -, hb, hl, hm, hlen, hel, -, -⟩
  · exact ⟨none, 0, 0, [], h0, ⟨rfl, fun i hi => absurd hi (Nat.not_lt_zero _)⟩, Nat.le_refl _, by unfold maxLen; omega, fun r hr => by cases hr⟩
  · refine ⟨some a, len, cap, ?_⟩
    have each : ∀ i, i < len → ∃ e : Sf, fitS e ∧ ∃ (A' : Option Addr) (c' : Nat), W.cell? ((a.add (i * 5)).add 0) = some (.string e.letters) ∧ W.cell? ((a.add (i * 5)).add 1) = some (.string e.more) ∧ W.cell? ((a.add (i * 5)).add 2) = some (.string e.first) ∧ W.cell? ((a.add (i * 5)).add 3) = some (.slice A' e.rests.length c') ∧ W.cell? ((a.add (i * 5)).add 4) = some (.int .i64 e.keep) ∧ Strs W W.heap.size A' e.rests.length e.rests ∧ e.rests.length ≤ c' ∧ c' ≤ maxLen := by
      intro i hi
      have hb' := hel i hi
      rw [svl_cells, List.getElem?_eq_getElem (by omega), Option.bind_eq_some_iff] at hb'
      obtain ⟨cs', hc, ht⟩ := hb'
      obtain ⟨xs, n', -, -, hcl, hxl, hg⟩ := DataW.trod_struct Tryz.underlying108 ht
      rw [svl_cells] at hcl
      have hxl5 : xs.length = 5 := hxl
      have hcell := World.cells?_some hc
      match cs', hcl, xs, hxl5 with
      | [c0, c1, c2, c3, c4], _, [x0, x1, x2, x3, x4], _ =>
        have g0 := hg 0 _ rfl
        have g1 := hg 1 _ rfl
        have g2 := hg 2 _ rfl
        have g3 := hg 3 _ rfl
        have g4 := hg 4 _ rfl
        simp [str1_cells] at g0 g1 g2
        simp [strs1_cells] at g3
        simp [int1_cells] at g4
        obtain ⟨L, hL, -, hLs⟩ := DataW.trod_string Tryz.underlying9 g0
        obtain ⟨M_, hM, -, hMs⟩ := DataW.trod_string Tryz.underlying9 g1
        obtain ⟨F, hF, -, hFs⟩ := DataW.trod_string Tryz.underlying9 g2
        obtain ⟨k, hk, -, -⟩ := DataW.trod_int Tryz.underlying3 g4
        simp only [List.cons.injEq, and_true] at hL hM hF hk
        subst hL hM hF hk
        rcases open_strings Tryz.underlying90 Tryz.underlying9 str1_cells g3 with ⟨hcs, _⟩ | ⟨y, len', cap', ss, hcs, _, hl', hm', hz, _, hcell', hws⟩
        · simp only [List.cons.injEq, and_true] at hcs
          subst hcs
          exact ⟨⟨L, M_, F, [], k⟩, ⟨hLs, hMs, hFs, fun s hs => by cases hs⟩, none, 0, hcell.2.2 0 (by omega), hcell.2.2 1 (by omega), hcell.2.2 2 (by omega), hcell.2.2 3 (by omega), hcell.2.2 4 (by omega), Strs.nil _ _ _, Nat.le_refl _, by unfold maxLen; omega⟩
        · simp only [List.cons.injEq, and_true] at hcs
          subst hcs
          obtain ⟨hS, i1, i2, i3⟩ := isStrs_of hl' hm' (by rw [hz]; split <;> omega) hcell' hws
          have hsl := hS.len
          refine ⟨⟨L, M_, F, ss.take len', k⟩, ⟨hLs, hMs, hFs, i3⟩, some y, cap', hcell.2.2 0 (by omega), hcell.2.2 1 (by omega), hcell.2.2 2 (by omega), ?_, hcell.2.2 4 (by omega), ?_, ?_, i2⟩
          · show _ = some (Value.slice _ (ss.take len').length _)
            rw [hsl]; exact hcell.2.2 3 (by omega)
          · show Strs _ _ _ (ss.take len').length _
            rw [hsl]; exact hS
          · show (ss.take len').length ≤ _
            rw [hsl]; exact i1
    obtain ⟨ls, h1, h2⟩ := list_of len each
    refine ⟨ls, rfl, ⟨h1, fun i hi => ?_⟩, hl, hm, fun e he => ?_⟩
    · obtain ⟨-, A', c', q0, q1, q2, q3, q4, hE, e1, e2⟩ := h2 i hi
      obtain ⟨b, off, spot⟩ := a
      have hspot : spot = none := by
        obtain ⟨-, _, _, p0, -⟩ := h2 0 (by omega)
        simpa [Addr.add] using World.cell?_spot p0
      subst hspot
      rw [add_n, add_n] at q0 q1 q2 q3 q4
      exact ⟨b, off, A', c', rfl, block_lt_of_cell q0, q0, q1, q2, q3, q4, hE, e1, e2⟩
    · obtain ⟨i, hi, rfl⟩ := List.getElem_of_mem he
      exact (h2 i hi).1

set_option maxRecDepth 100000 in
theorem open_nums {H : Type} {enc : TypeId × Value → H} {W : World} {base : Nat} {spare : Nat → Bool} {held : Bool} {fuel : Nat} {cs : List Value} {x : DataW H × List MemPlace}
    (h : DataW.trod enc Tryz.prog W base spare held fuel 25 cs = some x) :
    ∃ (A : Option Addr) (len cap : Nat) (ls : List Int), cs = [.slice A len cap] ∧ Nums W W.heap.size A len ls ∧ len ≤ cap ∧ cap ≤ maxLen := by
  rcases DataW.trod_slice Tryz.underlying25 h with ⟨h0, -⟩ | ⟨a, len, cap, elems, rest, n, -, rfl, -, hb, hl, hm, hlen, hel, -, -⟩
  · exact ⟨none, 0, 0, [], h0, ⟨rfl, fun i hi => absurd hi (Nat.not_lt_zero _)⟩, Nat.le_refl _, by unfold maxLen; omega⟩
  · refine ⟨some a, len, cap, ?_⟩
    have each : ∀ i, i < len → ∃ e : Int, W.cell? ((a.add i).add 0) = some (.int .i64 e) := by
      intro i hi
      have hb' := hel i hi
      rw [int1_cells, List.getElem?_eq_getElem (by omega), Option.bind_eq_some_iff] at hb'
      obtain ⟨cs', hc, ht⟩ := hb'
      rw [Nat.mul_one] at hc
      have hcell := World.cells?_some hc
      obtain ⟨k, hk, -, -⟩ := DataW.trod_int Tryz.underlying3 ht
      subst hk
      exact ⟨k, hcell.2.2 0 (by simp)⟩
    obtain ⟨ls, h1, h2⟩ := list_of len each
    refine ⟨ls, rfl, ⟨h1, fun i hi => ?_⟩, hl, hm⟩
    have q0 := h2 i hi
    obtain ⟨b, off, spot⟩ := a
    have hspot : spot = none := by
      have p0 := h2 0 (by omega)
      simpa [Addr.add] using World.cell?_spot p0
    subst hspot
    rw [add_n, add_n, Nat.add_zero] at q0
    exact ⟨b, off, rfl, block_lt_of_cell q0, q0⟩

set_option maxRecDepth 100000 in
theorem open_store {H : Type} {enc : TypeId × Value → H} {W : World} {base : Nat} {spare : Nat → Bool} {held : Bool} {r : Reach} {b0 : Nat} {v : Value} {d : DataW H} {p : List MemPlace}
    (hv : Value.okWide Tryz.prog W r b0 27 v) (h : DataW.Trod enc Tryz.prog W base spare held 27 v d p) :
    ∃ (A0 A1 A2 A5 : Option Addr) (c0 c1 c2 c5 : Nat) (s : Sto), v = stV A0 A1 A2 A5 c0 c1 c2 c5 s ∧ StM W W.heap.size A0 A1 A2 A5 c0 c1 c2 c5 s ∧ fitSt s := by
  obtain ⟨cs, rfl, hsz⟩ := okWide_struct Tryz.underlying27 hv
  rw [str8_cells] at hsz
  obtain ⟨l0⟩ := cs
  match l0, hsz with
  | [v0, v1, v2, v3, v4, v5], _ =>
    obtain ⟨fuel, hf⟩ := h
    obtain ⟨xs, n, _, _, _, hlen, hg⟩ := DataW.trod_struct Tryz.underlying27 hf
    have hlen6 : xs.length = 6 := hlen
    match xs, hlen6 with
    | [x0, x1, x2, x3, x4, x5], _ =>
      have g0 := hg 0 _ rfl
      have g1 := hg 1 _ rfl
      have g2 := hg 2 _ rfl
      have g3 := hg 3 _ rfl
      have g4 := hg 4 _ rfl
      have g5 := hg 5 _ rfl
      simp [Value.cells, enls_cells] at g0
      simp [Value.cells, lvls_cells] at g1
      simp [Value.cells, svls_cells] at g2
      simp [Value.cells, int1_cells] at g3 g4
      simp [Value.cells, nums1_cells] at g5
      obtain ⟨k, hk, -, -⟩ := DataW.trod_int Tryz.underlying3 g3
      obtain ⟨t, ht, -, -⟩ := DataW.trod_int Tryz.underlying3 g4
      simp only [List.cons.injEq, and_true] at hk ht
      subst hk ht
      obtain ⟨A1, n1, c1, lvs, e1, hL, hl1, hc1, hf1⟩ := open_lvls g1
      obtain ⟨A2, n2, c2, svs, e2, hS, hl2, hc2, hf2⟩ := open_svs g2
      obtain ⟨A5, n5, c5, tms, e5, hN, hl5, hc5⟩ := open_nums g5
      simp only [List.cons.injEq, and_true] at e1 e2 e5
      subst e1 e2 e5
      have k1 := hL.len
      have k2 := hS.len
      have k5 := hN.len
      subst k1 k2 k5
      rcases open_ents g0 with e0 | ⟨a0, n0, c0, top, e0, hE, hl0, hc0, hf0⟩
      · simp only [List.cons.injEq, and_true] at e0
        subst e0
        exact ⟨none, A1, A2, A5, 0, c1, c2, c5, ⟨[], lvs, svs, k, t, tms⟩, rfl, ⟨⟨rfl, fun i hi => absurd hi (Nat.not_lt_zero _)⟩, hL, hS, hN, ⟨Nat.le_refl _, by unfold maxLen; omega⟩, ⟨hl1, hc1⟩, ⟨hl2, hc2⟩, ⟨hl5, hc5⟩⟩, (fun e he => by cases he), hf1, hf2⟩
      · simp only [List.cons.injEq, and_true] at e0
        subst e0
        have k0 := hE.len
        subst k0
        exact ⟨some a0, A1, A2, A5, c0, c1, c2, c5, ⟨top, lvs, svs, k, t, tms⟩, rfl, ⟨hE, hL, hS, hN, ⟨hl0, hc0⟩, ⟨hl1, hc1⟩, ⟨hl2, hc2⟩, ⟨hl5, hc5⟩⟩, hf0, hf1, hf2⟩

end Go.Proofs.YtfhpkcamigkmdaaGreatDoor.W
