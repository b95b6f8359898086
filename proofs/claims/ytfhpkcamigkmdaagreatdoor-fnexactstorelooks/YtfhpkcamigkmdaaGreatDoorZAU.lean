/-
  The cells of a tree that is being filled; rows that a store into the tree leaves as they are.
  A tree whose three levels are filled is a tree in memory.
-/
import Derived.Test.YtfhpkcamigkmdaaGreatDoorZAT
namespace Go.Proofs.YtfhpkcamigkmdaaGreatDoor.W
open Go.RowKit K R

theorem set6_size (cur : Array Value) (n : Nat) (v0 v1 v2 v3 v4 v5 : Value) : (set6 cur n v0 v1 v2 v3 v4 v5).size = cur.size := by simp [set6]
theorem set6_other {cur : Array Value} {n : Nat} {v0 v1 v2 v3 v4 v5 : Value} {i : Nat} (h : i < 1 + n * 6 ∨ 1 + n * 6 + 5 < i) : (set6 cur n v0 v1 v2 v3 v4 v5)[i]? = cur[i]? := by
  unfold set6
  rw [Array.getElem?_setIfInBounds_ne (by omega), Array.getElem?_setIfInBounds_ne (by omega), Array.getElem?_setIfInBounds_ne (by omega), Array.getElem?_setIfInBounds_ne (by omega), Array.getElem?_setIfInBounds_ne (by omega), Array.getElem?_setIfInBounds_ne (by omega)]
theorem set6_at {cur : Array Value} {n : Nat} {v0 v1 v2 v3 v4 v5 : Value} (h : 1 + n * 6 + 5 < cur.size) :
    (set6 cur n v0 v1 v2 v3 v4 v5)[1 + n * 6]? = some v0 ∧ (set6 cur n v0 v1 v2 v3 v4 v5)[1 + n * 6 + 1]? = some v1 ∧ (set6 cur n v0 v1 v2 v3 v4 v5)[1 + n * 6 + 2]? = some v2 ∧ (set6 cur n v0 v1 v2 v3 v4 v5)[1 + n * 6 + 3]? = some v3 ∧ (set6 cur n v0 v1 v2 v3 v4 v5)[1 + n * 6 + 4]? = some v4 ∧ (set6 cur n v0 v1 v2 v3 v4 v5)[1 + n * 6 + 5]? = some v5 := by
  unfold set6
  refine ⟨?_, ?_, ?_, ?_, ?_, ?_⟩
  · rw [Array.getElem?_setIfInBounds_ne (by omega), Array.getElem?_setIfInBounds_ne (by omega), Array.getElem?_setIfInBounds_ne (by omega), Array.getElem?_setIfInBounds_ne (by omega), Array.getElem?_setIfInBounds_ne (by omega), Array.getElem?_setIfInBounds_self_of_lt (by omega)]
  · rw [Array.getElem?_setIfInBounds_ne (by omega), Array.getElem?_setIfInBounds_ne (by omega), Array.getElem?_setIfInBounds_ne (by omega), Array.getElem?_setIfInBounds_ne (by omega), Array.getElem?_setIfInBounds_self_of_lt (by simp; omega)]
  · rw [Array.getElem?_setIfInBounds_ne (by omega), Array.getElem?_setIfInBounds_ne (by omega), Array.getElem?_setIfInBounds_ne (by omega), Array.getElem?_setIfInBounds_self_of_lt (by simp; omega)]
  · rw [Array.getElem?_setIfInBounds_ne (by omega), Array.getElem?_setIfInBounds_ne (by omega), Array.getElem?_setIfInBounds_self_of_lt (by simp; omega)]
  · rw [Array.getElem?_setIfInBounds_ne (by omega), Array.getElem?_setIfInBounds_self_of_lt (by simp; omega)]
  · rw [Array.getElem?_setIfInBounds_self_of_lt (by simp; omega)]
/-- a row of another type is not the box that is written -/
theorem row_ne {w : World} {base g n sz : Nat} {E T : TypeId} {v : Value} {cs : List Value} {cur : Array Value} {x : Nat × Nat} (h : w.ownsRow base E sz v n cs) (hb : w.heap[g]? = some (.cells cur T x)) (hne : E ≠ T) : ∀ k, v.ownBlock = some k → k ≠ g := fun k hk e => by
  subst e
  rcases h.2 with ⟨hv, -⟩ | ⟨g', cap, cur', hv, -, hg, -⟩
  · rw [hv] at hk; cases hk
  · rw [hv] at hk
    have : g' = k := by injection hk
    subst this
    rw [hb] at hg
    injection hg with hg
    injection hg with _ h2
    exact hne h2.symm
theorem row_keepBox {w w' : World} {base g n sz : Nat} {E T : TypeId} {v : Value} {cs : List Value} {cur : Array Value} {x : Nat × Nat} (h : w.ownsRow base E sz v n cs) (hb : w.heap[g]? = some (.cells cur T x)) (hne : E ≠ T) (hg : w.grownBy w' (some g)) : w'.ownsRow base E sz v n cs :=
  World.ownsRow.kept h hg (by
    cases e : v.ownBlock with
    | none => exact .inl rfl
    | some k => exact .inr (fun y => by injection y with y; exact row_ne h hb hne k e y))
theorem ent_ne : 83 ≠ 119 := by decide
theorem str_ne : 9 ≠ 119 := by decide
theorem int_ne : 3 ≠ 119 := by decide
/-- one level of a tree lies filled -/
structure LvM (w : World) (base : Nat) (cur : Array Value) (j : Nat) (r : List En) (keep : Int) (A B : Option Addr) (c d : Nat) : Prop where
  c0 : cur[1 + j * 6]? = some (.slice A r.length c)
  c1 : cur[1 + j * 6 + 1]? = some (.string (svL (keysL r) keep))
  c2 : cur[1 + j * 6 + 2]? = some (.string (svM (keysL r) keep))
  c3 : cur[1 + j * 6 + 3]? = some (.string (svF (keysL r) keep))
  c4 : cur[1 + j * 6 + 4]? = some (.slice B (svR (keysL r) keep).length d)
  c5 : cur[1 + j * 6 + 5]? = some (.int .i64 (svK (keysL r) keep))
  run : OwnE w base (.slice A r.length c) r
  rests : Own w base (.slice B (svR (keysL r) keep).length d) (svR (keysL r) keep)
/-- a tree of which k levels are filled -/
structure TreeK (W0 w : World) (gt : Nat) (cur : Array Value) (A8 A9 : Option Addr) (k8 k9 : Nat) (top : List En) (levels : List (List En)) (keep time : Int) (times : List Int) (k : Nat) : Prop where
  row : w.heap[gt]? = some (.cells cur 119 (0, 0))
  size : cur.size = 22
  a0 : cur[0]? = some (.slice A8 top.length k8)
  a19 : cur[19]? = some (.int .i64 keep)
  a20 : cur[20]? = some (.int .i64 time)
  a21 : cur[21]? = some (.slice A9 times.length k9)
  top : OwnE w W0.heap.size (.slice A8 top.length k8) top
  times : OwnN w W0.heap.size (.slice A9 times.length k9) times
  lv : ∀ j (h : j < levels.length), j < k → ∃ A B c d, LvM w W0.heap.size cur j levels[j] keep A B c d
  new : W0.heap.size ≤ gt
  bel : Below W0.heap.size W0 w
theorem TreeK.below {W0 w w' : World} {gt : Nat} {cur : Array Value} {A8 A9 : Option Addr} {k8 k9 : Nat} {top : List En} {levels : List (List En)} {keep time : Int} {times : List Int} {k : Nat} (h : TreeK W0 w gt cur A8 A9 k8 k9 top levels keep time times k) (hb : Below w.heap.size w w') : TreeK W0 w' gt cur A8 A9 k8 k9 top levels keep time times k :=
  ⟨(hb.block gt (Array.getElem?_eq_some_iff.1 h.row).1).trans h.row, h.size, h.a0, h.a19, h.a20, h.a21, rowBelow h.top hb, rowBelow h.times hb, fun j hj hk => by
    obtain ⟨A, B, c, d, l⟩ := h.lv j hj hk
    exact ⟨A, B, c, d, l.c0, l.c1, l.c2, l.c3, l.c4, l.c5, rowBelow l.run hb, l.rests.below hb⟩, h.new, h.bel.trans (hb.mono h.bel.size)⟩
/-- a level more -/
theorem TreeK.fill {W0 w w' : World} {gt : Nat} {cur : Array Value} {A8 A9 : Option Addr} {k8 k9 : Nat} {top : List En} {levels : List (List En)} {keep time : Int} {times : List Int} {k : Nat} (h : TreeK W0 w gt cur A8 A9 k8 k9 top levels keep time times k) (hk3 : k < 3) {r : List En} (hl : levels[k]? = some r) {A B : Option Addr} {c d : Nat}
    (hrun : OwnE w W0.heap.size (.slice A r.length c) r)
    (hf : Filled w gt k cur (.slice A r.length c) (svL (keysL r) keep) (svM (keysL r) keep) (svF (keysL r) keep) (svR (keysL r) keep) (svK (keysL r) keep) w' (.slice B (svR (keysL r) keep).length d)) :
    ∃ cur', TreeK W0 w' gt cur' A8 A9 k8 k9 top levels keep time times (k + 1) ∧ cur' = set6 cur k (.slice A r.length c) (.string (svL (keysL r) keep)) (.string (svM (keysL r) keep)) (.string (svF (keysL r) keep)) (.slice B (svR (keysL r) keep).length d) (.int .i64 (svK (keysL r) keep)) := by
  have hsz := h.size
  obtain ⟨b0, b1, b2, b3, b4, b5⟩ := set6_at (cur := cur) (n := k) (v0 := .slice A r.length c) (v1 := .string (svL (keysL r) keep)) (v2 := .string (svM (keysL r) keep)) (v3 := .string (svF (keysL r) keep)) (v4 := .slice B (svR (keysL r) keep).length d) (v5 := .int .i64 (svK (keysL r) keep)) (by omega)
  refine ⟨_, ⟨hf.row, by rw [set6_size]; exact hsz, ?_, ?_, ?_, ?_, row_keepBox h.top h.row ent_ne hf.grown, row_keepBox h.times h.row int_ne hf.grown, fun j hj hjk => ?_, h.new, h.bel.grown hf.grown h.bel.size (fun q hq => by injection hq with hq; subst hq; exact h.new)⟩, rfl⟩
  · rw [set6_other (by omega)]; exact h.a0
  · rw [set6_other (by omega)]; exact h.a19
  · rw [set6_other (by omega)]; exact h.a20
  · rw [set6_other (by omega)]; exact h.a21
  · by_cases e : j = k
    · subst e
      have hr : levels[j] = r := by rw [List.getElem?_eq_getElem hj] at hl; injection hl
      rw [hr]
      exact ⟨A, B, c, d, b0, b1, b2, b3, b4, b5, row_keepBox hrun h.row ent_ne hf.grown, hf.own.base (by exact h.bel.size)⟩
    · obtain ⟨A', B', c', d', l⟩ := h.lv j hj (by omega)
      refine ⟨A', B', c', d', ?_, ?_, ?_, ?_, ?_, ?_, row_keepBox l.run h.row ent_ne hf.grown, row_keepBox l.rests h.row str_ne hf.grown⟩
      · rw [set6_other (by omega)]; exact l.c0
      · rw [set6_other (by omega)]; exact l.c1
      · rw [set6_other (by omega)]; exact l.c2
      · rw [set6_other (by omega)]; exact l.c3
      · rw [set6_other (by omega)]; exact l.c4
      · rw [set6_other (by omega)]; exact l.c5

end Go.Proofs.YtfhpkcamigkmdaaGreatDoor.W
namespace Go.Proofs.YtfhpkcamigkmdaaGreatDoor.W
open Go.RowKit K R

def sfOf (r : List En) (keep : Int) : Sf := ⟨svL (keysL r) keep, svM (keysL r) keep, svF (keysL r) keep, svR (keysL r) keep, svK (keysL r) keep⟩
theorem arr22 {cur cs : Array Value} (h : cur.size = 22) (h2 : cs.size = 22) (hc : ∀ i, i < 22 → cur[i]? = cs[i]?) : cur = cs :=
  Array.ext (by omega) fun i h3 h4 => by
    have := hc i (by omega)
    rw [Array.getElem?_eq_getElem h3, Array.getElem?_eq_getElem h4] at this
    injection this
theorem TreeK.tree {W0 w : World} {gt : Nat} {cur : Array Value} {A8 A9 : Option Addr} {k8 k9 : Nat} {top l0 l1 l2 : List En} {keep time : Int} {times : List Int} (h : TreeK W0 w gt cur A8 A9 k8 k9 top [l0, l1, l2] keep time times 3) :
    ∃ A1 A2 A3 B0 B1 B2 c1 c2 c3 d0 d1 d2, TreeM w gt A8 A1 A2 A3 B0 B1 B2 A9 k8 c1 c2 c3 d0 d1 d2 k9 ⟨top, l0, l1, l2, sfOf l0 keep, sfOf l1 keep, sfOf l2 keep, keep, time, times⟩ := by
  obtain ⟨A1, B0, c1, d0, m0⟩ := h.lv 0 (by simp) (by omega)
  obtain ⟨A2, B1, c2, d1, m1⟩ := h.lv 1 (by simp) (by omega)
  obtain ⟨A3, B2, c3, d2, m2⟩ := h.lv 2 (by simp) (by omega)
  refine ⟨A1, A2, A3, B0, B1, B2, c1, c2, c3, d0, d1, d2, ?_⟩
  have p8 := ownE_parts h.top
  have p1 := ownE_parts m0.run
  have p2 := ownE_parts m1.run
  have p3 := ownE_parts m2.run
  obtain ⟨_, _, hv8, a8, b8, e8⟩ := p8
  obtain ⟨_, _, hv1, a1, b1, e1⟩ := p1
  obtain ⟨_, _, hv2, a2, b2, e2⟩ := p2
  obtain ⟨_, _, hv3, a3, b3, e3⟩ := p3
  injection hv8 with x1 _ x2
  subst x1 x2
  injection hv1 with x1 _ x2
  subst x1 x2
  injection hv2 with x1 _ x2
  subst x1 x2
  injection hv3 with x1 _ x2
  subst x1 x2
  refine ⟨?_, e8, e1, e2, e3, ?_, ⟨a8, b8⟩, ⟨a1, b1⟩, ⟨a2, b2⟩, ⟨a3, b3⟩⟩
  · rw [h.row]
    congr 2
    refine arr22 h.size rfl fun i hi => ?_
    rcases (by omega : i = 0 ∨ i = 1 ∨ i = 2 ∨ i = 3 ∨ i = 4 ∨ i = 5 ∨ i = 6 ∨ i = 7 ∨ i = 8 ∨ i = 9 ∨ i = 10 ∨ i = 11 ∨ i = 12 ∨ i = 13 ∨ i = 14 ∨ i = 15 ∨ i = 16 ∨ i = 17 ∨ i = 18 ∨ i = 19 ∨ i = 20 ∨ i = 21) with rfl | rfl | rfl | rfl | rfl | rfl | rfl | rfl | rfl | rfl | rfl | rfl | rfl | rfl | rfl | rfl | rfl | rfl | rfl | rfl | rfl | rfl
    · exact h.a0
    · exact m0.c0
    · exact m0.c1
    · exact m0.c2
    · exact m0.c3
    · exact m0.c4
    · exact m0.c5
    · exact m1.c0
    · exact m1.c1
    · exact m1.c2
    · exact m1.c3
    · exact m1.c4
    · exact m1.c5
    · exact m2.c0
    · exact m2.c1
    · exact m2.c2
    · exact m2.c3
    · exact m2.c4
    · exact m2.c5
    · exact h.a19
    · exact h.a20
    · exact h.a21
  · rcases h.times.2 with ⟨hv, h0⟩ | ⟨gg, cap, cc, hv, hb, hg, hc, hm, hs, ht⟩
    · have : times = [] := List.eq_nil_of_length_eq_zero h0
      subst this
      exact ⟨rfl, fun i hi => absurd hi (Nat.not_lt_zero _)⟩
    · injection hv with x1 _ x2
      subst x1 x2
      exact OwnN.nums h.times rfl

end Go.Proofs.YtfhpkcamigkmdaaGreatDoor.W
