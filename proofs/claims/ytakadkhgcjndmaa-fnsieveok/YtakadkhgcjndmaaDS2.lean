/-
  The contract of the function that draws what a filter is made of: texts and a number.
-/
import Derived.Test.YtakadkhgcjndmaaDS1
namespace Go.Proofs.Ytakadkhgcjndmaa.W
open Go.RowKit K

def litI (l : List Int) : List Value := l.map (Value.int .i64)
theorem getI (l : List Int) (lo hi : Int) (hl : ∀ z ∈ l, lo ≤ z ∧ z ≤ hi) (a : Nat) (h : a < l.length) : ∃ z : Int, lo ≤ z ∧ z ≤ hi ∧ (∀ h', (litI l)[a]'h' = .int .i64 z) ∧ (litI l)[a]? = some (.int .i64 z) := by
  have h4 : (litI l)[a]? = some (.int .i64 l[a]) := by unfold litI; rw [List.getElem?_map, List.getElem?_eq_getElem h]; rfl
  refine ⟨l[a], (hl _ (List.getElem_mem h)).1, (hl _ (List.getElem_mem h)).2, fun h' => ?_, h4⟩
  rw [List.getElem?_eq_getElem h'] at h4
  injection h4
theorem getI8 (a : Nat) (h : a < 8) : ∃ z : Int, -1 ≤ z ∧ z ≤ 6 ∧ (∀ h', ([.int .i64 0, .int .i64 0, .int .i64 1, .int .i64 1, .int .i64 2, .int .i64 5, .int .i64 6, .int .i64 (-1)] : List Value)[a]'h' = .int .i64 z) ∧ (#[.int .i64 0, .int .i64 0, .int .i64 1, .int .i64 1, .int .i64 2, .int .i64 5, .int .i64 6, .int .i64 (-1)] : Array Value)[a]? = some (.int .i64 z) := by
  obtain ⟨z, h1, h2, h3, h4⟩ := getI [0, 0, 1, 1, 2, 5, 6, -1] (-1) 6 (by decide) a h
  exact ⟨z, h1, h2, h3, by rw [← Array.getElem?_toList]; exact h4⟩
theorem getI6 (a : Nat) (h : a < 6) : ∃ z : Int, -1 ≤ z ∧ z ≤ 6 ∧ (∀ h', ([.int .i64 0, .int .i64 0, .int .i64 1, .int .i64 1, .int .i64 2, .int .i64 5] : List Value)[a]'h' = .int .i64 z) ∧ (#[.int .i64 0, .int .i64 0, .int .i64 1, .int .i64 1, .int .i64 2, .int .i64 5] : Array Value)[a]? = some (.int .i64 z) := by
  obtain ⟨z, h1, h2, h3, h4⟩ := getI [0, 0, 1, 1, 2, 5] (-1) 6 (by decide) a h
  exact ⟨z, h1, h2, h3, by rw [← Array.getElem?_toList]; exact h4⟩
theorem getI3 (a : Nat) (h : a < 3) : ∃ z : Int, -1 ≤ z ∧ z ≤ 6 ∧ (∀ h', ([.int .i64 (-1), .int .i64 6, .int .i64 3] : List Value)[a]'h' = .int .i64 z) ∧ (#[.int .i64 (-1), .int .i64 6, .int .i64 3] : Array Value)[a]? = some (.int .i64 z) := by
  obtain ⟨z, h1, h2, h3, h4⟩ := getI [-1, 6, 3] (-1) 6 (by decide) a h
  exact ⟨z, h1, h2, h3, by rw [← Array.getElem?_toList]; exact h4⟩
theorem Rd.drew {w : World} {g p n c : Nat} {A : Option Addr} (h : Rd w g p A n c) : Rd w.drew g p A n c := ⟨h.blk, h.len, h.bytes⟩
theorem undrew {w w' : World} {r : Option Nat} (h : w.drew.grownBy w' r) : w.grownBy w' r := ⟨h.os, h.tape, h.output, h.size, h.block⟩
/-- a literal is still there behind a draw -/
theorem lit_at {w w' : World} {g : Nat} {cs : Array Value} {t : TypeId} {X : Nat} {v : Value} (hg : (w.alloc (.cells cs t)).grownBy w' (some g)) (hlt : g < w.heap.size) (h : cs[X]? = some v) : w'.cell? ⟨w.heap.size, X, none⟩ = some v := by
  rw [World.cell?_of_block (w := w.alloc (.cells cs t)) (a := ⟨w.heap.size, X, none⟩) (hg.block w.heap.size (by simp) (fun e => by injection e; omega)), cell_of_row _ _ _ _ _ _ (heap_alloc_new w _)]
  exact h

theorem own_far {w w' : World} {base g : Nat} {v : Value} {l : List ByteArray} (h : Own w base v l) (hg : w.grownBy w' (some g)) (hne : ∀ k, v.ownBlock = some k → k ≠ g) : Own w' base v l :=
  World.ownsRow.kept h hg (by
    cases e : v.ownBlock with
    | none => exact .inl rfl
    | some k => exact .inr (fun x => by have := hne k e; injection x; omega))

/-- texts and a number are drawn -/
def OfL (w : World) (e : Ending) (w' : World) : Prop :=
  ∃ (A : Option Addr) (c : Nat) (l : List ByteArray) (keep : Int), l.length ≤ 100 ∧ Short l ∧ -1 ≤ keep ∧ keep ≤ 6 ∧ e = .returned (.tuple #[.slice A l.length c, .int .i64 keep]) ∧ Own w' w.heap.size (.slice A l.length c) l ∧ Below w.heap.size w w'

set_option maxHeartbeats 2000000 in
theorem drawOf (w : World) (A : Option Addr) (n c : Nat) (hb : Bytes w w.heap.size A n) (hnc : n ≤ c) (hc : c ≤ maxLen) :
    Calls Try.prog 28 #[.slice A n c] w (OfL w) := by
  go_enter Try.func28, Try.ntmps28
  go_wp2_with fail
  go_at_call 68
  refine (openR w A n c hb hnc hc).mono ?_
  rintro e w1 ⟨A1, n1, c1, rfl, hr1, hb1⟩
  have HB1 := Lib.hid hb1
  have HR1 := Lib.hid hr1
  have hgl : w.heap.size < w1.heap.size := (Array.getElem?_eq_some_iff.1 hr1.blk).1
  clear hb hr1 hb1
  go_wp2_with fail
  go_at_call 69
  refine (keysD w1 w.heap.size 0 n1 c1 12 A1 HR1.out (by omega) (by omega)).mono ?_
  rintro e w2 ⟨v2, l2, p2, hl2, hsh2, hp2, rfl, ho2, hr2, hg2⟩
  have HB2 := Lib.hid (HB1.out.grown hg2 HB1.out.size (fun k e => by injection e; omega))
  have HO2 := Lib.hid ho2
  have HR2 := Lib.hid hr2
  have HSH2 := Lib.hid hsh2
  clear ho2 hr2 hg2 hsh2
  go_wp2_with fail
  go_at_call 70
  refine (pick w2 w.heap.size p2 n1 c1 A1 12 HR2.out (by omega) (by omega)).mono ?_
  rintro e w3 ⟨x, rfl, hx0, hx1, hr3, hg3⟩
  have HB3 := Lib.hid (HB2.out.grown hg3 HB2.out.size (fun k e => by injection e; omega))
  have HO3 := Lib.hid (HO2.out.grown hg3 hgl)
  have HR3 := Lib.hid hr3
  have hgl3 : w.heap.size < w3.heap.size := (Array.getElem?_eq_some_iff.1 hr3.blk).1
  clear hr3 hg3 hx1 HO2 HR2 HB2
  by_cases hx : x = 0
  · subst hx
    go_wp2_with fail
    go_at_call 71
    refine (messD w3 w.heap.size (p2 + 1) n1 c1 A1 HR3.out (by omega)).mono ?_
    rintro e w4 ⟨v4, l4, q4, hl4, hsh4, hq4, rfl, ho4, hr4, hg4⟩
    have HB4 := Lib.hid (HB3.out.grown hg4 HB3.out.size (fun k e => by injection e; omega))
    have HO4 := Lib.hid (ho4.base HB3.out.size)
    have HR4 := Lib.hid hr4
    have HSH4 := Lib.hid hsh4
    have hgl4 : w.heap.size < w4.heap.size := (Array.getElem?_eq_some_iff.1 hr4.blk).1
    have hfar : ∀ k, v4.ownBlock = some k → k ≠ w.heap.size := fun k hk => by have := (World.ownsRow.lt ho4 k hk).1; omega
    clear ho4 hr4 hg4 hsh4 HO3 HR3 HB3
    obtain ⟨V, cc, hv, _, _, _⟩ := HO4.out.parts
    subst hv
    have HFAR := Lib.hid hfar
    clear hfar
    go_wp2_with fail
    go_region_with (go_at_call 70; refine Calls.mono (pick _ w.heap.size q4 n1 c1 A1 8 (by first | exact HR4.out.drew | exact (HR4.out.alloc _).drew) (by omega) (by omega)) ?_; rintro e w5 ⟨x, rfl, hx0, hx1, hr5, hg5'⟩; have hg5 := undrew hg5'; clear hg5'; obtain ⟨X, rfl⟩ := Int.eq_ofNat_of_zero_le hx0; have hX : X < 8 := (by omega); obtain ⟨z, hz1, hz2, fz, fz2⟩ := getI8 X hX; have r1 : (0 : Int) ≤ (X : Int) := (by omega); have r2 : (X : Int) < 8 := (by omega); (try have hcl : w5.cell? ⟨w4.heap.size, X, none⟩ = some (.int .i64 z) := lit_at hg5 hgl4 fz2); have HB5 := Lib.hid (show Below w.heap.size w w5 by first | exact HB4.out.grown hg5 HB4.out.size (fun k e => by injection e; omega) | exact (HB4.out.alloc HB4.out.size _).grown hg5 (le_alloc HB4.out.size _) (fun k e => by injection e; omega)); have HO5 := Lib.hid (show Own w5 w.heap.size (.slice V l4.length cc) l4 by first | exact own_far HO4.out hg5 HFAR.out | exact own_far (HO4.out.alloc _) hg5 HFAR.out); clear hr5 hg5 hx0 hx1 fz2)
    all_goals
      go_wp2
      go_ret2
      exact ⟨V, cc, l4, z, by omega, HSH4.out, hz1, hz2, rfl, by first | exact HO5.out | exact HO5.out.alloc _, by first | exact HB5.out | exact HB5.out.alloc HB5.out.size _⟩
  · have hx' : (x == 0) = false := by rw [beq_eq_false_iff_ne]; exact hx
    have HO4 := Lib.hid (HO3.out.base HB1.out.size)
    have HFAR := Lib.hid (show ∀ k, v2.ownBlock = some k → k ≠ w.heap.size from fun k hk => by have := (World.ownsRow.lt HO3.out k hk).1; omega)
    obtain ⟨V, cc, hv, _, _, _⟩ := HO4.out.parts
    subst hv
    clear HO3
    go_wp2_with fail
    go_region_with (go_at_call 70; refine Calls.mono (pick _ w.heap.size (p2 + 1) n1 c1 A1 8 (by first | exact HR3.out.drew | exact (HR3.out.alloc _).drew) (by omega) (by omega)) ?_; rintro e w5 ⟨x, rfl, hx0, hx1, hr5, hg5'⟩; have hg5 := undrew hg5'; clear hg5'; obtain ⟨X, rfl⟩ := Int.eq_ofNat_of_zero_le hx0; have hX : X < 8 := (by omega); obtain ⟨z, hz1, hz2, fz, fz2⟩ := getI8 X hX; have r1 : (0 : Int) ≤ (X : Int) := (by omega); have r2 : (X : Int) < 8 := (by omega); (try have hcl : w5.cell? ⟨w3.heap.size, X, none⟩ = some (.int .i64 z) := lit_at hg5 hgl3 fz2); have HB5 := Lib.hid (show Below w.heap.size w w5 by first | exact HB3.out.grown hg5 HB3.out.size (fun k e => by injection e; omega) | exact (HB3.out.alloc HB3.out.size _).grown hg5 (le_alloc HB3.out.size _) (fun k e => by injection e; omega)); have HO5 := Lib.hid (show Own w5 w.heap.size (.slice V l2.length cc) l2 by first | exact own_far HO4.out hg5 HFAR.out | exact own_far (HO4.out.alloc _) hg5 HFAR.out); clear hr5 hg5 hx0 hx1 fz2)
    all_goals
      go_wp2
      go_ret2
      exact ⟨V, cc, l2, z, by omega, HSH2.out, hz1, hz2, rfl, by first | exact HO5.out | exact HO5.out.alloc _, by first | exact HB5.out | exact HB5.out.alloc HB5.out.size _⟩

end Go.Proofs.Ytakadkhgcjndmaa.W
