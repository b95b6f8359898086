/-
  Contracts of the exact laws' helpers for a filter that came in: measuring and copying it. Each at every filter that can be read.
-/
import Derived.Test.YtakadkhgcjndmaaJ3
import Derived.Test.YtakadkhgcjndmaaJ5
namespace Go.Proofs.Ytakadkhgcjndmaa.W
open Go.RowKit K

/-- what is measured: what is left of 2^20, or -1; if something is left all lengths are at most that -/
def SizedSv (L M_ F : ByteArray) (l : List ByteArray) (w : World) (e : Ending) (w' : World) : Prop :=
  ∃ x : Int, e = .returned (.int .i64 x) ∧ -1 ≤ x ∧ x ≤ 1048576 ∧ (0 ≤ x → (L.size ≤ 1048576 ∧ M_.size ≤ 1048576 ∧ F.size ≤ 1048576) ∧ l.length ≤ 1048576 ∧ ∀ s ∈ l, s.size ≤ 1048576) ∧ Below w.heap.size w w'

set_option maxHeartbeats 1000000 in
theorem sizeSvL (w : World) (n c : Nat) (A : Option Addr) (L M_ F : ByteArray) (keep : Int) (l : List ByteArray) (hL : L.size ≤ maxLen) (hM : M_.size ≤ maxLen) (hF : F.size ≤ maxLen) (hr : Strs w w.heap.size A n l) (hn : n ≤ maxLen) (hf : Fit l) :
    Calls Try.prog 65 #[.agg #[.string L, .string M_, .string F, .slice A n c, .int .i64 keep], .int .i64 1048576] w (SizedSv L M_ F l w) := by
  unfold maxLen at hL hM hF
  obtain ⟨W0, hW0⟩ : ∃ W0, W0 = w.alloc (.cells #[.string L, .string M_, .string F, .slice A n c, .int .i64 keep] 57) := ⟨_, rfl⟩
  have hbw : Below w.heap.size w W0 := by rw [hW0]; exact (Below.refl _ _).alloc (Nat.le_refl _) _
  have HB := Lib.hid hbw
  have HSZ := Lib.hid (show ∀ x : Nat, x ≤ 1048576 → Calls Try.prog 58 #[.slice A n c, .int .i64 (x : Nat)] W0 (Sized x l W0) from fun x hx => sizeS W0 w.heap.size n c x A l (hr.below hbw (Nat.le_refl _)) hn hf (by omega))
  rw [hW0] at HSZ HB
  clear hr hf hbw hW0
  by_cases g1 : L.size ≤ 1048576
  · by_cases g2 : L.size + M_.size ≤ 1048576
    · by_cases g3 : L.size + M_.size + F.size ≤ 1048576
      · obtain ⟨x, hx⟩ : ∃ x : Nat, x = 1048576 - L.size - M_.size - F.size := ⟨_, rfl⟩
        have hx1 : (1048576 : Int) - L.size - M_.size - F.size = x := by omega
        have hx2 : x ≤ 1048576 := by omega
        have HZ := Lib.hid (HSZ.out x hx2)
        clear hx
        go_enter Try.func65, Try.ntmps65
        go_wp2_with fail
        go_at_call 58
        refine HZ.out.mono ?_
        rintro e w1 ⟨y, rfl, hy0, hy1, hy2, rfl⟩
        by_cases hneg : y < 0
        · clear hy2
          go_wp2
          go_ret
          exact ⟨-1, rfl, by omega, by omega, fun h => by omega, HB.out⟩
        · have hy3 := Lib.hid (hy2 (by omega))
          clear hy2
          go_wp2
          go_ret
          exact ⟨y, rfl, by omega, by omega, fun _ => ⟨⟨by omega, by omega, by omega⟩, by have := hy3.out.1; omega, fun s hs => by have := hy3.out.2 s hs; omega⟩, HB.out⟩
      · go_enter Try.func65, Try.ntmps65
        go_wp2
        go_ret
        exact ⟨-1, rfl, by omega, by omega, fun h => by omega, HB.out⟩
    · go_enter Try.func65, Try.ntmps65
      go_wp2
      go_ret
      exact ⟨-1, rfl, by omega, by omega, fun h => by omega, HB.out⟩
  · go_enter Try.func65, Try.ntmps65
    go_wp2
    go_ret
    exact ⟨-1, rfl, by omega, by omega, fun h => by omega, HB.out⟩

/-- a copy of a filter: the same fields, the rests in memory of its own -/
def CopySv (L M_ F : ByteArray) (l : List ByteArray) (keep : Int) (w : World) (e : Ending) (w' : World) : Prop :=
  ∃ A c, e = .returned (.agg #[.string L, .string M_, .string F, .slice A l.length c, .int .i64 keep]) ∧ Own w' w.heap.size (.slice A l.length c) l ∧ Below w.heap.size w w'

theorem own_setFar {w : World} {base : Nat} {v : Value} {l : List ByteArray} (h : Own w base v l) (g o : Nat) (x : Value) (hg : g < base) : Own (w.setCell ⟨g, o, none⟩ x) base v l :=
  World.ownsRow.kept h (row := some g) (w' := w.setCell ⟨g, o, none⟩ x) ⟨rfl, rfl, rfl, by simp [World.setCell], fun k _ hk => heap_setCell_other _ _ _ _ (fun e => hk (by rw [e]))⟩ (by
    cases e : v.ownBlock with
    | none => exact .inl rfl
    | some k => exact .inr (fun y => by have := (World.ownsRow.lt h k e).1; injection y; omega))

set_option maxHeartbeats 1000000 in
theorem copySv (w : World) (n c : Nat) (A : Option Addr) (L M_ F : ByteArray) (keep : Int) (l : List ByteArray) (B : Nat) (hr : Strs w B A n l) (hB : B ≤ w.heap.size) (hn : n ≤ 1073741824) :
    Calls Try.prog 66 #[.agg #[.string L, .string M_, .string F, .slice A n c, .int .i64 keep]] w (CopySv L M_ F l keep w) := by
  have hln := hr.len
  subst hln
  obtain ⟨W0, hW0⟩ : ∃ W0, W0 = ((w.alloc (.cells #[.string L, .string M_, .string F, .slice A l.length c, .int .i64 keep] 57)).alloc (.cells #[.string ⟨#[]⟩, .string ⟨#[]⟩, .string ⟨#[]⟩, .slice none 0 0, .int .i64 0] 27)).alloc (.cells #[.string L, .string M_, .string F, .slice none 0 0, .int .i64 0] 27) := ⟨_, rfl⟩
  have hb0 : Below w.heap.size w W0 := by rw [hW0]; exact (((Below.refl _ _).alloc (Nat.le_refl _) _).alloc (by simp) _).alloc (by simp; omega) _
  have hs0 : W0.heap.size = w.heap.size + 1 + 1 + 1 := by rw [hW0]; simp
  have HC := Lib.hid (copyS W0 B l.length c A l (hr.below hb0 hB) (by omega) hn)
  have x0 : W0.heap[w.heap.size]? = some (.cells #[.string L, .string M_, .string F, .slice A l.length c, .int .i64 keep] 57 (0, 0)) := by rw [hW0, Below.heap_alloc _ _ _ (by simp; omega), Below.heap_alloc _ _ _ (by simp)]; exact heap_alloc_new _ _
  have x1 : W0.heap[w.heap.size + 1]? = some (.cells #[.string ⟨#[]⟩, .string ⟨#[]⟩, .string ⟨#[]⟩, .slice none 0 0, .int .i64 0] 27 (0, 0)) := by rw [hW0, Below.heap_alloc _ _ _ (by simp)]; have := heap_alloc_new (w.alloc (.cells #[.string L, .string M_, .string F, .slice A l.length c, .int .i64 keep] 57)) (.cells #[.string ⟨#[]⟩, .string ⟨#[]⟩, .string ⟨#[]⟩, .slice none 0 0, .int .i64 0] 27); simpa using this
  have x2 : W0.heap[w.heap.size + 1 + 1]? = some (.cells #[.string L, .string M_, .string F, .slice none 0 0, .int .i64 0] 27 (0, 0)) := by rw [hW0]; have := heap_alloc_new ((w.alloc (.cells #[.string L, .string M_, .string F, .slice A l.length c, .int .i64 keep] 57)).alloc (.cells #[.string ⟨#[]⟩, .string ⟨#[]⟩, .string ⟨#[]⟩, .slice none 0 0, .int .i64 0] 27)) (.cells #[.string L, .string M_, .string F, .slice none 0 0, .int .i64 0] 27); simpa using this
  rw [hW0] at HC
  have HB0 := Lib.hid hb0
  have HX0 := Lib.hid x0
  have HX1 := Lib.hid x1
  have HX2 := Lib.hid x2
  have HW0 := Lib.hid hW0
  clear hr hb0 x0 x1 x2 hW0
  go_enter Try.func66, Try.ntmps66
  go_wp2_with fail
  go_at_call 59
  refine HC.out.mono ?_
  rw [← HW0.out]
  rintro e w1 ⟨v1, rfl, o1, b1⟩
  obtain ⟨A1, c1, hv1, hc1, hm1, -⟩ := o1.parts
  subst hv1
  have y0 : w1.heap[w.heap.size]? = some (.cells #[.string L, .string M_, .string F, .slice A l.length c, .int .i64 keep] 57 (0, 0)) := by rw [b1.block _ (by omega)]; exact HX0.out
  have y1 : w1.heap[w.heap.size + 1]? = some (.cells #[.string ⟨#[]⟩, .string ⟨#[]⟩, .string ⟨#[]⟩, .slice none 0 0, .int .i64 0] 27 (0, 0)) := by rw [b1.block _ (by omega)]; exact HX1.out
  have y2 : w1.heap[w.heap.size + 1 + 1]? = some (.cells #[.string L, .string M_, .string F, .slice none 0 0, .int .i64 0] 27 (0, 0)) := by rw [b1.block _ (by omega)]; exact HX2.out
  have c4 : w1.cell? ⟨w.heap.size, 4, none⟩ = some (.int .i64 keep) := by rw [cell_of_row _ _ _ _ _ _ y0]; rfl
  have p0 : w1.cell? ⟨w.heap.size + 1, 0, none⟩ = some (.string ⟨#[]⟩) := by rw [cell_of_row _ _ _ _ _ _ y1]; rfl
  have pz0 : w1.frozen? ⟨w.heap.size + 1, 0, none⟩ = false := by rw [frozen_of_row _ _ _ _ _ y1]
  have p1 : w1.cell? ⟨w.heap.size + 1, 1, none⟩ = some (.string ⟨#[]⟩) := by rw [cell_of_row _ _ _ _ _ _ y1]; rfl
  have pz1 : w1.frozen? ⟨w.heap.size + 1, 1, none⟩ = false := by rw [frozen_of_row _ _ _ _ _ y1]
  have p2 : w1.cell? ⟨w.heap.size + 1, 2, none⟩ = some (.string ⟨#[]⟩) := by rw [cell_of_row _ _ _ _ _ _ y1]; rfl
  have pz2 : w1.frozen? ⟨w.heap.size + 1, 2, none⟩ = false := by rw [frozen_of_row _ _ _ _ _ y1]
  have p3 : w1.cell? ⟨w.heap.size + 1, 3, none⟩ = some (.slice none 0 0) := by rw [cell_of_row _ _ _ _ _ _ y1]; rfl
  have pz3 : w1.frozen? ⟨w.heap.size + 1, 3, none⟩ = false := by rw [frozen_of_row _ _ _ _ _ y1]
  have p4 : w1.cell? ⟨w.heap.size + 1, 4, none⟩ = some (.int .i64 0) := by rw [cell_of_row _ _ _ _ _ _ y1]; rfl
  have pz4 : w1.frozen? ⟨w.heap.size + 1, 4, none⟩ = false := by rw [frozen_of_row _ _ _ _ _ y1]
  have q0 : w1.cell? ⟨w.heap.size + 1 + 1, 0, none⟩ = some (.string L) := by rw [cell_of_row _ _ _ _ _ _ y2]; rfl
  have qz0 : w1.frozen? ⟨w.heap.size + 1 + 1, 0, none⟩ = false := by rw [frozen_of_row _ _ _ _ _ y2]
  have q1 : w1.cell? ⟨w.heap.size + 1 + 1, 1, none⟩ = some (.string M_) := by rw [cell_of_row _ _ _ _ _ _ y2]; rfl
  have qz1 : w1.frozen? ⟨w.heap.size + 1 + 1, 1, none⟩ = false := by rw [frozen_of_row _ _ _ _ _ y2]
  have q2 : w1.cell? ⟨w.heap.size + 1 + 1, 2, none⟩ = some (.string F) := by rw [cell_of_row _ _ _ _ _ _ y2]; rfl
  have qz2 : w1.frozen? ⟨w.heap.size + 1 + 1, 2, none⟩ = false := by rw [frozen_of_row _ _ _ _ _ y2]
  have q3 : w1.cell? ⟨w.heap.size + 1 + 1, 3, none⟩ = some (.slice none 0 0) := by rw [cell_of_row _ _ _ _ _ _ y2]; rfl
  have qz3 : w1.frozen? ⟨w.heap.size + 1 + 1, 3, none⟩ = false := by rw [frozen_of_row _ _ _ _ _ y2]
  have q4 : w1.cell? ⟨w.heap.size + 1 + 1, 4, none⟩ = some (.int .i64 0) := by rw [cell_of_row _ _ _ _ _ _ y2]; rfl
  have qz4 : w1.frozen? ⟨w.heap.size + 1 + 1, 4, none⟩ = false := by rw [frozen_of_row _ _ _ _ _ y2]
  have HY1 := Lib.hid y1
  have HO1 := Lib.hid o1
  have HB1 := Lib.hid b1
  clear y0 y1 y2 o1 b1
  go_wp2
  refine bodyPost_ret (v := .agg #[.string L, .string M_, .string F, .slice A1 l.length c1, .int .i64 keep]) ?_ rfl ⟨A1, c1, rfl, ?_, ?_⟩
  · exact results_cell_row rfl _ _ (w.heap.size + 1) 27 _ (0, 0) _ rfl (box_five (by rw [heap_setCell_other _ _ _ _ (by simp), heap_setCell_other _ _ _ _ (by simp)]; exact HY1.out) _ _ _ _ _) Try.underlying27 rfl sieve_size
  · exact (own_setFar (own_setFar (own_setFar (own_setFar (own_setFar (own_setFar (own_setFar HO1.out _ _ _ (by omega)) _ _ _ (by omega)) _ _ _ (by omega)) _ _ _ (by omega)) _ _ _ (by omega)) _ _ _ (by omega)) _ _ _ (by omega)).base (by omega)
  · have hb := HB0.out.trans (HB1.out.mono HB0.out.size)
    exact ((((((hb.setCell (by show w.heap.size ≤ w.heap.size + 1 + 1; omega) _).setCell (by show w.heap.size ≤ w.heap.size + 1 + 1; omega) _).setCell (by show w.heap.size ≤ w.heap.size + 1; omega) _).setCell (by show w.heap.size ≤ w.heap.size + 1; omega) _).setCell (by show w.heap.size ≤ w.heap.size + 1; omega) _).setCell (by show w.heap.size ≤ w.heap.size + 1; omega) _).setCell (by show w.heap.size ≤ w.heap.size + 1; omega) _

end Go.Proofs.Ytakadkhgcjndmaa.W
