/-
  The order of two entries as the program reckons it.
-/
import Derived.Test.YtfhpkcamigkmdaaDoorZAF
namespace Go.Proofs.YtfhpkcamigkmdaaDoor.W
open Go.RowKit K R

set_option maxHeartbeats 4000000 in
set_option maxRecDepth 100000 in
theorem orderI (ak bk : ByteArray) (av bv : Int) (ag bg : Bool) (at' bt : Int) (w : World) :
    Calls Tryd.prog 78 #[.agg #[.string ak, .int .i64 av, .bool ag, .int .i64 at'], .agg #[.string bk, .int .i64 bv, .bool bg, .int .i64 bt]] w fun e w' => e = .returned (.int .i64 (ordV ⟨ak, av, ag, at'⟩ ⟨bk, bv, bg, bt⟩)) ∧ Below w.heap.size w w' := by
  obtain ⟨W, hW⟩ : ∃ W, W = (w.alloc (.cells #[.string ak, .int .i64 av, .bool ag, .int .i64 at'] 83)).alloc (.cells #[.string bk, .int .i64 bv, .bool bg, .int .i64 bt] 83) := ⟨_, rfl⟩
  have HB := Lib.hid (show Below w.heap.size w W by rw [hW]; exact two_below _ _ _)
  have HX := Lib.hid (show ∀ W', Below W.heap.size W W' → W'.heap[w.heap.size]? = some (.cells #[.string ak, .int .i64 av, .bool ag, .int .i64 at'] 83 (0, 0)) ∧ W'.heap[w.heap.size + 1]? = some (.cells #[.string bk, .int .i64 bv, .bool bg, .int .i64 bt] 83 (0, 0)) from fun W' h' => by
    have hs : W.heap.size = w.heap.size + 2 := by rw [hW]; simp
    refine ⟨?_, ?_⟩
    · rw [h'.block _ (by omega), hW, Below.heap_alloc _ _ _ (by simp)]; exact heap_alloc_new _ _
    · have := heap_alloc_new (w.alloc (.cells #[.string ak, .int .i64 av, .bool ag, .int .i64 at'] 83)) (.cells #[.string bk, .int .i64 bv, .bool bg, .int .i64 bt] 83)
      rw [World.size_alloc] at this
      rw [h'.block _ (by omega), hW]; exact this)
  obtain ⟨c1, hc1⟩ : ∃ x, x = cmpS ak bk := ⟨_, rfl⟩
  obtain ⟨c2, hc2⟩ : ∃ x, x = cmpN bt at' := ⟨_, rfl⟩
  have HK := Lib.hid (show ∀ W : World, Calls Tryd.prog 94 #[.agg #[.string ak, .int .i64 av, .bool ag, .int .i64 at'], .agg #[.string bk, .int .i64 bv, .bool bg, .int .i64 bt]] W fun e w' => e = .returned (.int .i64 c1) ∧ Below W.heap.size W w' from fun W => by rw [hc1]; exact byKeyI ak bk av bv ag bg at' bt W)
  have HA := Lib.hid (show ∀ W : World, Calls Tryd.prog 95 #[.agg #[.string ak, .int .i64 av, .bool ag, .int .i64 at'], .agg #[.string bk, .int .i64 bv, .bool bg, .int .i64 bt]] W fun e w' => e = .returned (.int .i64 c2) ∧ Below W.heap.size W w' from fun W => by rw [hc2]; exact byAgeI ak bk av bv ag bg at' bt W)
  have HO := Lib.hid (show ordV ⟨ak, av, ag, at'⟩ ⟨bk, bv, bg, bt⟩ = if c1 = 0 then c2 else c1 by unfold ordV; rw [hc1, hc2])
  have HW := Lib.hid hW
  have i0 : ∀ w, (Instr.index 138 (.agg #[.func (.func 94) #[] #[], .func (.func 95) #[] #[]]) (.int .i64 0)).run Tryd.prog w = .ok (.func (.func 94) #[] #[]) w := fun _ => by kernel_rfl
  have i1 : ∀ w, (Instr.index 138 (.agg #[.func (.func 94) #[] #[], .func (.func 95) #[] #[]]) (.int .i64 1)).run Tryd.prog w = .ok (.func (.func 95) #[] #[]) w := fun _ => by kernel_rfl
  clear hW hc1 hc2
  go_enter Tryd.func78, Tryd.ntmps78
  go_wp2_with fail
  go_loopw [9] (fun i wr => (i = .int .i64 0 ∨ (i = .int .i64 1 ∧ c1 = 0) ∨ (i = .int .i64 2 ∧ c1 = 0 ∧ c2 = 0)) ∧ Below W.heap.size W wr) (fun i _ => 2 - (intOf i).toNat)
  case atStart => exact ⟨.inl rfl, by rw [HW.out]; exact Below.refl _ _⟩
  case round =>
    obtain ⟨hn, hbl⟩ := hrel
    have HBL := Lib.hid hbl
    clear hbl
    rcases hn with rfl | ⟨rfl, h1⟩ | ⟨rfl, h1, h2⟩
    · have p0 : wr.cell? ⟨w.heap.size, 0, none⟩ = some (.string ak) := by rw [cell_of_row _ _ _ _ _ _ (HX.out wr HBL.out).1]; rfl
      have p1 : wr.cell? ⟨w.heap.size, 1, none⟩ = some (.int .i64 av) := by rw [cell_of_row _ _ _ _ _ _ (HX.out wr HBL.out).1]; rfl
      have p2 : wr.cell? ⟨w.heap.size, 2, none⟩ = some (.bool ag) := by rw [cell_of_row _ _ _ _ _ _ (HX.out wr HBL.out).1]; rfl
      have p3 : wr.cell? ⟨w.heap.size, 3, none⟩ = some (.int .i64 at') := by rw [cell_of_row _ _ _ _ _ _ (HX.out wr HBL.out).1]; rfl
      have q0 : wr.cell? ⟨w.heap.size + 1, 0, none⟩ = some (.string bk) := by rw [cell_of_row _ _ _ _ _ _ (HX.out wr HBL.out).2]; rfl
      have q1 : wr.cell? ⟨w.heap.size + 1, 1, none⟩ = some (.int .i64 bv) := by rw [cell_of_row _ _ _ _ _ _ (HX.out wr HBL.out).2]; rfl
      have q2 : wr.cell? ⟨w.heap.size + 1, 2, none⟩ = some (.bool bg) := by rw [cell_of_row _ _ _ _ _ _ (HX.out wr HBL.out).2]; rfl
      have q3 : wr.cell? ⟨w.heap.size + 1, 3, none⟩ = some (.int .i64 bt) := by rw [cell_of_row _ _ _ _ _ _ (HX.out wr HBL.out).2]; rfl
      by_cases hc : c1 = 0
      · have HC := Lib.hid hc
        go_wp2_with (go_at_call 94; refine Calls.mono (HK.out _) ?_; rintro e w5 ⟨rfl, hb5⟩; have HB5 := Lib.hid (HBL.out.trans (hb5.mono HBL.out.size)); clear hb5)
        go_roundw
        case rel => exact ⟨.inr (.inl ⟨rfl, HC.out⟩), HB5.out⟩
        case measure => simp [intOf]
      · have HC := Lib.hid hc
        go_wp2_with (go_at_call 94; refine Calls.mono (HK.out _) ?_; rintro e w5 ⟨rfl, hb5⟩; have HB5 := Lib.hid (HBL.out.trans (hb5.mono HBL.out.size)); clear hb5)
        go_ret
        exact ⟨by rw [HO.out]; rw [if_neg HC.out]; rfl, HB.out.trans (HB5.out.mono HB.out.size)⟩
    · have H1 := Lib.hid h1
      clear h1
      have p0 : wr.cell? ⟨w.heap.size, 0, none⟩ = some (.string ak) := by rw [cell_of_row _ _ _ _ _ _ (HX.out wr HBL.out).1]; rfl
      have p1 : wr.cell? ⟨w.heap.size, 1, none⟩ = some (.int .i64 av) := by rw [cell_of_row _ _ _ _ _ _ (HX.out wr HBL.out).1]; rfl
      have p2 : wr.cell? ⟨w.heap.size, 2, none⟩ = some (.bool ag) := by rw [cell_of_row _ _ _ _ _ _ (HX.out wr HBL.out).1]; rfl
      have p3 : wr.cell? ⟨w.heap.size, 3, none⟩ = some (.int .i64 at') := by rw [cell_of_row _ _ _ _ _ _ (HX.out wr HBL.out).1]; rfl
      have q0 : wr.cell? ⟨w.heap.size + 1, 0, none⟩ = some (.string bk) := by rw [cell_of_row _ _ _ _ _ _ (HX.out wr HBL.out).2]; rfl
      have q1 : wr.cell? ⟨w.heap.size + 1, 1, none⟩ = some (.int .i64 bv) := by rw [cell_of_row _ _ _ _ _ _ (HX.out wr HBL.out).2]; rfl
      have q2 : wr.cell? ⟨w.heap.size + 1, 2, none⟩ = some (.bool bg) := by rw [cell_of_row _ _ _ _ _ _ (HX.out wr HBL.out).2]; rfl
      have q3 : wr.cell? ⟨w.heap.size + 1, 3, none⟩ = some (.int .i64 bt) := by rw [cell_of_row _ _ _ _ _ _ (HX.out wr HBL.out).2]; rfl
      by_cases hc : c2 = 0
      · have HC := Lib.hid hc
        go_wp2_with (go_at_call 95; refine Calls.mono (HA.out _) ?_; rintro e w5 ⟨rfl, hb5⟩; have HB5 := Lib.hid (HBL.out.trans (hb5.mono HBL.out.size)); clear hb5)
        go_roundw
        case rel => exact ⟨.inr (.inr ⟨rfl, H1.out, HC.out⟩), HB5.out⟩
        case measure => simp [intOf]
      · have HC := Lib.hid hc
        go_wp2_with (go_at_call 95; refine Calls.mono (HA.out _) ?_; rintro e w5 ⟨rfl, hb5⟩; have HB5 := Lib.hid (HBL.out.trans (hb5.mono HBL.out.size)); clear hb5)
        go_ret
        exact ⟨by rw [HO.out]; rw [if_pos H1.out]; rfl, HB.out.trans (HB5.out.mono HB.out.size)⟩
    · have H1 := Lib.hid h1
      have H2 := Lib.hid h2
      clear h1 h2
      go_wp2
      go_ret
      exact ⟨by rw [HO.out, if_pos H1.out, H2.out]; rfl, HB.out.trans (HBL.out.mono HB.out.size)⟩

end Go.Proofs.YtfhpkcamigkmdaaDoor.W
