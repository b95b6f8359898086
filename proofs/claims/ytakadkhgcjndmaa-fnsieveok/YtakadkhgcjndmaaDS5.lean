/-
  The contracts of the functions that draw filters for the laws.
-/
import Derived.Test.YtakadkhgcjndmaaDS4
import Derived.Deep.RegionWith
namespace Go.Proofs.Ytakadkhgcjndmaa.W
open Go.RowKit K

/-- a filter in new memory -/
structure FltM (w w' : World) (L M_ F : ByteArray) (R : List ByteArray) (keep : Int) (A2 : Option Addr) (c2 : Nat) : Prop where
  szL : L.size ≤ 310
  szM : M_.size ≤ 310
  szF : F.size ≤ 310
  szR : R.length ≤ 310
  szS : ∀ s ∈ R, s.size ≤ 310
  k1 : -1 ≤ keep
  k2 : keep ≤ 6
  own : Own w' w.heap.size (.slice A2 R.length c2) R
  below : Below w.heap.size w w'
theorem bytes_up {w W : World} {A : Option Addr} {n : Nat} (h : Bytes w w.heap.size A n) (hb : Below w.heap.size w W) : Bytes W W.heap.size A n := fun i hi => by
  obtain ⟨b, off, z, h1, h2, h3, h4⟩ := h i hi
  exact ⟨b, off, z, h1, Nat.lt_of_lt_of_le h2 hb.size, h3, (hb.cell (p := ⟨b, off + i, none⟩) h2).trans h4⟩
theorem fltM {w w1 W : World} {z g p' n c : Nat} {A : Option Addr} {L M_ F : ByteArray} {R : List ByteArray} {keep : Int} {A2 : Option Addr} {c2 : Nat} {l : List ByteArray} {V : Option Addr} {cc B2 : Nat} (h : SvM z w1 W g p' n c A L M_ F R keep A2 c2 l V cc B2) (hz : z ≤ 310) (hg : w.heap.size ≤ g) (hb : Below w.heap.size w w1) : FltM w W L M_ F R keep A2 c2 :=
  ⟨Nat.le_trans h.szL hz, Nat.le_trans h.szM hz, Nat.le_trans h.szF hz, Nat.le_trans h.szR hz, fun s hs => Nat.le_trans (h.szS s hs) hz, h.k1, h.k2, h.own.base (Nat.le_trans hb.size h.bl), hb.grown h.grown hb.size (fun k e => by injection e; omega)⟩
theorem fltM_five {w W : World} {L M_ F : ByteArray} {R : List ByteArray} {keep : Int} {A2 : Option Addr} {c2 : Nat} (h : FltM w W L M_ F R keep A2 c2) {b : Nat} {y0 y1 y2 y3 y4 : Value} (hbox : W.heap[b]? = some (.cells #[y0, y1, y2, y3, y4] 27 (0, 0))) (hb : w.heap.size ≤ b) (x0 x1 x2 x3 x4 : Value) :
    FltM w (((((W.setCell ⟨b, 0, none⟩ x0).setCell ⟨b, 1, none⟩ x1).setCell ⟨b, 2, none⟩ x2).setCell ⟨b, 3, none⟩ x3).setCell ⟨b, 4, none⟩ x4) L M_ F R keep A2 c2 := by
  have hne := own_ne_box h.own hbox
  exact ⟨h.szL, h.szM, h.szF, h.szR, h.szS, h.k1, h.k2, own_setNe (own_setNe (own_setNe (own_setNe (own_setNe h.own _ _ _ hne) _ _ _ hne) _ _ _ hne) _ _ _ hne) _ _ _ hne,
    ((((h.below.setCell (p := ⟨b, 0, none⟩) hb x0).setCell (p := ⟨b, 1, none⟩) hb x1).setCell (p := ⟨b, 2, none⟩) hb x2).setCell (p := ⟨b, 3, none⟩) hb x3).setCell (p := ⟨b, 4, none⟩) hb x4⟩
theorem Rd.same {w W : World} {g p n c : Nat} {A : Option Addr} (h : Rd w g p A n c) (e : W.heap = w.heap) : Rd W g p A n c :=
  ⟨by rw [e]; exact h.blk, h.len, h.bytes.keep fun b o _ => World.cell?_of_block (w := w) (w' := W) (a := ⟨b, o, none⟩) (by rw [e])⟩
theorem own_same {w W : World} {base : Nat} {v : Value} {l : List ByteArray} (h : Own w base v l) (e : W.heap = w.heap) : Own W base v l := by
  rcases h with ⟨h1, h2⟩
  refine ⟨h1, ?_⟩
  rcases h2 with h2 | ⟨g, cap, cur, a1, a2, a3, a4⟩
  · exact .inl h2
  · exact .inr ⟨g, cap, cur, a1, a2, by rw [e]; exact a3, a4⟩
theorem grown_pre {w W w' : World} {r : Option Nat} (h : W.grownBy w' r) (e1 : W.heap = w.heap) (e2 : W.os = w.os) (e3 : W.tape = w.tape) (e4 : W.output = w.output) : w.grownBy w' r :=
  ⟨h.os.trans e2, h.tape.trans e3, h.output.trans e4, by rw [← e1]; exact h.size, fun k hk hn => by rw [← e1]; exact h.block k (by rw [e1]; exact hk) hn⟩
/-- a filter is drawn for a law -/
def FltD (w : World) (e : Ending) (w' : World) : Prop := ∃ (L M_ F : ByteArray) (R : List ByteArray) (keep : Int) (A2 : Option Addr) (c2 : Nat), e = .returned (.agg #[.string L, .string M_, .string F, .slice A2 R.length c2, .int .i64 keep]) ∧ FltM w w' L M_ F R keep A2 c2
/-- a filter and a key -/
def FltK (w : World) (e : Ending) (w' : World) : Prop := ∃ (L M_ F : ByteArray) (R : List ByteArray) (keep : Int) (A2 : Option Addr) (c2 : Nat) (k : ByteArray), e = .returned (.tuple #[.agg #[.string L, .string M_, .string F, .slice A2 R.length c2, .int .i64 keep], .string k]) ∧ isK k ∧ FltM w w' L M_ F R keep A2 c2
/-- a filter and two keys -/
def FltKK (w : World) (e : Ending) (w' : World) : Prop := ∃ (L M_ F : ByteArray) (R : List ByteArray) (keep : Int) (A2 : Option Addr) (c2 : Nat) (a b : ByteArray), e = .returned (.tuple #[.agg #[.string L, .string M_, .string F, .slice A2 R.length c2, .int .i64 keep], .string a, .string b]) ∧ isK a ∧ isK b ∧ FltM w w' L M_ F R keep A2 c2

set_option maxHeartbeats 2000000 in
theorem drawHeads (w : World) (A : Option Addr) (n c : Nat) (hb : Bytes w w.heap.size A n) (hnc : n ≤ c) (hc : c ≤ maxLen) :
    Calls Try.prog 36 #[.slice A n c] w (FltD w) := by
  obtain ⟨W0, hW0⟩ : ∃ W0, W0 = w.alloc (.cells #[.string ⟨#[]⟩, .string ⟨#[]⟩, .string ⟨#[]⟩, .slice none 0 0, .int .i64 0] 27) := ⟨_, rfl⟩
  have hs0 : W0.heap.size = w.heap.size + 1 := by rw [hW0]; simp
  have hbw : Below w.heap.size w W0 := by rw [hW0]; exact (Below.refl _ _).alloc (Nat.le_refl _) _
  have HX0 := Lib.hid (show W0.heap[w.heap.size]? = some (.cells #[.string ⟨#[]⟩, .string ⟨#[]⟩, .string ⟨#[]⟩, .slice none 0 0, .int .i64 0] 27 (0, 0)) by rw [hW0]; exact heap_alloc_new _ _)
  have HK := Lib.hid (openR W0 A n c (bytes_up hb hbw) hnc hc)
  have HB0 := Lib.hid hbw
  rw [hW0] at HK
  have HW0 := Lib.hid hW0
  clear hb hW0 hbw
  go_enter Try.func36, Try.ntmps36
  go_wp2_with fail
  go_at_call 68
  refine HK.out.mono ?_
  rw [← HW0.out]
  rintro e w1 ⟨A1, n1, c1, rfl, hr1, hb1⟩
  rw [hs0] at hr1
  rw [hs0]
  have HX1 := Lib.hid (show w1.heap[w.heap.size]? = some (.cells #[.string ⟨#[]⟩, .string ⟨#[]⟩, .string ⟨#[]⟩, .slice none 0 0, .int .i64 0] 27 (0, 0)) by rw [hb1.block _ (by omega)]; exact HX0.out)
  have HB1 := Lib.hid (HB0.out.trans (hb1.mono HB0.out.size))
  have HR1 := Lib.hid hr1
  have hgl : w.heap.size + 1 < w1.heap.size := (Array.getElem?_eq_some_iff.1 hr1.blk).1
  clear hr1 hb1 HK
  go_wp2_with fail
  go_at_call 84
  refine (bentD w1 (w.heap.size + 1) 0 n1 c1 A1 HR1.out (by omega)).mono ?_
  rintro e w2 ⟨L, M_, F, R, keep, A2, c2, l, V, cc, B2, p2, rfl, hp2, S2⟩
  have hsz2 := S2.grown.size
  have HX2 := Lib.hid (show w2.heap[w.heap.size]? = some (.cells #[.string ⟨#[]⟩, .string ⟨#[]⟩, .string ⟨#[]⟩, .slice none 0 0, .int .i64 0] 27 (0, 0)) by rw [S2.grown.block _ (by omega) (fun e => by injection e; omega)]; exact HX1.out)
  have HB2 := Lib.hid (HB1.out.grown S2.grown HB1.out.size (fun k e => by injection e; omega))
  have HS2 := Lib.hid S2
  clear S2
  have HX3 := Lib.hid (box_al HX2.out (.cells #[.string L, .string M_, .string F, .slice A2 R.length c2, .int .i64 keep] 27))
  have q0 : (w2.alloc (.cells #[.string L, .string M_, .string F, .slice A2 R.length c2, .int .i64 keep] 27)).cell? ⟨w.heap.size, 0, none⟩ = some (.string ⟨#[]⟩) := by rw [cell_of_row _ _ _ _ _ _ HX3.out]; rfl
  have qz0 : (w2.alloc (.cells #[.string L, .string M_, .string F, .slice A2 R.length c2, .int .i64 keep] 27)).frozen? ⟨w.heap.size, 0, none⟩ = false := by rw [frozen_of_row _ _ _ _ _ HX3.out]
  have q1 : (w2.alloc (.cells #[.string L, .string M_, .string F, .slice A2 R.length c2, .int .i64 keep] 27)).cell? ⟨w.heap.size, 1, none⟩ = some (.string ⟨#[]⟩) := by rw [cell_of_row _ _ _ _ _ _ HX3.out]; rfl
  have qz1 : (w2.alloc (.cells #[.string L, .string M_, .string F, .slice A2 R.length c2, .int .i64 keep] 27)).frozen? ⟨w.heap.size, 1, none⟩ = false := by rw [frozen_of_row _ _ _ _ _ HX3.out]
  have q2 : (w2.alloc (.cells #[.string L, .string M_, .string F, .slice A2 R.length c2, .int .i64 keep] 27)).cell? ⟨w.heap.size, 2, none⟩ = some (.string ⟨#[]⟩) := by rw [cell_of_row _ _ _ _ _ _ HX3.out]; rfl
  have qz2 : (w2.alloc (.cells #[.string L, .string M_, .string F, .slice A2 R.length c2, .int .i64 keep] 27)).frozen? ⟨w.heap.size, 2, none⟩ = false := by rw [frozen_of_row _ _ _ _ _ HX3.out]
  have q3 : (w2.alloc (.cells #[.string L, .string M_, .string F, .slice A2 R.length c2, .int .i64 keep] 27)).cell? ⟨w.heap.size, 3, none⟩ = some (.slice none 0 0) := by rw [cell_of_row _ _ _ _ _ _ HX3.out]; rfl
  have qz3 : (w2.alloc (.cells #[.string L, .string M_, .string F, .slice A2 R.length c2, .int .i64 keep] 27)).frozen? ⟨w.heap.size, 3, none⟩ = false := by rw [frozen_of_row _ _ _ _ _ HX3.out]
  have q4 : (w2.alloc (.cells #[.string L, .string M_, .string F, .slice A2 R.length c2, .int .i64 keep] 27)).cell? ⟨w.heap.size, 4, none⟩ = some (.int .i64 0) := by rw [cell_of_row _ _ _ _ _ _ HX3.out]; rfl
  have qz4 : (w2.alloc (.cells #[.string L, .string M_, .string F, .slice A2 R.length c2, .int .i64 keep] 27)).frozen? ⟨w.heap.size, 4, none⟩ = false := by rw [frozen_of_row _ _ _ _ _ HX3.out]
  go_wp2
  refine bodyPost_ret (v := .agg #[.string L, .string M_, .string F, .slice A2 R.length c2, .int .i64 keep]) ?_ rfl ⟨L, M_, F, R, keep, A2, c2, rfl, ?_⟩
  · exact results_cell_row rfl _ _ w.heap.size 27 _ (0, 0) _ rfl (box_five HX3.out _ _ _ _ _) Try.underlying27 rfl sieve_size
  · exact fltM_five (fltM (HS2.out.alloc _) (by omega) (by omega) HB1.out) HX3.out (Nat.le_refl _) _ _ _ _ _

set_option maxHeartbeats 2000000 in
theorem drawSize (w : World) (A : Option Addr) (n c : Nat) (hb : Bytes w w.heap.size A n) (hnc : n ≤ c) (hc : c ≤ maxLen) :
    Calls Try.prog 55 #[.slice A n c] w (FltD w) := by
  obtain ⟨W0, hW0⟩ : ∃ W0, W0 = w.alloc (.cells #[.string ⟨#[]⟩, .string ⟨#[]⟩, .string ⟨#[]⟩, .slice none 0 0, .int .i64 0] 27) := ⟨_, rfl⟩
  have hs0 : W0.heap.size = w.heap.size + 1 := by rw [hW0]; simp
  have hbw : Below w.heap.size w W0 := by rw [hW0]; exact (Below.refl _ _).alloc (Nat.le_refl _) _
  have HX0 := Lib.hid (show W0.heap[w.heap.size]? = some (.cells #[.string ⟨#[]⟩, .string ⟨#[]⟩, .string ⟨#[]⟩, .slice none 0 0, .int .i64 0] 27 (0, 0)) by rw [hW0]; exact heap_alloc_new _ _)
  have HK := Lib.hid (openR W0 A n c (bytes_up hb hbw) hnc hc)
  have HB0 := Lib.hid hbw
  rw [hW0] at HK
  have HW0 := Lib.hid hW0
  clear hb hW0 hbw
  go_enter Try.func55, Try.ntmps55
  go_wp2_with fail
  go_at_call 68
  refine HK.out.mono ?_
  rw [← HW0.out]
  rintro e w1 ⟨A1, n1, c1, rfl, hr1, hb1⟩
  rw [hs0] at hr1
  rw [hs0]
  have HX1 := Lib.hid (show w1.heap[w.heap.size]? = some (.cells #[.string ⟨#[]⟩, .string ⟨#[]⟩, .string ⟨#[]⟩, .slice none 0 0, .int .i64 0] 27 (0, 0)) by rw [hb1.block _ (by omega)]; exact HX0.out)
  have HB1 := Lib.hid (HB0.out.trans (hb1.mono HB0.out.size))
  have HR1 := Lib.hid hr1
  have hgl : w.heap.size + 1 < w1.heap.size := (Array.getElem?_eq_some_iff.1 hr1.blk).1
  clear hr1 hb1 HK
  go_wp2_with fail
  go_at_call 84
  refine (bentD w1 (w.heap.size + 1) 0 n1 c1 A1 HR1.out (by omega)).mono ?_
  rintro e w2 ⟨L, M_, F, R, keep, A2, c2, l, V, cc, B2, p2, rfl, hp2, S2⟩
  have hsz2 := S2.grown.size
  have HX2 := Lib.hid (show w2.heap[w.heap.size]? = some (.cells #[.string ⟨#[]⟩, .string ⟨#[]⟩, .string ⟨#[]⟩, .slice none 0 0, .int .i64 0] 27 (0, 0)) by rw [S2.grown.block _ (by omega) (fun e => by injection e; omega)]; exact HX1.out)
  have HB2 := Lib.hid (HB1.out.grown S2.grown HB1.out.size (fun k e => by injection e; omega))
  have HS2 := Lib.hid S2
  clear S2
  have HX3 := Lib.hid (box_al HX2.out (.cells #[.string L, .string M_, .string F, .slice A2 R.length c2, .int .i64 keep] 27))
  have q0 : (w2.alloc (.cells #[.string L, .string M_, .string F, .slice A2 R.length c2, .int .i64 keep] 27)).cell? ⟨w.heap.size, 0, none⟩ = some (.string ⟨#[]⟩) := by rw [cell_of_row _ _ _ _ _ _ HX3.out]; rfl
  have qz0 : (w2.alloc (.cells #[.string L, .string M_, .string F, .slice A2 R.length c2, .int .i64 keep] 27)).frozen? ⟨w.heap.size, 0, none⟩ = false := by rw [frozen_of_row _ _ _ _ _ HX3.out]
  have q1 : (w2.alloc (.cells #[.string L, .string M_, .string F, .slice A2 R.length c2, .int .i64 keep] 27)).cell? ⟨w.heap.size, 1, none⟩ = some (.string ⟨#[]⟩) := by rw [cell_of_row _ _ _ _ _ _ HX3.out]; rfl
  have qz1 : (w2.alloc (.cells #[.string L, .string M_, .string F, .slice A2 R.length c2, .int .i64 keep] 27)).frozen? ⟨w.heap.size, 1, none⟩ = false := by rw [frozen_of_row _ _ _ _ _ HX3.out]
  have q2 : (w2.alloc (.cells #[.string L, .string M_, .string F, .slice A2 R.length c2, .int .i64 keep] 27)).cell? ⟨w.heap.size, 2, none⟩ = some (.string ⟨#[]⟩) := by rw [cell_of_row _ _ _ _ _ _ HX3.out]; rfl
  have qz2 : (w2.alloc (.cells #[.string L, .string M_, .string F, .slice A2 R.length c2, .int .i64 keep] 27)).frozen? ⟨w.heap.size, 2, none⟩ = false := by rw [frozen_of_row _ _ _ _ _ HX3.out]
  have q3 : (w2.alloc (.cells #[.string L, .string M_, .string F, .slice A2 R.length c2, .int .i64 keep] 27)).cell? ⟨w.heap.size, 3, none⟩ = some (.slice none 0 0) := by rw [cell_of_row _ _ _ _ _ _ HX3.out]; rfl
  have qz3 : (w2.alloc (.cells #[.string L, .string M_, .string F, .slice A2 R.length c2, .int .i64 keep] 27)).frozen? ⟨w.heap.size, 3, none⟩ = false := by rw [frozen_of_row _ _ _ _ _ HX3.out]
  have q4 : (w2.alloc (.cells #[.string L, .string M_, .string F, .slice A2 R.length c2, .int .i64 keep] 27)).cell? ⟨w.heap.size, 4, none⟩ = some (.int .i64 0) := by rw [cell_of_row _ _ _ _ _ _ HX3.out]; rfl
  have qz4 : (w2.alloc (.cells #[.string L, .string M_, .string F, .slice A2 R.length c2, .int .i64 keep] 27)).frozen? ⟨w.heap.size, 4, none⟩ = false := by rw [frozen_of_row _ _ _ _ _ HX3.out]
  go_wp2
  refine bodyPost_ret (v := .agg #[.string L, .string M_, .string F, .slice A2 R.length c2, .int .i64 keep]) ?_ rfl ⟨L, M_, F, R, keep, A2, c2, rfl, ?_⟩
  · exact results_cell_row rfl _ _ w.heap.size 27 _ (0, 0) _ rfl (box_five HX3.out _ _ _ _ _) Try.underlying27 rfl sieve_size
  · exact fltM_five (fltM (HS2.out.alloc _) (by omega) (by omega) HB1.out) HX3.out (Nat.le_refl _) _ _ _ _ _

theorem ret_pair2 {fn : Func} {p u : Tmp} {ty : TypeId} (h : fn.results = #[.cell p ty, .tmp u]) (tmps : Array Value) (w : World) (g : Nat) (cs : Array Value) (x : Value)
    (hp : tmps.getD p undef = .pointer (some ⟨g, 0, none⟩)) (hx : tmps.getD u undef = x) (hl : (loadVar ty ⟨g, 0, none⟩).run Try.prog w = .ok (.agg cs) w) :
    (results fn tmps).run Try.prog w = .ok (.tuple #[.agg cs, x]) w := ret_pair h tmps w g cs x hp hx hl

set_option maxHeartbeats 4000000 in
theorem drawHas (w : World) (A : Option Addr) (n c : Nat) (hb : Bytes w w.heap.size A n) (hnc : n ≤ c) (hc : c ≤ maxLen) :
    Calls Try.prog 43 #[.slice A n c] w (FltK w) := by
  obtain ⟨W0, hW0⟩ : ∃ W0, W0 = w.alloc (.cells #[.string ⟨#[]⟩, .string ⟨#[]⟩, .string ⟨#[]⟩, .slice none 0 0, .int .i64 0] 27) := ⟨_, rfl⟩
  have hs0 : W0.heap.size = w.heap.size + 1 := by rw [hW0]; simp
  have hbw : Below w.heap.size w W0 := by rw [hW0]; exact (Below.refl _ _).alloc (Nat.le_refl _) _
  have HX0 := Lib.hid (show W0.heap[w.heap.size]? = some (.cells #[.string ⟨#[]⟩, .string ⟨#[]⟩, .string ⟨#[]⟩, .slice none 0 0, .int .i64 0] 27 (0, 0)) by rw [hW0]; exact heap_alloc_new _ _)
  have HK := Lib.hid (openR W0 A n c (bytes_up hb hbw) hnc hc)
  have HB0 := Lib.hid hbw
  rw [hW0] at HK
  have HW0 := Lib.hid hW0
  clear hb hW0 hbw
  go_enter Try.func43, Try.ntmps43
  go_wp2_with fail
  go_at_call 68
  refine HK.out.mono ?_
  rw [← HW0.out]
  rintro e w1 ⟨A1, n1, c1, rfl, hr1, hb1⟩
  rw [hs0] at hr1
  rw [hs0]
  have HX1 := Lib.hid (show w1.heap[w.heap.size]? = some (.cells #[.string ⟨#[]⟩, .string ⟨#[]⟩, .string ⟨#[]⟩, .slice none 0 0, .int .i64 0] 27 (0, 0)) by rw [hb1.block _ (by omega)]; exact HX0.out)
  have HB1 := Lib.hid (HB0.out.trans (hb1.mono HB0.out.size))
  have HR1 := Lib.hid hr1
  have hgl : w.heap.size + 1 < w1.heap.size := (Array.getElem?_eq_some_iff.1 hr1.blk).1
  clear hr1 hb1 HK
  go_wp2_with fail
  go_at_call 84
  refine (bentD w1 (w.heap.size + 1) 0 n1 c1 A1 HR1.out (by omega)).mono ?_
  rintro e w2 ⟨L, M_, F, R, keep, A2, c2, l, V, cc, B2, p2, rfl, hp2, S2⟩
  have hsz2 := S2.grown.size
  have HX2 := Lib.hid (show w2.heap[w.heap.size]? = some (.cells #[.string ⟨#[]⟩, .string ⟨#[]⟩, .string ⟨#[]⟩, .slice none 0 0, .int .i64 0] 27 (0, 0)) by rw [S2.grown.block _ (by omega) (fun e => by injection e; omega)]; exact HX1.out)
  have HB2 := Lib.hid (HB1.out.grown S2.grown HB1.out.size (fun k e => by injection e; omega))
  have HS2 := Lib.hid S2
  clear S2
  have HS2b := Lib.hid (HS2.out.alloc (.cells #[.string L, .string M_, .string F, .slice A2 R.length c2, .int .i64 keep] 27))
  obtain ⟨W2, hW2⟩ : ∃ W2, W2 = w2.alloc (.cells #[.string L, .string M_, .string F, .slice A2 R.length c2, .int .i64 keep] 27) := ⟨_, rfl⟩
  rw [← hW2] at HS2b
  have HX2b := Lib.hid (show W2.heap[w.heap.size]? = some (.cells #[.string ⟨#[]⟩, .string ⟨#[]⟩, .string ⟨#[]⟩, .slice none 0 0, .int .i64 0] 27 (0, 0)) by rw [hW2]; exact box_al HX2.out _)
  have HY2b := Lib.hid (show W2.heap[w2.heap.size]? = some (.cells #[.string L, .string M_, .string F, .slice A2 R.length c2, .int .i64 keep] 27 (0, 0)) by rw [hW2]; exact heap_alloc_new _ _)
  have hsz2b : W2.heap.size = w2.heap.size + 1 := by rw [hW2]; simp
  have HNR := Lib.hid (show ∀ W : World, W.heap = (w2.alloc (.cells #[.string L, .string M_, .string F, .slice A2 R.length c2, .int .i64 keep] 27)).heap → W.os = w2.os ∧ W.tape = w2.tape ∧ W.output = w2.output → Calls Try.prog 92 #[.pointer (some ⟨w.heap.size + 1, 0, none⟩), .slice V l.length cc] W fun e w3 => ∃ s q, isK s ∧ e = .returned (.string s) ∧ SvM 300 w1 w3 (w.heap.size + 1) q n1 c1 A1 L M_ F R keep A2 c2 l V cc B2 ∧ w3.heap[w.heap.size]? = some (.cells #[.string ⟨#[]⟩, .string ⟨#[]⟩, .string ⟨#[]⟩, .slice none 0 0, .int .i64 0] 27 (0, 0)) ∧ w3.heap[w2.heap.size]? = some (.cells #[.string L, .string M_, .string F, .slice A2 R.length c2, .int .i64 keep] 27 (0, 0)) from fun W hW hO => by
    have hRd : Rd W (w.heap.size + 1) p2 A1 n1 c1 := Rd.same HS2b.out.rd (by rw [hW, hW2])
    have hK : Own W w1.heap.size (.slice V l.length cc) l := own_same HS2b.out.keys (by rw [hW, hW2])
    refine (nearK W (w.heap.size + 1) p2 n1 c1 A1 W.heap.size l.length cc V l hRd (by omega) hK.strs.1 (Nat.le_refl _) (hK.far (by omega)) HS2.out.ks (by have := HS2.out.kl; omega)).mono ?_
    rintro e w3 ⟨s, q, hs, hq, rfl, hr3, hg3⟩
    have hg3' : W2.grownBy w3 (some (w.heap.size + 1)) := grown_pre hg3 (by rw [hW, hW2]) (by rw [hO.1, hW2]; rfl) (by rw [hO.2.1, hW2]; rfl) (by rw [hO.2.2, hW2]; rfl)
    refine ⟨s, q, hs, rfl, HS2b.out.next hg3' (by omega) hr3, ?_, ?_⟩
    · rw [hg3'.block _ (by omega) (fun e => by injection e; omega)]; exact HX2b.out
    · rw [hg3'.block _ (by omega) (fun e => by injection e; omega)]; exact HY2b.out)
  clear hW2 HX2b HY2b HS2b
  go_wp2_with fail
  go_region_with (go_at_call 92; refine Calls.mono (HNR.out _ (by rfl) ⟨by rfl, by rfl, by rfl⟩) ?_; rintro e w3 ⟨s, q, hs, rfl, S3, hx3, hy3⟩; have HX3 := Lib.hid hx3; have q0 : w3.cell? ⟨w.heap.size, 0, none⟩ = some (.string ⟨#[]⟩) := (by rw [cell_of_row _ _ _ _ _ _ hx3]; rfl); have qz0 : w3.frozen? ⟨w.heap.size, 0, none⟩ = false := (by rw [frozen_of_row _ _ _ _ _ hx3]); have q1 : w3.cell? ⟨w.heap.size, 1, none⟩ = some (.string ⟨#[]⟩) := (by rw [cell_of_row _ _ _ _ _ _ hx3]; rfl); have qz1 : w3.frozen? ⟨w.heap.size, 1, none⟩ = false := (by rw [frozen_of_row _ _ _ _ _ hx3]); have q2 : w3.cell? ⟨w.heap.size, 2, none⟩ = some (.string ⟨#[]⟩) := (by rw [cell_of_row _ _ _ _ _ _ hx3]; rfl); have qz2 : w3.frozen? ⟨w.heap.size, 2, none⟩ = false := (by rw [frozen_of_row _ _ _ _ _ hx3]); have q3 : w3.cell? ⟨w.heap.size, 3, none⟩ = some (.slice none 0 0) := (by rw [cell_of_row _ _ _ _ _ _ hx3]; rfl); have qz3 : w3.frozen? ⟨w.heap.size, 3, none⟩ = false := (by rw [frozen_of_row _ _ _ _ _ hx3]); have q4 : w3.cell? ⟨w.heap.size, 4, none⟩ = some (.int .i64 0) := (by rw [cell_of_row _ _ _ _ _ _ hx3]; rfl); have qz4 : w3.frozen? ⟨w.heap.size, 4, none⟩ = false := (by rw [frozen_of_row _ _ _ _ _ hx3]); have a0 : w3.cell? ⟨w2.heap.size, 0, none⟩ = some (.string L) := (by rw [cell_of_row _ _ _ _ _ _ hy3]; rfl); have az0 : w3.frozen? ⟨w2.heap.size, 0, none⟩ = false := (by rw [frozen_of_row _ _ _ _ _ hy3]); have a1 : w3.cell? ⟨w2.heap.size, 1, none⟩ = some (.string M_) := (by rw [cell_of_row _ _ _ _ _ _ hy3]; rfl); have az1 : w3.frozen? ⟨w2.heap.size, 1, none⟩ = false := (by rw [frozen_of_row _ _ _ _ _ hy3]); have a2 : w3.cell? ⟨w2.heap.size, 2, none⟩ = some (.string F) := (by rw [cell_of_row _ _ _ _ _ _ hy3]; rfl); have az2 : w3.frozen? ⟨w2.heap.size, 2, none⟩ = false := (by rw [frozen_of_row _ _ _ _ _ hy3]); have a3 : w3.cell? ⟨w2.heap.size, 3, none⟩ = some (.slice A2 R.length c2) := (by rw [cell_of_row _ _ _ _ _ _ hy3]; rfl); have az3 : w3.frozen? ⟨w2.heap.size, 3, none⟩ = false := (by rw [frozen_of_row _ _ _ _ _ hy3]); have a4 : w3.cell? ⟨w2.heap.size, 4, none⟩ = some (.int .i64 keep) := (by rw [cell_of_row _ _ _ _ _ _ hy3]; rfl); have az4 : w3.frozen? ⟨w2.heap.size, 4, none⟩ = false := (by rw [frozen_of_row _ _ _ _ _ hy3]); have HS3 := Lib.hid S3; have HSS := Lib.hid hs; clear S3 hx3 hy3 hs)
  all_goals
    go_wp2
    refine bodyPost_ret (v := .tuple #[.agg #[.string L, .string M_, .string F, .slice A2 R.length c2, .int .i64 keep], .string s]) ?_ rfl ⟨L, M_, F, R, keep, A2, c2, s, rfl, HSS.out, ?_⟩
    · exact ret_pair rfl _ _ w.heap.size _ _ rfl rfl (load_sieve (box_five HX3.out _ _ _ _ _))
    · exact fltM_five (fltM HS3.out (by omega) (by omega) HB1.out) HX3.out (Nat.le_refl _) _ _ _ _ _

end Go.Proofs.Ytakadkhgcjndmaa.W
