/-
  The contract of the function that draws a filter, some spoilt, and its keys.
-/
import Derived.Test.YtakadkhgcjndmaaDS3
import Derived.StillTailTactics
namespace Go.Proofs.Ytakadkhgcjndmaa.W
open Go.RowKit K

theorem own_ne_box {w : World} {base b : Nat} {v : Value} {l : List ByteArray} {cs : Array Value} (h : Own w base v l) (hb : w.heap[b]? = some (.cells cs 27 (0, 0))) : ∀ k, v.ownBlock = some k → k ≠ b := by
  rintro k hk rfl
  rcases h.2 with ⟨rfl, -⟩ | ⟨g, cap, cur, rfl, -, hg, -⟩
  · cases hk
  · injection hk with hk
    subst hk
    rw [hg] at hb
    injection hb with hb
    injection hb with _ hb
    revert hb
    decide
theorem own_setNe {w : World} {base : Nat} {v : Value} {l : List ByteArray} (h : Own w base v l) (g o : Nat) (x : Value) (hne : ∀ k, v.ownBlock = some k → k ≠ g) : Own (w.setCell ⟨g, o, none⟩ x) base v l :=
  World.ownsRow.kept h (row := some g) (w' := w.setCell ⟨g, o, none⟩ x) ⟨rfl, rfl, rfl, by simp [World.setCell], fun k _ hk => heap_setCell_other _ _ _ _ (fun e => hk (by rw [e]))⟩ (by
    cases e : v.ownBlock with
    | none => exact .inl rfl
    | some k => exact .inr (fun y => by have := hne k e; injection y; omega))
theorem own_apart2 {w w' : World} {b2 : Nat} {v1 v2 : Value} {l2 : List ByteArray} (h2 : Own w b2 v2 l2) (hg : w.grownBy w' v1.ownBlock) (hne : ∀ k, v1.ownBlock = some k → ¬ v2.ownBlock = some k) : Own w' b2 v2 l2 :=
  World.ownsRow.kept h2 hg (by
    cases e : v2.ownBlock with
    | none => exact .inl rfl
    | some k => exact .inr fun x => hne k x.symm e)
theorem far_five {w : World} {b g : Nat} {x0 x1 x2 x3 x4 : Value} (h : ¬ b = g) : (((((w.setCell ⟨g, 0, none⟩ x0).setCell ⟨g, 1, none⟩ x1).setCell ⟨g, 2, none⟩ x2).setCell ⟨g, 3, none⟩ x3).setCell ⟨g, 4, none⟩ x4).heap[b]? = w.heap[b]? := by
  rw [heap_setCell_other _ _ _ _ (by simpa using h), heap_setCell_other _ _ _ _ (by simpa using h), heap_setCell_other _ _ _ _ (by simpa using h), heap_setCell_other _ _ _ _ (by simpa using h), heap_setCell_other _ _ _ _ (by simpa using h)]
theorem own_drew {w : World} {base : Nat} {v : Value} {l : List ByteArray} (h : Own w base v l) : Own w.drew base v l := h
theorem grown_drew {w w' : World} {r : Option Nat} (h : w.grownBy w' r) : w.grownBy w'.drew r := ⟨h.os, h.tape, h.output, h.size, h.block⟩
section
variable {z : Nat} {w W : World} {g p' n c : Nat} {A : Option Addr} {L M_ F : ByteArray} {R : List ByteArray} {keep : Int} {A2 : Option Addr} {c2 : Nat} {l : List ByteArray} {V : Option Addr} {cc B2 : Nat}
theorem SvM.setBox (h : SvM z w W g p' n c A L M_ F R keep A2 c2 l V cc B2) {b : Nat} {cs : Array Value} (hbox : W.heap[b]? = some (.cells cs 27 (0, 0))) (hb : w.heap.size ≤ b) (hg : g < w.heap.size) (o : Nat) (x : Value) : SvM z w (W.setCell ⟨b, o, none⟩ x) g p' n c A L M_ F R keep A2 c2 l V cc B2 :=
  ⟨h.szL, h.szM, h.szF, h.szR, h.szS, h.k1, h.k2, h.ks, h.kl, own_setNe h.own _ _ _ (own_ne_box h.own hbox), own_setNe h.keys _ _ _ (own_ne_box h.keys hbox), h.apart, h.bl, by simpa [World.setCell] using h.b2, h.rd.setFar _ _ _ (by omega), grown_setNew h.grown _ _ _ hb⟩
theorem SvM.five (h : SvM z w W g p' n c A L M_ F R keep A2 c2 l V cc B2) {b : Nat} {y0 y1 y2 y3 y4 : Value} (hbox : W.heap[b]? = some (.cells #[y0, y1, y2, y3, y4] 27 (0, 0))) (hb : w.heap.size ≤ b) (hg : g < w.heap.size) (x0 x1 x2 x3 x4 : Value) : SvM z w (((((W.setCell ⟨b, 0, none⟩ x0).setCell ⟨b, 1, none⟩ x1).setCell ⟨b, 2, none⟩ x2).setCell ⟨b, 3, none⟩ x3).setCell ⟨b, 4, none⟩ x4) g p' n c A L M_ F R keep A2 c2 l V cc B2 := by
  have h0 := heap_setCell_same W b 0 _ _ x0 hbox
  have h1 := heap_setCell_same _ b 1 _ _ x1 h0
  have h2 := heap_setCell_same _ b 2 _ _ x2 h1
  have h3 := heap_setCell_same _ b 3 _ _ x3 h2
  exact ((((h.setBox hbox hb hg 0 x0).setBox h0 hb hg 1 x1).setBox h1 hb hg 2 x2).setBox h2 hb hg 3 x3).setBox h3 hb hg 4 x4
theorem SvM.mono (h : SvM z w W g p' n c A L M_ F R keep A2 c2 l V cc B2) {z' : Nat} (hz : z ≤ z') : SvM z' w W g p' n c A L M_ F R keep A2 c2 l V cc B2 :=
  ⟨Nat.le_trans h.szL hz, Nat.le_trans h.szM hz, Nat.le_trans h.szF hz, Nat.le_trans h.szR hz, fun s hs => Nat.le_trans (h.szS s hs) hz, h.k1, h.k2, h.ks, h.kl, h.own, h.keys, h.apart, h.bl, h.b2, h.rd, h.grown⟩
theorem SvM.upd (h : SvM z w W g p' n c A L M_ F R keep A2 c2 l V cc B2) {L' M' F' : ByteArray} {keep' : Int} (h1 : L'.size ≤ z) (h2 : M'.size ≤ z) (h3 : F'.size ≤ z) (h4 : -1 ≤ keep') (h5 : keep' ≤ 6) : SvM z w W g p' n c A L' M' F' R keep' A2 c2 l V cc B2 :=
  ⟨h1, h2, h3, h.szR, h.szS, h4, h5, h.ks, h.kl, h.own, h.keys, h.apart, h.bl, h.b2, h.rd, h.grown⟩
theorem SvM.rests (h : SvM z w W g p' n c A L M_ F R keep A2 c2 l V cc B2) {R' : List ByteArray} {A' : Option Addr} {c' : Nat} (h1 : R'.length ≤ z) (h2 : ∀ s ∈ R', s.size ≤ z) (h3 : Own W B2 (.slice A' R'.length c') R') : SvM z w W g p' n c A L M_ F R' keep A' c' l V cc B2 :=
  ⟨h.szL, h.szM, h.szF, h1, h2, h.k1, h.k2, h.ks, h.kl, h3, h.keys, h.apart, h.bl, h.b2, h.rd, h.grown⟩
/-- what is made, or drawn, since -/
theorem SvM.next (h : SvM z w W g p' n c A L M_ F R keep A2 c2 l V cc B2) {W' : World} {q : Nat} (hg : W.grownBy W' (some g)) (hlt : g < w.heap.size) (hr : Rd W' g q A n c) : SvM z w W' g q n c A L M_ F R keep A2 c2 l V cc B2 :=
  ⟨h.szL, h.szM, h.szF, h.szR, h.szS, h.k1, h.k2, h.ks, h.kl, h.own.grown hg (by have := h.bl; omega), h.keys.grown hg hlt, h.apart, h.bl, Nat.le_trans h.b2 hg.size, hr, h.grown.trans hg⟩
theorem SvM.alloc (h : SvM z w W g p' n c A L M_ F R keep A2 c2 l V cc B2) (o : Obj) : SvM z w (W.alloc o) g p' n c A L M_ F R keep A2 c2 l V cc B2 :=
  ⟨h.szL, h.szM, h.szF, h.szR, h.szS, h.k1, h.k2, h.ks, h.kl, h.own.alloc o, h.keys.alloc o, h.apart, h.bl, le_alloc h.b2 o, h.rd.alloc o, h.grown.trans (World.grownBy_alloc _ _ _)⟩
theorem SvM.from (h : SvM z w W g p' n c A L M_ F R keep A2 c2 l V cc B2) {w0 : World} (hg : w0.grownBy w (some g)) : SvM z w0 W g p' n c A L M_ F R keep A2 c2 l V cc B2 :=
  ⟨h.szL, h.szM, h.szF, h.szR, h.szS, h.k1, h.k2, h.ks, h.kl, h.own, h.keys.base hg.size, h.apart, Nat.le_trans hg.size h.bl, h.b2, h.rd, hg.trans h.grown⟩
end

set_option maxHeartbeats 8000000 in
set_option maxRecDepth 100000 in
theorem bentD (w : World) (g p n c : Nat) (A : Option Addr) (hr : Rd w g p A n c) (hp : p ≤ 600000) :
    Calls Try.prog 84 #[.pointer (some ⟨g, 0, none⟩)] w (SvD 300 2300 g p n c A w) := by
  have hglt : g < w.heap.size := (Array.getElem?_eq_some_iff.1 hr.blk).1
  obtain ⟨W0, hW0⟩ : ∃ W0, W0 = w.alloc (.cells #[.string ⟨#[]⟩, .string ⟨#[]⟩, .string ⟨#[]⟩, .slice none 0 0, .int .i64 0] 27) := ⟨_, rfl⟩
  have hs0 : W0.heap.size = w.heap.size + 1 := by rw [hW0]; simp
  have HX0 := Lib.hid (show W0.heap[w.heap.size]? = some (.cells #[.string ⟨#[]⟩, .string ⟨#[]⟩, .string ⟨#[]⟩, .slice none 0 0, .int .i64 0] 27 (0, 0)) by rw [hW0]; exact heap_alloc_new _ _)
  have HK := Lib.hid (sieveD W0 g p n c A (by rw [hW0]; exact hr.alloc _) (by omega))
  have HG0 := Lib.hid (show w.grownBy W0 (some g) by rw [hW0]; exact World.grownBy_alloc _ _ _)
  rw [hW0] at HK
  have HW0 := Lib.hid hW0
  clear hr hW0
  go_enter Try.func84, Try.ntmps84
  go_wp2_with fail
  go_at_call 123
  refine HK.out.mono ?_
  rw [← HW0.out]
  rintro e w1 ⟨L, M_, F, R, keep, A2, c2, l, V, cc, B2, p1, rfl, hp1, S1⟩
  have hsz1 := S1.grown.size
  have HX1 := Lib.hid (show w1.heap[w.heap.size]? = some (.cells #[.string ⟨#[]⟩, .string ⟨#[]⟩, .string ⟨#[]⟩, .slice none 0 0, .int .i64 0] 27 (0, 0)) by rw [S1.grown.block _ (by omega) (fun e => by injection e; omega)]; exact HX0.out)
  have HS1 := Lib.hid (S1.from HG0.out)
  have HB2 := Lib.hid (show B2 ≤ w1.heap.size from S1.b2)
  clear S1
  go_wp2_with fail
  go_at_call 70
  refine (pick _ g p1 n c A 10 (HS1.out.alloc _).rd (by omega) (by omega)).mono ?_
  rintro e w2 ⟨x, rfl, hx0, hx1, hr2, hg2⟩
  have hsz2 := hg2.size
  rw [World.size_alloc] at hsz2
  have HS2 := Lib.hid ((HS1.out.alloc _).next hg2 hglt hr2)
  have HX2 := Lib.hid (show w2.heap[w.heap.size]? = some (.cells #[.string ⟨#[]⟩, .string ⟨#[]⟩, .string ⟨#[]⟩, .slice none 0 0, .int .i64 0] 27 (0, 0)) by rw [hg2.block _ (by simp; omega) (fun e => by injection e; omega)]; exact box_al HX1.out _)
  have HY2 := Lib.hid (show w2.heap[w1.heap.size]? = some (.cells #[.string L, .string M_, .string F, .slice A2 R.length c2, .int .i64 keep] 27 (0, 0)) by rw [hg2.block _ (by simp) (fun e => by injection e; omega)]; exact heap_alloc_new _ _)
  clear hr2 hg2
  by_cases hx : x > 0
  · have hx' : (0 : Int) < x := hx
    have q0 : w2.cell? ⟨w.heap.size, 0, none⟩ = some (.string ⟨#[]⟩) := by rw [cell_of_row _ _ _ _ _ _ HX2.out]; rfl
    have qz0 : w2.frozen? ⟨w.heap.size, 0, none⟩ = false := by rw [frozen_of_row _ _ _ _ _ HX2.out]
    have q1 : w2.cell? ⟨w.heap.size, 1, none⟩ = some (.string ⟨#[]⟩) := by rw [cell_of_row _ _ _ _ _ _ HX2.out]; rfl
    have qz1 : w2.frozen? ⟨w.heap.size, 1, none⟩ = false := by rw [frozen_of_row _ _ _ _ _ HX2.out]
    have q2 : w2.cell? ⟨w.heap.size, 2, none⟩ = some (.string ⟨#[]⟩) := by rw [cell_of_row _ _ _ _ _ _ HX2.out]; rfl
    have qz2 : w2.frozen? ⟨w.heap.size, 2, none⟩ = false := by rw [frozen_of_row _ _ _ _ _ HX2.out]
    have q3 : w2.cell? ⟨w.heap.size, 3, none⟩ = some (.slice none 0 0) := by rw [cell_of_row _ _ _ _ _ _ HX2.out]; rfl
    have qz3 : w2.frozen? ⟨w.heap.size, 3, none⟩ = false := by rw [frozen_of_row _ _ _ _ _ HX2.out]
    have q4 : w2.cell? ⟨w.heap.size, 4, none⟩ = some (.int .i64 0) := by rw [cell_of_row _ _ _ _ _ _ HX2.out]; rfl
    have qz4 : w2.frozen? ⟨w.heap.size, 4, none⟩ = false := by rw [frozen_of_row _ _ _ _ _ HX2.out]
    have a0 : w2.cell? ⟨w1.heap.size, 0, none⟩ = some (.string L) := by rw [cell_of_row _ _ _ _ _ _ HY2.out]; rfl
    have az0 : w2.frozen? ⟨w1.heap.size, 0, none⟩ = false := by rw [frozen_of_row _ _ _ _ _ HY2.out]
    have a1 : w2.cell? ⟨w1.heap.size, 1, none⟩ = some (.string M_) := by rw [cell_of_row _ _ _ _ _ _ HY2.out]; rfl
    have az1 : w2.frozen? ⟨w1.heap.size, 1, none⟩ = false := by rw [frozen_of_row _ _ _ _ _ HY2.out]
    have a2 : w2.cell? ⟨w1.heap.size, 2, none⟩ = some (.string F) := by rw [cell_of_row _ _ _ _ _ _ HY2.out]; rfl
    have az2 : w2.frozen? ⟨w1.heap.size, 2, none⟩ = false := by rw [frozen_of_row _ _ _ _ _ HY2.out]
    have a3 : w2.cell? ⟨w1.heap.size, 3, none⟩ = some (.slice A2 R.length c2) := by rw [cell_of_row _ _ _ _ _ _ HY2.out]; rfl
    have az3 : w2.frozen? ⟨w1.heap.size, 3, none⟩ = false := by rw [frozen_of_row _ _ _ _ _ HY2.out]
    have a4 : w2.cell? ⟨w1.heap.size, 4, none⟩ = some (.int .i64 keep) := by rw [cell_of_row _ _ _ _ _ _ HY2.out]; rfl
    have az4 : w2.frozen? ⟨w1.heap.size, 4, none⟩ = false := by rw [frozen_of_row _ _ _ _ _ HY2.out]
    go_wp2
    refine bodyPost_ret (v := .tuple #[.agg #[.string L, .string M_, .string F, .slice A2 R.length c2, .int .i64 keep], .slice V l.length cc]) ?_ rfl ⟨L, M_, F, R, keep, A2, c2, l, V, cc, B2, p1 + 1, rfl, by omega, ?_⟩
    · exact ret_pair rfl _ _ w.heap.size _ _ rfl rfl (load_sieve (box_five HX2.out _ _ _ _ _))
    · exact (HS2.out.five HX2.out (Nat.le_refl _) hglt _ _ _ _ _).mono (by omega)
  · have hx' : ¬ (0 : Int) < x := hx
    go_wp2_with fail
    go_at_call 70
    refine (pick w2 g (p1 + 1) n c A 7 HS2.out.rd (by omega) (by omega)).mono ?_
    rintro e w3 ⟨y, rfl, hy0, hy1, hr3, hg3⟩
    obtain ⟨Y, rfl⟩ := Int.eq_ofNat_of_zero_le hy0
    have hY : Y < 7 := by omega
    have hsz3 := hg3.size
    have HS3 := Lib.hid (HS2.out.next hg3 hglt hr3)
    have HX3 := Lib.hid (show w3.heap[w.heap.size]? = some (.cells #[.string ⟨#[]⟩, .string ⟨#[]⟩, .string ⟨#[]⟩, .slice none 0 0, .int .i64 0] 27 (0, 0)) by rw [hg3.block _ (by omega) (fun e => by injection e; omega)]; exact HX2.out)
    have HY3 := Lib.hid (show w3.heap[w1.heap.size]? = some (.cells #[.string L, .string M_, .string F, .slice A2 R.length c2, .int .i64 keep] 27 (0, 0)) by rw [hg3.block _ (by omega) (fun e => by injection e; omega)]; exact HY2.out)
    clear hr3 hg3 hy0 hy1 HS2 HX2 HY2 hx hx'
    have hne : ¬ w1.heap.size = w.heap.size := by omega
    have hne2 : ¬ w.heap.size = w1.heap.size := by omega
    have q0 : w3.cell? ⟨w.heap.size, 0, none⟩ = some (.string ⟨#[]⟩) := by rw [cell_of_row _ _ _ _ _ _ HX3.out]; rfl
    have qz0 : w3.frozen? ⟨w.heap.size, 0, none⟩ = false := by rw [frozen_of_row _ _ _ _ _ HX3.out]
    have q1 : w3.cell? ⟨w.heap.size, 1, none⟩ = some (.string ⟨#[]⟩) := by rw [cell_of_row _ _ _ _ _ _ HX3.out]; rfl
    have qz1 : w3.frozen? ⟨w.heap.size, 1, none⟩ = false := by rw [frozen_of_row _ _ _ _ _ HX3.out]
    have q2 : w3.cell? ⟨w.heap.size, 2, none⟩ = some (.string ⟨#[]⟩) := by rw [cell_of_row _ _ _ _ _ _ HX3.out]; rfl
    have qz2 : w3.frozen? ⟨w.heap.size, 2, none⟩ = false := by rw [frozen_of_row _ _ _ _ _ HX3.out]
    have q3 : w3.cell? ⟨w.heap.size, 3, none⟩ = some (.slice none 0 0) := by rw [cell_of_row _ _ _ _ _ _ HX3.out]; rfl
    have qz3 : w3.frozen? ⟨w.heap.size, 3, none⟩ = false := by rw [frozen_of_row _ _ _ _ _ HX3.out]
    have q4 : w3.cell? ⟨w.heap.size, 4, none⟩ = some (.int .i64 0) := by rw [cell_of_row _ _ _ _ _ _ HX3.out]; rfl
    have qz4 : w3.frozen? ⟨w.heap.size, 4, none⟩ = false := by rw [frozen_of_row _ _ _ _ _ HX3.out]
    have a0 : w3.cell? ⟨w1.heap.size, 0, none⟩ = some (.string L) := by rw [cell_of_row _ _ _ _ _ _ HY3.out]; rfl
    have az0 : w3.frozen? ⟨w1.heap.size, 0, none⟩ = false := by rw [frozen_of_row _ _ _ _ _ HY3.out]
    have a1 : w3.cell? ⟨w1.heap.size, 1, none⟩ = some (.string M_) := by rw [cell_of_row _ _ _ _ _ _ HY3.out]; rfl
    have az1 : w3.frozen? ⟨w1.heap.size, 1, none⟩ = false := by rw [frozen_of_row _ _ _ _ _ HY3.out]
    have a2 : w3.cell? ⟨w1.heap.size, 2, none⟩ = some (.string F) := by rw [cell_of_row _ _ _ _ _ _ HY3.out]; rfl
    have az2 : w3.frozen? ⟨w1.heap.size, 2, none⟩ = false := by rw [frozen_of_row _ _ _ _ _ HY3.out]
    have a3 : w3.cell? ⟨w1.heap.size, 3, none⟩ = some (.slice A2 R.length c2) := by rw [cell_of_row _ _ _ _ _ _ HY3.out]; rfl
    have az3 : w3.frozen? ⟨w1.heap.size, 3, none⟩ = false := by rw [frozen_of_row _ _ _ _ _ HY3.out]
    have a4 : w3.cell? ⟨w1.heap.size, 4, none⟩ = some (.int .i64 keep) := by rw [cell_of_row _ _ _ _ _ _ HY3.out]; rfl
    have az4 : w3.frozen? ⟨w1.heap.size, 4, none⟩ = false := by rw [frozen_of_row _ _ _ _ _ HY3.out]
    have HBL := Lib.hid (show B2 ≤ w3.heap.size by have := HB2.out; omega)
    have zL := HS3.out.szL
    have zM := HS3.out.szM
    have zF := HS3.out.szF
    rcases (by omega : Y = 0 ∨ Y = 1 ∨ Y = 2 ∨ Y = 3 ∨ Y = 4 ∨ Y = 5 ∨ Y = 6) with rfl | rfl | rfl | rfl | rfl | rfl | rfl
    · go_wp2
      refine bodyPost_ret (v := .tuple #[.agg #[.string (L ++ ⟨#[97]⟩), .string (M_), .string (F), .slice A2 R.length c2, .int .i64 keep], .slice V l.length cc]) ?_ rfl ⟨L ++ ⟨#[97]⟩, M_, F, R, keep, A2, c2, l, V, cc, B2, p1 + 1 + 1, rfl, by omega, ?_⟩
      · exact ret_pair rfl _ _ w.heap.size _ _ rfl rfl (load_sieve (box_five (by rw [heap_setCell_other _ _ _ _ (by simpa using hne2)]; exact HX3.out) _ _ _ _ _))
      · have hS := HS3.out
        exact SvM.upd (((hS.setBox HY3.out (by omega) hglt _ _).five (by rw [heap_setCell_other _ _ _ _ (by simpa using hne2)]; exact HX3.out) (Nat.le_refl _) hglt _ _ _ _ _).mono (by omega)) (by rw [ByteArray.size_append]; show L.size + 1 ≤ 300; omega) (by omega) (by omega) hS.k1 hS.k2
    · go_wp2
      refine bodyPost_ret (v := .tuple #[.agg #[.string (L), .string (M_ ++ ⟨#[49]⟩), .string (F), .slice A2 R.length c2, .int .i64 keep], .slice V l.length cc]) ?_ rfl ⟨L, M_ ++ ⟨#[49]⟩, F, R, keep, A2, c2, l, V, cc, B2, p1 + 1 + 1, rfl, by omega, ?_⟩
      · exact ret_pair rfl _ _ w.heap.size _ _ rfl rfl (load_sieve (box_five (by rw [heap_setCell_other _ _ _ _ (by simpa using hne2)]; exact HX3.out) _ _ _ _ _))
      · have hS := HS3.out
        exact SvM.upd (((hS.setBox HY3.out (by omega) hglt _ _).five (by rw [heap_setCell_other _ _ _ _ (by simpa using hne2)]; exact HX3.out) (Nat.le_refl _) hglt _ _ _ _ _).mono (by omega)) (by omega) (by rw [ByteArray.size_append]; show M_.size + 1 ≤ 300; omega) (by omega) hS.k1 hS.k2
    · go_wp2
      refine bodyPost_ret (v := .tuple #[.agg #[.string (L), .string (M_), .string (⟨#[49]⟩ ++ F), .slice A2 R.length c2, .int .i64 keep], .slice V l.length cc]) ?_ rfl ⟨L, M_, ⟨#[49]⟩ ++ F, R, keep, A2, c2, l, V, cc, B2, p1 + 1 + 1, rfl, by omega, ?_⟩
      · exact ret_pair rfl _ _ w.heap.size _ _ rfl rfl (load_sieve (box_five (by rw [heap_setCell_other _ _ _ _ (by simpa using hne2)]; exact HX3.out) _ _ _ _ _))
      · have hS := HS3.out
        exact SvM.upd (((hS.setBox HY3.out (by omega) hglt _ _).five (by rw [heap_setCell_other _ _ _ _ (by simpa using hne2)]; exact HX3.out) (Nat.le_refl _) hglt _ _ _ _ _).mono (by omega)) (by omega) (by omega) (by rw [ByteArray.size_append]; show 1 + F.size ≤ 300; omega) hS.k1 hS.k2
    · have HOW := Lib.hid (HS3.out.own)
      have hRz := HS3.out.szR
      have hbl : B2 ≤ w3.heap.size := HBL.out
      go_wp2_with (at_builtin; refine app_str rfl (.tmp 51) (.tmp 52) rfl _ B2 _ R rfl (HOW.out.alloc _) w3.heap.size 1 _ rfl (cell_new _ _ _) (by omega) (le_alloc hbl _) ?_; intro g4 cap w4 ho4 hg4; have hsz4 := hg4.size; have HX4 := Lib.hid (show w4.heap[w.heap.size]? = some (.cells #[.string ⟨#[]⟩, .string ⟨#[]⟩, .string ⟨#[]⟩, .slice none 0 0, .int .i64 0] 27 (0, 0)) by rw [hg4.block _ (by simp; omega) (fun e => own_ne_box HOW.out HX3.out _ e.symm rfl)]; exact box_al HX3.out _); have HY4 := Lib.hid (show w4.heap[w1.heap.size]? = some (.cells #[.string L, .string M_, .string F, .slice A2 R.length c2, .int .i64 keep] 27 (0, 0)) by rw [hg4.block _ (by simp; omega) (fun e => own_ne_box HOW.out HY3.out _ e.symm rfl)]; exact box_al HY3.out _); have q40 : w4.cell? ⟨w.heap.size, 0, none⟩ = some (.string ⟨#[]⟩) := (by rw [cell_of_row _ _ _ _ _ _ HX4.out]; rfl); have q4z0 : w4.frozen? ⟨w.heap.size, 0, none⟩ = false := (by rw [frozen_of_row _ _ _ _ _ HX4.out]); have q41 : w4.cell? ⟨w.heap.size, 1, none⟩ = some (.string ⟨#[]⟩) := (by rw [cell_of_row _ _ _ _ _ _ HX4.out]; rfl); have q4z1 : w4.frozen? ⟨w.heap.size, 1, none⟩ = false := (by rw [frozen_of_row _ _ _ _ _ HX4.out]); have q42 : w4.cell? ⟨w.heap.size, 2, none⟩ = some (.string ⟨#[]⟩) := (by rw [cell_of_row _ _ _ _ _ _ HX4.out]; rfl); have q4z2 : w4.frozen? ⟨w.heap.size, 2, none⟩ = false := (by rw [frozen_of_row _ _ _ _ _ HX4.out]); have q43 : w4.cell? ⟨w.heap.size, 3, none⟩ = some (.slice none 0 0) := (by rw [cell_of_row _ _ _ _ _ _ HX4.out]; rfl); have q4z3 : w4.frozen? ⟨w.heap.size, 3, none⟩ = false := (by rw [frozen_of_row _ _ _ _ _ HX4.out]); have q44 : w4.cell? ⟨w.heap.size, 4, none⟩ = some (.int .i64 0) := (by rw [cell_of_row _ _ _ _ _ _ HX4.out]; rfl); have q4z4 : w4.frozen? ⟨w.heap.size, 4, none⟩ = false := (by rw [frozen_of_row _ _ _ _ _ HX4.out]); have a40 : w4.cell? ⟨w1.heap.size, 0, none⟩ = some (.string L) := (by rw [cell_of_row _ _ _ _ _ _ HY4.out]; rfl); have a4z0 : w4.frozen? ⟨w1.heap.size, 0, none⟩ = false := (by rw [frozen_of_row _ _ _ _ _ HY4.out]); have a41 : w4.cell? ⟨w1.heap.size, 1, none⟩ = some (.string M_) := (by rw [cell_of_row _ _ _ _ _ _ HY4.out]; rfl); have a4z1 : w4.frozen? ⟨w1.heap.size, 1, none⟩ = false := (by rw [frozen_of_row _ _ _ _ _ HY4.out]); have a42 : w4.cell? ⟨w1.heap.size, 2, none⟩ = some (.string F) := (by rw [cell_of_row _ _ _ _ _ _ HY4.out]; rfl); have a4z2 : w4.frozen? ⟨w1.heap.size, 2, none⟩ = false := (by rw [frozen_of_row _ _ _ _ _ HY4.out]); have a43 : w4.cell? ⟨w1.heap.size, 3, none⟩ = some (.slice A2 R.length c2) := (by rw [cell_of_row _ _ _ _ _ _ HY4.out]; rfl); have a4z3 : w4.frozen? ⟨w1.heap.size, 3, none⟩ = false := (by rw [frozen_of_row _ _ _ _ _ HY4.out]); have a44 : w4.cell? ⟨w1.heap.size, 4, none⟩ = some (.int .i64 keep) := (by rw [cell_of_row _ _ _ _ _ _ HY4.out]; rfl); have a4z4 : w4.frozen? ⟨w1.heap.size, 4, none⟩ = false := (by rw [frozen_of_row _ _ _ _ _ HY4.out]); have HO4 := Lib.hid ho4; have HG4 := Lib.hid hg4; clear ho4 hg4)
      have hL1 : (R ++ [(⟨#[]⟩ : ByteArray)]).length = R.length + 1 := by simp
      refine bodyPost_ret (v := .tuple #[.agg #[.string L, .string M_, .string F, .slice (some ⟨g4, 0, none⟩) (R.length + 1) cap, .int .i64 keep], .slice V l.length cc]) ?_ rfl ⟨L, M_, F, R ++ [⟨#[]⟩], keep, some ⟨g4, 0, none⟩, cap, l, V, cc, B2, p1 + 1 + 1, by rw [hL1], by omega, ?_⟩
      · exact ret_pair rfl _ _ w.heap.size _ _ rfl rfl (load_sieve (box_five (by rw [heap_setCell_other _ _ _ _ (by simpa using hne2)]; exact HX4.out) _ _ _ _ _))
      · have hS := HS3.out
        have hS4 : SvM 300 w w4 g (p1 + 1 + 1) n c A L M_ F (R ++ [⟨#[]⟩]) keep (some ⟨g4, 0, none⟩) cap l V cc B2 := by
          have hS' := (hS.alloc (.cells #[.string ⟨#[]⟩] 9)).mono (z' := 300) (by omega)
          refine ⟨hS'.szL, hS'.szM, hS'.szF, by rw [hL1]; omega, fun s hs => ?_, hS'.k1, hS'.k2, hS'.ks, hS'.kl, by rw [hL1]; exact HO4.out, ?_, hS'.apart, hS'.bl, Nat.le_trans hS'.b2 HG4.out.size, ?_, ?_⟩
          · rcases List.mem_append.mp hs with h | h
            · exact hS'.szS s h
            · rw [List.mem_singleton.mp h]; exact Nat.zero_le _
          · refine own_apart2 hS'.keys HG4.out fun k hk => ?_
            have h1 := (World.ownsRow.lt HOW.out k hk).1
            intro h2
            have h3 := hS'.apart k h2
            omega
          · exact own_row_below hS'.own HG4.out (by have := hS'.bl; omega) hS'.rd
          · exact grown_own hS'.grown hS'.own hS'.bl HG4.out
        exact (hS4.setBox HY4.out (by omega) hglt _ _).five (by rw [heap_setCell_other _ _ _ _ (by simpa using hne2)]; exact HX4.out) (Nat.le_refl _) hglt _ _ _ _ _
    · go_wp2_with fail
      go_at_call 70
      refine (pick _ g (p1 + 1 + 1) n c A 3 (HS3.out.alloc _).rd (by omega) (by omega)).mono ?_
      rintro e w4 ⟨u, rfl, hu0, hu1, hr4, hg4⟩
      obtain ⟨X, rfl⟩ := Int.eq_ofNat_of_zero_le hu0
      have hX : X < 3 := by omega
      obtain ⟨zz, hz1, hz2, fz, fz2⟩ := getI3 X hX
      have r1 : (0 : Int) ≤ (X : Int) := by omega
      have r2 : (X : Int) < 3 := by omega
      have hcl : w4.cell? ⟨w3.heap.size, X, none⟩ = some (.int .i64 zz) := lit_at hg4 (by omega) fz2
      have hsz4 := hg4.size
      rw [World.size_alloc] at hsz4
      have HS4 := Lib.hid ((HS3.out.alloc _).next hg4 hglt hr4)
      have HX4 := Lib.hid (show w4.heap[w.heap.size]? = some (.cells #[.string ⟨#[]⟩, .string ⟨#[]⟩, .string ⟨#[]⟩, .slice none 0 0, .int .i64 0] 27 (0, 0)) by rw [hg4.block _ (by simp; omega) (fun e => by injection e; omega)]; exact box_al HX3.out _)
      have HY4 := Lib.hid (show w4.heap[w1.heap.size]? = some (.cells #[.string L, .string M_, .string F, .slice A2 R.length c2, .int .i64 keep] 27 (0, 0)) by rw [hg4.block _ (by simp; omega) (fun e => by injection e; omega)]; exact box_al HY3.out _)
      clear hr4 hg4 hu0 hu1 fz fz2
      have q40 : w4.cell? ⟨w.heap.size, 0, none⟩ = some (.string ⟨#[]⟩) := by rw [cell_of_row _ _ _ _ _ _ HX4.out]; rfl
      have q4z0 : w4.frozen? ⟨w.heap.size, 0, none⟩ = false := by rw [frozen_of_row _ _ _ _ _ HX4.out]
      have q41 : w4.cell? ⟨w.heap.size, 1, none⟩ = some (.string ⟨#[]⟩) := by rw [cell_of_row _ _ _ _ _ _ HX4.out]; rfl
      have q4z1 : w4.frozen? ⟨w.heap.size, 1, none⟩ = false := by rw [frozen_of_row _ _ _ _ _ HX4.out]
      have q42 : w4.cell? ⟨w.heap.size, 2, none⟩ = some (.string ⟨#[]⟩) := by rw [cell_of_row _ _ _ _ _ _ HX4.out]; rfl
      have q4z2 : w4.frozen? ⟨w.heap.size, 2, none⟩ = false := by rw [frozen_of_row _ _ _ _ _ HX4.out]
      have q43 : w4.cell? ⟨w.heap.size, 3, none⟩ = some (.slice none 0 0) := by rw [cell_of_row _ _ _ _ _ _ HX4.out]; rfl
      have q4z3 : w4.frozen? ⟨w.heap.size, 3, none⟩ = false := by rw [frozen_of_row _ _ _ _ _ HX4.out]
      have q44 : w4.cell? ⟨w.heap.size, 4, none⟩ = some (.int .i64 0) := by rw [cell_of_row _ _ _ _ _ _ HX4.out]; rfl
      have q4z4 : w4.frozen? ⟨w.heap.size, 4, none⟩ = false := by rw [frozen_of_row _ _ _ _ _ HX4.out]
      have a40 : w4.cell? ⟨w1.heap.size, 0, none⟩ = some (.string L) := by rw [cell_of_row _ _ _ _ _ _ HY4.out]; rfl
      have a4z0 : w4.frozen? ⟨w1.heap.size, 0, none⟩ = false := by rw [frozen_of_row _ _ _ _ _ HY4.out]
      have a41 : w4.cell? ⟨w1.heap.size, 1, none⟩ = some (.string M_) := by rw [cell_of_row _ _ _ _ _ _ HY4.out]; rfl
      have a4z1 : w4.frozen? ⟨w1.heap.size, 1, none⟩ = false := by rw [frozen_of_row _ _ _ _ _ HY4.out]
      have a42 : w4.cell? ⟨w1.heap.size, 2, none⟩ = some (.string F) := by rw [cell_of_row _ _ _ _ _ _ HY4.out]; rfl
      have a4z2 : w4.frozen? ⟨w1.heap.size, 2, none⟩ = false := by rw [frozen_of_row _ _ _ _ _ HY4.out]
      have a43 : w4.cell? ⟨w1.heap.size, 3, none⟩ = some (.slice A2 R.length c2) := by rw [cell_of_row _ _ _ _ _ _ HY4.out]; rfl
      have a4z3 : w4.frozen? ⟨w1.heap.size, 3, none⟩ = false := by rw [frozen_of_row _ _ _ _ _ HY4.out]
      have a44 : w4.cell? ⟨w1.heap.size, 4, none⟩ = some (.int .i64 keep) := by rw [cell_of_row _ _ _ _ _ _ HY4.out]; rfl
      have a4z4 : w4.frozen? ⟨w1.heap.size, 4, none⟩ = false := by rw [frozen_of_row _ _ _ _ _ HY4.out]
      go_wp2
      refine bodyPost_ret (v := .tuple #[.agg #[.string L, .string M_, .string F, .slice A2 R.length c2, .int .i64 zz], .slice V l.length cc]) ?_ rfl ⟨L, M_, F, R, zz, A2, c2, l, V, cc, B2, p1 + 1 + 1 + 1, rfl, by omega, ?_⟩
      · exact ret_pair rfl _ _ w.heap.size _ _ rfl rfl (load_sieve (box_five (by rw [heap_setCell_other _ _ _ _ (by simpa using hne2)]; exact HX4.out) _ _ _ _ _))
      · have hS := HS4.out
        exact SvM.upd (((hS.setBox HY4.out (by omega) hglt _ _).five (by rw [heap_setCell_other _ _ _ _ (by simpa using hne2)]; exact HX4.out) (Nat.le_refl _) hglt _ _ _ _ _).mono (by omega)) (by omega) (by omega) (by omega) hz1 hz2
    · go_upto_region 19 with fail
      have y5 := box_five HY3.out (.string ⟨#[97, 98]⟩) (.string ⟨#[49, 49]⟩) (.string ⟨#[49, 49]⟩) (.slice none 0 0) (.int .i64 1)
      have x5 := (far_five (w := w3) (x0 := .string ⟨#[97, 98]⟩) (x1 := .string ⟨#[49, 49]⟩) (x2 := .string ⟨#[49, 49]⟩) (x3 := .slice none 0 0) (x4 := .int .i64 1) hne2).trans HX3.out
      have s5 := SvM.upd (L' := ⟨#[97, 98]⟩) (M' := ⟨#[49, 49]⟩) (F' := ⟨#[49, 49]⟩) (keep' := 1) (((HS3.out.five HY3.out (by omega) hglt (.string ⟨#[97, 98]⟩) (.string ⟨#[49, 49]⟩) (.string ⟨#[49, 49]⟩) (.slice none 0 0) (.int .i64 1)).mono (z' := 300) (by omega)).rests (R' := []) (A' := none) (c' := 0) (by simp) (fun s hs => by cases hs) (Own.none_ _ _)) (by show 2 ≤ 300; omega) (by show 2 ≤ 300; omega) (by show 2 ≤ 300; omega) (by omega) (by omega)
      generalize (((((w3.setCell ⟨w1.heap.size, 0, none⟩ (.string ⟨#[97, 98]⟩)).setCell ⟨w1.heap.size, 1, none⟩ (.string ⟨#[49, 49]⟩)).setCell ⟨w1.heap.size, 2, none⟩ (.string ⟨#[49, 49]⟩)).setCell ⟨w1.heap.size, 3, none⟩ (.slice none 0 0)).setCell ⟨w1.heap.size, 4, none⟩ (.int .i64 1)) = w5 at y5 x5 s5 ⊢
      have HX5 := Lib.hid x5
      have HY5 := Lib.hid y5
      have HS5 := Lib.hid s5
      clear x5 y5 s5
      have q50 : w5.cell? ⟨w.heap.size, 0, none⟩ = some (.string ⟨#[]⟩) := by rw [cell_of_row _ _ _ _ _ _ HX5.out]; rfl
      have q5z0 : w5.frozen? ⟨w.heap.size, 0, none⟩ = false := by rw [frozen_of_row _ _ _ _ _ HX5.out]
      have q51 : w5.cell? ⟨w.heap.size, 1, none⟩ = some (.string ⟨#[]⟩) := by rw [cell_of_row _ _ _ _ _ _ HX5.out]; rfl
      have q5z1 : w5.frozen? ⟨w.heap.size, 1, none⟩ = false := by rw [frozen_of_row _ _ _ _ _ HX5.out]
      have q52 : w5.cell? ⟨w.heap.size, 2, none⟩ = some (.string ⟨#[]⟩) := by rw [cell_of_row _ _ _ _ _ _ HX5.out]; rfl
      have q5z2 : w5.frozen? ⟨w.heap.size, 2, none⟩ = false := by rw [frozen_of_row _ _ _ _ _ HX5.out]
      have q53 : w5.cell? ⟨w.heap.size, 3, none⟩ = some (.slice none 0 0) := by rw [cell_of_row _ _ _ _ _ _ HX5.out]; rfl
      have q5z3 : w5.frozen? ⟨w.heap.size, 3, none⟩ = false := by rw [frozen_of_row _ _ _ _ _ HX5.out]
      have q54 : w5.cell? ⟨w.heap.size, 4, none⟩ = some (.int .i64 0) := by rw [cell_of_row _ _ _ _ _ _ HX5.out]; rfl
      have q5z4 : w5.frozen? ⟨w.heap.size, 4, none⟩ = false := by rw [frozen_of_row _ _ _ _ _ HX5.out]
      have a50 : w5.cell? ⟨w1.heap.size, 0, none⟩ = some (.string ⟨#[97, 98]⟩) := by rw [cell_of_row _ _ _ _ _ _ HY5.out]; rfl
      have a5z0 : w5.frozen? ⟨w1.heap.size, 0, none⟩ = false := by rw [frozen_of_row _ _ _ _ _ HY5.out]
      have a51 : w5.cell? ⟨w1.heap.size, 1, none⟩ = some (.string ⟨#[49, 49]⟩) := by rw [cell_of_row _ _ _ _ _ _ HY5.out]; rfl
      have a5z1 : w5.frozen? ⟨w1.heap.size, 1, none⟩ = false := by rw [frozen_of_row _ _ _ _ _ HY5.out]
      have a52 : w5.cell? ⟨w1.heap.size, 2, none⟩ = some (.string ⟨#[49, 49]⟩) := by rw [cell_of_row _ _ _ _ _ _ HY5.out]; rfl
      have a5z2 : w5.frozen? ⟨w1.heap.size, 2, none⟩ = false := by rw [frozen_of_row _ _ _ _ _ HY5.out]
      have a53 : w5.cell? ⟨w1.heap.size, 3, none⟩ = some (.slice none 0 0) := by rw [cell_of_row _ _ _ _ _ _ HY5.out]; rfl
      have a5z3 : w5.frozen? ⟨w1.heap.size, 3, none⟩ = false := by rw [frozen_of_row _ _ _ _ _ HY5.out]
      have a54 : w5.cell? ⟨w1.heap.size, 4, none⟩ = some (.int .i64 1) := by rw [cell_of_row _ _ _ _ _ _ HY5.out]; rfl
      have a5z4 : w5.frozen? ⟨w1.heap.size, 4, none⟩ = false := by rw [frozen_of_row _ _ _ _ _ HY5.out]
      go_wp2
      refine bodyPost_ret (v := .tuple #[.agg #[.string ⟨#[97, 98]⟩, .string ⟨#[49, 49]⟩, .string ⟨#[49, 49]⟩, .slice none 0 0, .int .i64 1], .slice V l.length cc]) ?_ rfl ⟨⟨#[97, 98]⟩, ⟨#[49, 49]⟩, ⟨#[49, 49]⟩, [], 1, none, 0, l, V, cc, B2, p1 + 1 + 1, rfl, by omega, ?_⟩
      · exact ret_pair rfl _ _ w.heap.size _ _ rfl rfl (load_sieve (box_five HX5.out _ _ _ _ _))
      · exact HS5.out.five HX5.out (Nat.le_refl _) hglt _ _ _ _ _
    · by_cases h0 : R.length = 0
      · obtain rfl : R = [] := List.eq_nil_of_length_eq_zero h0
        clear h0
        go_wp2
        refine bodyPost_ret (v := .tuple #[.agg #[.string L, .string M_, .string F, .slice A2 0 c2, .int .i64 keep], .slice V l.length cc]) ?_ rfl ⟨L, M_, F, [], keep, A2, c2, l, V, cc, B2, p1 + 1 + 1, rfl, by omega, ?_⟩
        · exact ret_pair rfl _ _ w.heap.size _ _ rfl rfl (load_sieve (box_five HX3.out _ _ _ _ _))
        · exact (HS3.out.five HX3.out (Nat.le_refl _) hglt _ _ _ _ _).mono (by omega)
      · have hpos : 0 < R.length := by omega
        have h0' : (0 : Int) < (R.length : Int) := by omega
        obtain ⟨gr, hA⟩ : ∃ gr, A2 = some ⟨gr, 0, none⟩ := by
          rcases HS3.out.own.2 with ⟨hv, hz⟩ | ⟨gr, cap, cur, hv, -⟩
          · omega
          · injection hv with e; exact ⟨gr, e⟩
        subst hA
        have hr0 := HS3.out.own.get 0 hpos
        have hrz := HS3.out.own.free 0
        have hn1 : ¬ w1.heap.size = gr := fun e => own_ne_box HS3.out.own HY3.out gr rfl e.symm
        have hn3 : ¬ gr = w1.heap.size := fun e => hn1 e.symm
        have hn2 : ¬ w.heap.size = gr := fun e => own_ne_box HS3.out.own HX3.out gr rfl e.symm
        have hr6 : (R[0]).size ≤ 144 := HS3.out.szS _ (List.getElem_mem hpos)
        obtain ⟨r0, hr0e⟩ : ∃ r0, r0 = R[0] := ⟨_, rfl⟩
        rw [← hr0e] at hr0 hr6
        have HR0 := Lib.hid hr0e
        clear hr0e
        go_upto_region 6 with fail
        have hbig : ¬ 9223372036854775807 < r0.size + 4 := by omega
        go_still_tail 8, (by kernel_rfl)
        change wpList _ _ _ _ _ w3.drew
        have q60 : w3.drew.cell? ⟨w.heap.size, 0, none⟩ = some (.string ⟨#[]⟩) := by rw [cell_of_row _ _ _ _ _ _ (show w3.drew.heap[w.heap.size]? = _ from HX3.out)]; rfl
        have q6z0 : w3.drew.frozen? ⟨w.heap.size, 0, none⟩ = false := by rw [frozen_of_row _ _ _ _ _ (show w3.drew.heap[w.heap.size]? = _ from HX3.out)]
        have q61 : w3.drew.cell? ⟨w.heap.size, 1, none⟩ = some (.string ⟨#[]⟩) := by rw [cell_of_row _ _ _ _ _ _ (show w3.drew.heap[w.heap.size]? = _ from HX3.out)]; rfl
        have q6z1 : w3.drew.frozen? ⟨w.heap.size, 1, none⟩ = false := by rw [frozen_of_row _ _ _ _ _ (show w3.drew.heap[w.heap.size]? = _ from HX3.out)]
        have q62 : w3.drew.cell? ⟨w.heap.size, 2, none⟩ = some (.string ⟨#[]⟩) := by rw [cell_of_row _ _ _ _ _ _ (show w3.drew.heap[w.heap.size]? = _ from HX3.out)]; rfl
        have q6z2 : w3.drew.frozen? ⟨w.heap.size, 2, none⟩ = false := by rw [frozen_of_row _ _ _ _ _ (show w3.drew.heap[w.heap.size]? = _ from HX3.out)]
        have q63 : w3.drew.cell? ⟨w.heap.size, 3, none⟩ = some (.slice none 0 0) := by rw [cell_of_row _ _ _ _ _ _ (show w3.drew.heap[w.heap.size]? = _ from HX3.out)]; rfl
        have q6z3 : w3.drew.frozen? ⟨w.heap.size, 3, none⟩ = false := by rw [frozen_of_row _ _ _ _ _ (show w3.drew.heap[w.heap.size]? = _ from HX3.out)]
        have q64 : w3.drew.cell? ⟨w.heap.size, 4, none⟩ = some (.int .i64 0) := by rw [cell_of_row _ _ _ _ _ _ (show w3.drew.heap[w.heap.size]? = _ from HX3.out)]; rfl
        have q6z4 : w3.drew.frozen? ⟨w.heap.size, 4, none⟩ = false := by rw [frozen_of_row _ _ _ _ _ (show w3.drew.heap[w.heap.size]? = _ from HX3.out)]
        have a60 : w3.drew.cell? ⟨w1.heap.size, 0, none⟩ = some (.string L) := by rw [cell_of_row _ _ _ _ _ _ (show w3.drew.heap[w1.heap.size]? = _ from HY3.out)]; rfl
        have a6z0 : w3.drew.frozen? ⟨w1.heap.size, 0, none⟩ = false := by rw [frozen_of_row _ _ _ _ _ (show w3.drew.heap[w1.heap.size]? = _ from HY3.out)]
        have a61 : w3.drew.cell? ⟨w1.heap.size, 1, none⟩ = some (.string M_) := by rw [cell_of_row _ _ _ _ _ _ (show w3.drew.heap[w1.heap.size]? = _ from HY3.out)]; rfl
        have a6z1 : w3.drew.frozen? ⟨w1.heap.size, 1, none⟩ = false := by rw [frozen_of_row _ _ _ _ _ (show w3.drew.heap[w1.heap.size]? = _ from HY3.out)]
        have a62 : w3.drew.cell? ⟨w1.heap.size, 2, none⟩ = some (.string F) := by rw [cell_of_row _ _ _ _ _ _ (show w3.drew.heap[w1.heap.size]? = _ from HY3.out)]; rfl
        have a6z2 : w3.drew.frozen? ⟨w1.heap.size, 2, none⟩ = false := by rw [frozen_of_row _ _ _ _ _ (show w3.drew.heap[w1.heap.size]? = _ from HY3.out)]
        have a63 : w3.drew.cell? ⟨w1.heap.size, 3, none⟩ = some (.slice (some ⟨gr, 0, none⟩) R.length c2) := by rw [cell_of_row _ _ _ _ _ _ (show w3.drew.heap[w1.heap.size]? = _ from HY3.out)]; rfl
        have a6z3 : w3.drew.frozen? ⟨w1.heap.size, 3, none⟩ = false := by rw [frozen_of_row _ _ _ _ _ (show w3.drew.heap[w1.heap.size]? = _ from HY3.out)]
        have a64 : w3.drew.cell? ⟨w1.heap.size, 4, none⟩ = some (.int .i64 keep) := by rw [cell_of_row _ _ _ _ _ _ (show w3.drew.heap[w1.heap.size]? = _ from HY3.out)]; rfl
        have a6z4 : w3.drew.frozen? ⟨w1.heap.size, 4, none⟩ = false := by rw [frozen_of_row _ _ _ _ _ (show w3.drew.heap[w1.heap.size]? = _ from HY3.out)]
        clear q0 qz0 q1 qz1 q2 qz2 q3 qz3 q4 qz4 a0 az0 a1 az1 a2 az2 a3 az3 a4 az4
        have hr0d : w3.drew.cell? ⟨gr, 0, none⟩ = some (.string r0) := hr0
        have hrzd : w3.drew.frozen? ⟨gr, 0, none⟩ = false := hrz
        clear hr0 hrz
        go_upto_region 19 with fail
        have y5 : (w3.setCell ⟨gr, 0, none⟩ (.string (r0 ++ ⟨#[97, 97, 97, 97]⟩))).drew.heap[w1.heap.size]? = some (.cells #[.string L, .string M_, .string F, .slice (some ⟨gr, 0, none⟩) R.length c2, .int .i64 keep] 27 (0, 0)) := (heap_setCell_other w3 _ _ _ (by simpa using hn1)).trans HY3.out
        have x5 : (w3.setCell ⟨gr, 0, none⟩ (.string (r0 ++ ⟨#[97, 97, 97, 97]⟩))).drew.heap[w.heap.size]? = some (.cells #[.string ⟨#[]⟩, .string ⟨#[]⟩, .string ⟨#[]⟩, .slice none 0 0, .int .i64 0] 27 (0, 0)) := (heap_setCell_other w3 _ _ _ (by simpa using hn2)).trans HX3.out
        have s5 : SvM 300 w (w3.setCell ⟨gr, 0, none⟩ (.string (r0 ++ ⟨#[97, 97, 97, 97]⟩))).drew g (p1 + 1 + 1) n c A L M_ F (R.set 0 (r0 ++ ⟨#[97, 97, 97, 97]⟩)) keep (some ⟨gr, 0, none⟩) c2 l V cc B2 := by
          have hS' := HS3.out.mono (z' := 300) (by omega)
          have hgr := (World.ownsRow.lt hS'.own gr rfl)
          refine ⟨hS'.szL, hS'.szM, hS'.szF, by rw [List.length_set]; exact hS'.szR, fun s hs => ?_, hS'.k1, hS'.k2, hS'.ks, hS'.kl, ?_, ?_, hS'.apart, hS'.bl, by simpa [World.setCell, World.drew] using hS'.b2, ?_, ?_⟩
          · rcases List.mem_or_eq_of_mem_set hs with h | h
            · exact hS'.szS s h
            · rw [h, ByteArray.size_append]; show r0.size + 4 ≤ 300; omega
          · rw [List.length_set]; exact own_drew (hS'.own.set 0 _)
          · exact own_drew (own_setNe hS'.keys _ _ _ (fun k hk e => by have := hS'.apart k hk; omega))
          · exact (hS'.rd.setFar _ _ _ (by have := hS'.bl; omega)).drew
          · exact grown_drew (grown_setNew hS'.grown _ _ _ (by have := hS'.bl; omega))
        generalize (w3.setCell ⟨gr, 0, none⟩ (.string (r0 ++ ⟨#[97, 97, 97, 97]⟩))).drew = w5 at y5 x5 s5 ⊢
        have HX5 := Lib.hid x5
        have HY5 := Lib.hid y5
        have HS5 := Lib.hid s5
        clear x5 y5 s5
        have q50 : w5.cell? ⟨w.heap.size, 0, none⟩ = some (.string ⟨#[]⟩) := by rw [cell_of_row _ _ _ _ _ _ HX5.out]; rfl
        have q5z0 : w5.frozen? ⟨w.heap.size, 0, none⟩ = false := by rw [frozen_of_row _ _ _ _ _ HX5.out]
        have q51 : w5.cell? ⟨w.heap.size, 1, none⟩ = some (.string ⟨#[]⟩) := by rw [cell_of_row _ _ _ _ _ _ HX5.out]; rfl
        have q5z1 : w5.frozen? ⟨w.heap.size, 1, none⟩ = false := by rw [frozen_of_row _ _ _ _ _ HX5.out]
        have q52 : w5.cell? ⟨w.heap.size, 2, none⟩ = some (.string ⟨#[]⟩) := by rw [cell_of_row _ _ _ _ _ _ HX5.out]; rfl
        have q5z2 : w5.frozen? ⟨w.heap.size, 2, none⟩ = false := by rw [frozen_of_row _ _ _ _ _ HX5.out]
        have q53 : w5.cell? ⟨w.heap.size, 3, none⟩ = some (.slice none 0 0) := by rw [cell_of_row _ _ _ _ _ _ HX5.out]; rfl
        have q5z3 : w5.frozen? ⟨w.heap.size, 3, none⟩ = false := by rw [frozen_of_row _ _ _ _ _ HX5.out]
        have q54 : w5.cell? ⟨w.heap.size, 4, none⟩ = some (.int .i64 0) := by rw [cell_of_row _ _ _ _ _ _ HX5.out]; rfl
        have q5z4 : w5.frozen? ⟨w.heap.size, 4, none⟩ = false := by rw [frozen_of_row _ _ _ _ _ HX5.out]
        have a50 : w5.cell? ⟨w1.heap.size, 0, none⟩ = some (.string L) := by rw [cell_of_row _ _ _ _ _ _ HY5.out]; rfl
        have a5z0 : w5.frozen? ⟨w1.heap.size, 0, none⟩ = false := by rw [frozen_of_row _ _ _ _ _ HY5.out]
        have a51 : w5.cell? ⟨w1.heap.size, 1, none⟩ = some (.string M_) := by rw [cell_of_row _ _ _ _ _ _ HY5.out]; rfl
        have a5z1 : w5.frozen? ⟨w1.heap.size, 1, none⟩ = false := by rw [frozen_of_row _ _ _ _ _ HY5.out]
        have a52 : w5.cell? ⟨w1.heap.size, 2, none⟩ = some (.string F) := by rw [cell_of_row _ _ _ _ _ _ HY5.out]; rfl
        have a5z2 : w5.frozen? ⟨w1.heap.size, 2, none⟩ = false := by rw [frozen_of_row _ _ _ _ _ HY5.out]
        have a53 : w5.cell? ⟨w1.heap.size, 3, none⟩ = some (.slice (some ⟨gr, 0, none⟩) R.length c2) := by rw [cell_of_row _ _ _ _ _ _ HY5.out]; rfl
        have a5z3 : w5.frozen? ⟨w1.heap.size, 3, none⟩ = false := by rw [frozen_of_row _ _ _ _ _ HY5.out]
        have a54 : w5.cell? ⟨w1.heap.size, 4, none⟩ = some (.int .i64 keep) := by rw [cell_of_row _ _ _ _ _ _ HY5.out]; rfl
        have a5z4 : w5.frozen? ⟨w1.heap.size, 4, none⟩ = false := by rw [frozen_of_row _ _ _ _ _ HY5.out]
        go_wp2
        refine bodyPost_ret (v := .tuple #[.agg #[.string L, .string M_, .string F, .slice (some ⟨gr, 0, none⟩) R.length c2, .int .i64 keep], .slice V l.length cc]) ?_ rfl ⟨L, M_, F, R.set 0 (r0 ++ ⟨#[97, 97, 97, 97]⟩), keep, some ⟨gr, 0, none⟩, c2, l, V, cc, B2, p1 + 1 + 1, by rw [List.length_set], by omega, ?_⟩
        · exact ret_pair rfl _ _ w.heap.size _ _ rfl rfl (load_sieve (box_five HX5.out _ _ _ _ _))
        · exact HS5.out.five HX5.out (Nat.le_refl _) hglt _ _ _ _ _

end Go.Proofs.Ytakadkhgcjndmaa.W
