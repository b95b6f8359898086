/-
  The contract of the function that draws a filter and its keys.
-/
import Derived.Test.YtakadkhgcjndmaaDS2
import Derived.Test.YtakadkhgcjndmaaL2
import Derived.Test.YtakadkhgcjndmaaY1
import Derived.Test.YtakadkhgcjndmaaY2
namespace Go.Proofs.Ytakadkhgcjndmaa.W
open Go.RowKit K

/-- a filter of these fields in memory: its rests lie behind B2, its keys ahead of it -/
structure SvM (z : Nat) (w w' : World) (g p' n c : Nat) (A : Option Addr) (L M_ F : ByteArray) (R : List ByteArray) (keep : Int) (A2 : Option Addr) (c2 : Nat) (l : List ByteArray) (V : Option Addr) (cc : Nat) (B2 : Nat) : Prop where
  szL : L.size ≤ z
  szM : M_.size ≤ z
  szF : F.size ≤ z
  szR : R.length ≤ z
  szS : ∀ s ∈ R, s.size ≤ z
  k1 : -1 ≤ keep
  k2 : keep ≤ 6
  ks : allK l
  kl : l.length ≤ 12
  own : Own w' B2 (.slice A2 R.length c2) R
  keys : Own w' w.heap.size (.slice V l.length cc) l
  apart : ∀ k, (Value.slice V l.length cc).ownBlock = some k → k < B2
  bl : w.heap.size ≤ B2
  b2 : B2 ≤ w'.heap.size
  rd : Rd w' g p' A n c
  grown : w.grownBy w' (some g)
/-- a filter and its keys are drawn -/
def SvD (z d g p n c : Nat) (A : Option Addr) (w : World) (e : Ending) (w' : World) : Prop :=
  ∃ (L M_ F : ByteArray) (R : List ByteArray) (keep : Int) (A2 : Option Addr) (c2 : Nat) (l : List ByteArray) (V : Option Addr) (cc B2 p' : Nat),
    e = .returned (.tuple #[.agg #[.string L, .string M_, .string F, .slice A2 R.length c2, .int .i64 keep], .slice V l.length cc]) ∧ p' ≤ p + d ∧ SvM z w w' g p' n c A L M_ F R keep A2 c2 l V cc B2

theorem box_al {w : World} {b : Nat} {o' : Obj} (h : w.heap[b]? = some o') (o : Obj) : (w.alloc o).heap[b]? = some o' := by
  rw [Below.heap_alloc _ _ _ (Array.getElem?_eq_some_iff.1 h).1]; exact h
theorem Rd.setFar {w : World} {g p n c : Nat} {A : Option Addr} (h : Rd w g p A n c) (b o : Nat) (x : Value) (hb : g < b) : Rd (w.setCell ⟨b, o, none⟩ x) g p A n c :=
  h.grown (r := some b) ⟨rfl, rfl, rfl, by simp [World.setCell], fun k _ hk => heap_setCell_other _ _ _ _ (fun e => hk (by rw [e]))⟩ (fun k hk => by injection hk; omega)
theorem grown_setNew {w w' : World} {g : Nat} (h : w.grownBy w' (some g)) (b o : Nat) (x : Value) (hb : w.heap.size ≤ b) : w.grownBy (w'.setCell ⟨b, o, none⟩ x) (some g) :=
  ⟨h.os, h.tape, h.output, by simpa [World.setCell] using h.size, fun k hk hn => (heap_setCell_other _ _ _ _ (by show k ≠ b; omega)).trans (h.block k hk hn)⟩

set_option maxHeartbeats 2000000 in
theorem sieveD (w : World) (g p n c : Nat) (A : Option Addr) (hr : Rd w g p A n c) (hp : p ≤ 700000) :
    Calls Try.prog 123 #[.pointer (some ⟨g, 0, none⟩)] w (SvD 144 2200 g p n c A w) := by
  have hglt : g < w.heap.size := (Array.getElem?_eq_some_iff.1 hr.blk).1
  obtain ⟨W0, hW0⟩ : ∃ W0, W0 = w.alloc (.cells #[.string ⟨#[]⟩, .string ⟨#[]⟩, .string ⟨#[]⟩, .slice none 0 0, .int .i64 0] 27) := ⟨_, rfl⟩
  have hs0 : W0.heap.size = w.heap.size + 1 := by rw [hW0]; simp
  have hx0 : W0.heap[w.heap.size]? = some (.cells #[.string ⟨#[]⟩, .string ⟨#[]⟩, .string ⟨#[]⟩, .slice none 0 0, .int .i64 0] 27 (0, 0)) := by rw [hW0]; exact heap_alloc_new _ _
  have HX0 := Lib.hid hx0
  have HK := Lib.hid (keysK W0 g p n c 12 A (by rw [hW0]; exact hr.alloc _) (by omega) (by omega))
  have HG0 := Lib.hid (show w.grownBy W0 (some g) by rw [hW0]; exact World.grownBy_alloc _ _ _)
  rw [hW0] at HK
  have HW0 := Lib.hid hW0
  clear hr hx0 hW0
  go_enter Try.func123, Try.ntmps123
  go_wp2_with fail
  go_at_call 69
  refine HK.out.mono ?_
  rw [← HW0.out]
  rintro e w1 ⟨v1, l, p1, hl, hak, hp1, rfl, ho1, hr1, hg1⟩
  have HO1 := Lib.hid ho1
  have HR1 := Lib.hid hr1
  have HG1 := Lib.hid (HG0.out.trans hg1)
  have HAK := Lib.hid hak
  have hsz1 := hg1.size
  have HX1 := Lib.hid (show w1.heap[w.heap.size]? = some (.cells #[.string ⟨#[]⟩, .string ⟨#[]⟩, .string ⟨#[]⟩, .slice none 0 0, .int .i64 0] 27 (0, 0)) by rw [hg1.block _ (by omega) (fun e => by injection e; omega)]; exact HX0.out)
  obtain ⟨V, cc, hv, hcc, hcm, hst1⟩ := ho1.parts
  subst hv
  clear ho1 hr1 hg1 hak hst1
  go_wp2_with fail
  go_at_call 70
  refine (pick _ g p1 n c A 6 (HR1.out.alloc _) (by omega) (by omega)).mono ?_
  rintro e w2 ⟨x, rfl, hx0, hx1, hr2, hg2⟩
  obtain ⟨X, rfl⟩ := Int.eq_ofNat_of_zero_le hx0
  have hX : X < 6 := by omega
  obtain ⟨z, hz1, hz2, fz, fz2⟩ := getI6 X hX
  have r1 : (0 : Int) ≤ (X : Int) := by omega
  have r2 : (X : Int) < 6 := by omega
  have hcl : w2.cell? ⟨w1.heap.size, X, none⟩ = some (.int .i64 z) := lit_at hg2 (by omega) fz2
  have hsz2 := hg2.size
  have hsz2' : w1.heap.size < w2.heap.size := by simp at hsz2; omega
  have HO2 := Lib.hid ((HO1.out.alloc (.cells #[.int .i64 0, .int .i64 0, .int .i64 1, .int .i64 1, .int .i64 2, .int .i64 5] 3)).grown hg2 (by omega))
  have HR2 := Lib.hid hr2
  have HG2 := Lib.hid (HG1.out.trans ((World.grownBy_alloc _ _ _).trans hg2))
  have HX2 := Lib.hid (show w2.heap[w.heap.size]? = some (.cells #[.string ⟨#[]⟩, .string ⟨#[]⟩, .string ⟨#[]⟩, .slice none 0 0, .int .i64 0] 27 (0, 0)) by rw [hg2.block _ (by simp; omega) (fun e => by injection e; omega), Below.heap_alloc _ _ _ (by omega)]; exact HX1.out)
  clear hr2 hg2 hx0 hx1 fz fz2
  obtain ⟨hst2, hcc2, hcm2⟩ := HO2.out.strs
  have HOF := Lib.hid ((ofS w2 l.length cc V l z hst2 hcc2 hcm2 HAK.out.short.fit).mono fun _ _ h => of_fields h)
  have hsm := sv_small l z
  have hRl := svR_len l z
  obtain ⟨L, hL⟩ : ∃ x, x = svL l z := ⟨_, rfl⟩
  obtain ⟨M_, hM⟩ : ∃ x, x = svM l z := ⟨_, rfl⟩
  obtain ⟨F, hF⟩ : ∃ x, x = svF l z := ⟨_, rfl⟩
  obtain ⟨R, hR⟩ : ∃ x, x = svR l z := ⟨_, rfl⟩
  obtain ⟨K0, hK⟩ : ∃ x, x = svK l z := ⟨_, rfl⟩
  obtain ⟨b, hb⟩ : ∃ x, x = svYes l z := ⟨_, rfl⟩
  rw [← hL, ← hM, ← hF, ← hR, ← hK] at hsm
  rw [← hR] at hRl
  rw [← hL, ← hM, ← hF, ← hR, ← hK, ← hb] at HOF
  have HSM := Lib.hid hsm
  clear hst2 hL hM hF hR hK hb hsm
  go_wp2_with fail
  go_at_call 29
  refine HOF.out.mono ?_
  rintro e w3 ⟨A3, c3, rfl, ho3, hb3⟩
  have hsz3 := hb3.size
  have HO3 := Lib.hid ho3
  have HK3 := Lib.hid (HO2.out.below hb3)
  have HAP := Lib.hid (show ∀ k, (Value.slice V l.length cc).ownBlock = some k → k < w2.heap.size from fun k hk => (World.ownsRow.lt HO2.out k hk).2)
  have HR3 := Lib.hid (HR2.out.below hb3 (Array.getElem?_eq_some_iff.1 HR2.out.blk).1)
  have HG3 := Lib.hid (grown_below HG2.out hb3)
  have HX3 := Lib.hid (show w3.heap[w.heap.size]? = some (.cells #[.string ⟨#[]⟩, .string ⟨#[]⟩, .string ⟨#[]⟩, .slice none 0 0, .int .i64 0] 27 (0, 0)) by rw [hb3.block _ (by omega)]; exact HX2.out)
  have q0 : ∀ o, (w3.alloc o).cell? ⟨w.heap.size, 0, none⟩ = some (.string ⟨#[]⟩) := fun o => by rw [cell_of_row _ _ _ _ _ _ (box_al HX3.out o)]; rfl
  have qz0 : ∀ o, (w3.alloc o).frozen? ⟨w.heap.size, 0, none⟩ = false := fun o => by rw [frozen_of_row _ _ _ _ _ (box_al HX3.out o)]
  have q1 : ∀ o, (w3.alloc o).cell? ⟨w.heap.size, 1, none⟩ = some (.string ⟨#[]⟩) := fun o => by rw [cell_of_row _ _ _ _ _ _ (box_al HX3.out o)]; rfl
  have qz1 : ∀ o, (w3.alloc o).frozen? ⟨w.heap.size, 1, none⟩ = false := fun o => by rw [frozen_of_row _ _ _ _ _ (box_al HX3.out o)]
  have q2 : ∀ o, (w3.alloc o).cell? ⟨w.heap.size, 2, none⟩ = some (.string ⟨#[]⟩) := fun o => by rw [cell_of_row _ _ _ _ _ _ (box_al HX3.out o)]; rfl
  have qz2 : ∀ o, (w3.alloc o).frozen? ⟨w.heap.size, 2, none⟩ = false := fun o => by rw [frozen_of_row _ _ _ _ _ (box_al HX3.out o)]
  have q3 : ∀ o, (w3.alloc o).cell? ⟨w.heap.size, 3, none⟩ = some (.slice none 0 0) := fun o => by rw [cell_of_row _ _ _ _ _ _ (box_al HX3.out o)]; rfl
  have qz3 : ∀ o, (w3.alloc o).frozen? ⟨w.heap.size, 3, none⟩ = false := fun o => by rw [frozen_of_row _ _ _ _ _ (box_al HX3.out o)]
  have q4 : ∀ o, (w3.alloc o).cell? ⟨w.heap.size, 4, none⟩ = some (.int .i64 0) := fun o => by rw [cell_of_row _ _ _ _ _ _ (box_al HX3.out o)]; rfl
  have qz4 : ∀ o, (w3.alloc o).frozen? ⟨w.heap.size, 4, none⟩ = false := fun o => by rw [frozen_of_row _ _ _ _ _ (box_al HX3.out o)]
  clear ho3 hb3
  go_wp2
  refine bodyPost_ret (v := .tuple #[.agg #[.string L, .string M_, .string F, .slice A3 R.length c3, .int .i64 K0], .slice V l.length cc]) ?_ rfl ⟨L, M_, F, R, K0, A3, c3, l, V, cc, w2.heap.size, p1 + 1, rfl, by omega, ?_⟩
  · exact ret_pair rfl _ _ w.heap.size _ _ rfl rfl (load_sieve (box_five (box_al HX3.out _) _ _ _ _ _))
  · obtain ⟨a1, a2, a3, a4, a5, a6⟩ := HSM.out
    refine ⟨by omega, by omega, by omega, by omega, fun s hs => by have := a4 s hs; omega, a5, a6, HAK.out, hl, ?_, ?_, HAP.out, by omega, by simp; omega, ?_, ?_⟩
    · exact own_setFar (own_setFar (own_setFar (own_setFar (own_setFar (HO3.out.alloc _) _ _ _ (by omega)) _ _ _ (by omega)) _ _ _ (by omega)) _ _ _ (by omega)) _ _ _ (by omega)
    · exact (own_setFar (own_setFar (own_setFar (own_setFar (own_setFar (HK3.out.alloc _) _ _ _ (by omega)) _ _ _ (by omega)) _ _ _ (by omega)) _ _ _ (by omega)) _ _ _ (by omega)).base (by omega)
    · exact ((((((HR3.out.alloc _).setFar _ _ _ hglt).setFar _ _ _ hglt).setFar _ _ _ hglt).setFar _ _ _ hglt).setFar _ _ _ hglt)
    · exact grown_setNew (grown_setNew (grown_setNew (grown_setNew (grown_setNew (HG3.out.trans (World.grownBy_alloc _ _ _)) _ _ _ (Nat.le_refl _)) _ _ _ (Nat.le_refl _)) _ _ _ (Nat.le_refl _)) _ _ _ (Nat.le_refl _)) _ _ _ (Nat.le_refl _)

end Go.Proofs.Ytakadkhgcjndmaa.W
