/-
  A run is drawn, some spoilt: the model's l71Off.
-/
import Derived.Test.YtbckgmfopbpocaaDoorEN
namespace Go.Proofs.YtbckgmfopbpocaaDoor.W
open Go.RowKit K R

/-- entries are drawn, at most L of them with short keys, in a row of their own from block 'base' on; only the reader and new memory have turned -/
def OffD (L d base g p n c : Nat) (A : Option Addr) (w : World) (e : Ending) (w' : World) : Prop :=
  ∃ (v : Value) (l : List En) (p' : Nat), l.length ≤ L ∧ (∀ e ∈ l, e.key.size ≤ 6) ∧ p' ≤ p + d ∧ e = .returned v ∧ OwnE w' base v l ∧ Rd w' g p' A n c ∧ w.grownBy w' (some g)
theorem RunD.off {d base g p n c : Nat} {A : Option Addr} {w : World} {e : Ending} {w' : World} (h : RunD d base g p n c A w e w') : OffD 40 d base g p n c A w e w' := by
  obtain ⟨v, l, p', hr, rest⟩ := h
  exact ⟨v, l, p', run_len hr, fun e he => Nat.le_trans (run_key hr e he) (by omega), rest⟩
theorem row_rd {E : TypeId} {sz m : Nat} {w w' : World} {base g : Nat} {v : Value} {cs : List Value} (h : w.ownsRow base E sz v m cs) (hg : w.grownBy w' v.ownBlock) (hlt : g < base) {p n c : Nat} {A : Option Addr} (hr : Rd w g p A n c) : Rd w' g p A n c :=
  hr.grown hg fun k hk => by have := (World.ownsRow.lt h k hk).1; omega
theorem grown_rowE {E : TypeId} {sz m : Nat} {a w w' : World} {base g : Nat} {v : Value} {cs : List Value} (h : a.grownBy w (some g)) (ho : w.ownsRow base E sz v m cs) (hb : a.heap.size ≤ base) (hg : w.grownBy w' v.ownBlock) : a.grownBy w' (some g) :=
  ⟨hg.os.trans h.os, hg.tape.trans h.tape, hg.output.trans h.output, Nat.le_trans h.size hg.size, fun k hk hn => (hg.block k (Nat.lt_of_lt_of_le hk h.size) (fun e => by have := (World.ownsRow.lt ho k e.symm).1; omega)).trans (h.block k hk hn)⟩
theorem short_snoc {l : List En} {x : En} (h : ∀ e ∈ l, e.key.size ≤ 6) (hx : x.key.size ≤ 6) : ∀ e ∈ l ++ [x], e.key.size ≤ 6 := fun e he => by
  rcases List.mem_append.mp he with h1 | h1
  · exact h e h1
  · rw [List.mem_singleton.mp h1]; exact hx

set_option maxHeartbeats 4000000 in
set_option maxRecDepth 100000 in
theorem offDr (w : World) (g p n c : Nat) (A : Option Addr) (hr : Rd w g p A n c) (hp : p ≤ 600000) :
    Calls Tryd.prog 25 #[.pointer (some ⟨g, 0, none⟩)] w (OffD 41 9100 w.heap.size g p n c A w) := by
  have hglt : g < w.heap.size := (Array.getElem?_eq_some_iff.1 hr.blk).1
  have HR := Lib.hid hr
  clear hr
  go_enter Tryd.func25, Tryd.ntmps25
  go_wp2_with fail
  go_at_call 34
  refine Calls.mono (runDr w g p n c 10 A HR.out (by omega) (by omega)) ?_
  intro e w1 h1
  obtain ⟨v, l, p1, hll, hsh, hp1, rfl, ho1, hr1, hg1⟩ := h1.off
  have HSH := Lib.hid hsh
  have HO1 := Lib.hid ho1
  have HR1 := Lib.hid hr1
  have HG1 := Lib.hid hg1
  clear h1 hsh ho1 hr1 hg1 HR
  go_wp2_with fail
  go_at_call 24
  refine Calls.mono (pick w1 g p1 n c A 12 HR1.out (by omega) (by omega)) ?_
  rintro e w2 ⟨x, rfl, hx0, hx1, hr2, hg2⟩
  have HO2 := Lib.hid (rowGrown HO1.out hg2 hglt)
  have HR2 := Lib.hid hr2
  have HG2 := Lib.hid (HG1.out.trans hg2)
  clear hr2 hg2 HO1 HR1 HG1
  obtain ⟨X, rfl⟩ := Int.eq_ofNat_of_zero_le hx0
  by_cases hX : 0 < X
  · go_wp2
    go_ret
    exact ⟨_, l, p1 + 1, by omega, HSH.out, by omega, rfl, HO2.out, HR2.out, HG2.out⟩
  · have hX0 : X = 0 := by omega
    subst hX0
    go_wp2_with fail
    go_at_call 24
    refine Calls.mono (pick w2 g (p1 + 1) n c A 5 HR2.out (by omega) (by omega)) ?_
    rintro e w3 ⟨y, rfl, hy0, hy1, hr3, hg3⟩
    have HO3 := Lib.hid (rowGrown HO2.out hg3 hglt)
    have HR3 := Lib.hid hr3
    have HG3 := Lib.hid (HG2.out.trans hg3)
    have hs3 := HG3.out.size
    clear hr3 hg3 HO2 HR2 HG2
    obtain ⟨Y, rfl⟩ := Int.eq_ofNat_of_zero_le hy0
    by_cases hY0 : Y = 0
    · subst hY0
      have HOA := Lib.hid (show OwnE (w3.alloc (.cells #[.string ⟨#[]⟩, .int .i64 0, .bool false, .int .i64 1] 43)) w.heap.size v l from World.ownsRow.alloc HO3.out _)
      have HRA := Lib.hid (HR3.out.alloc (.cells #[.string ⟨#[]⟩, .int .i64 0, .bool false, .int .i64 1] 43))
      have HGA := Lib.hid (HG3.out.trans (World.grownBy_alloc w3 (.cells #[.string ⟨#[]⟩, .int .i64 0, .bool false, .int .i64 1] 43) (some g)))
      have hc0 : (w3.alloc (.cells #[.string ⟨#[]⟩, .int .i64 0, .bool false, .int .i64 1] 43)).cell? ⟨w3.heap.size, 0, none⟩ = some (.string ⟨#[]⟩) := by rw [cell_of_row _ _ _ _ _ _ (heap_alloc_new _ _)]; rfl
      have hc1 : (w3.alloc (.cells #[.string ⟨#[]⟩, .int .i64 0, .bool false, .int .i64 1] 43)).cell? ⟨w3.heap.size, 1, none⟩ = some (.int .i64 0) := by rw [cell_of_row _ _ _ _ _ _ (heap_alloc_new _ _)]; rfl
      have hc2 : (w3.alloc (.cells #[.string ⟨#[]⟩, .int .i64 0, .bool false, .int .i64 1] 43)).cell? ⟨w3.heap.size, 2, none⟩ = some (.bool false) := by rw [cell_of_row _ _ _ _ _ _ (heap_alloc_new _ _)]; rfl
      have hc3 : (w3.alloc (.cells #[.string ⟨#[]⟩, .int .i64 0, .bool false, .int .i64 1] 43)).cell? ⟨w3.heap.size, 3, none⟩ = some (.int .i64 1) := by rw [cell_of_row _ _ _ _ _ _ (heap_alloc_new _ _)]; rfl
      go_wp2_with (at_builtin; refine app_en rfl (.tmp 14) (.tmp 16) rfl (w3.alloc (.cells #[.string ⟨#[]⟩, .int .i64 0, .bool false, .int .i64 1] 43)) w.heap.size v l rfl HOA.out w3.heap.size 1 ⟨⟨#[]⟩, 0, false, 1⟩ rfl hc0 hc1 hc2 hc3 (by omega) (by simp; omega) ?_; intro vb wb ob gb; have OB := Lib.hid ob; have RB := Lib.hid (row_rd HOA.out gb hglt HRA.out); have GB := Lib.hid (grown_rowE HGA.out HOA.out (Nat.le_refl _) gb); clear ob gb)
      go_ret
      exact ⟨vb, l ++ [(⟨⟨#[]⟩, 0, false, 1⟩ : En)], p1 + 1 + 1, by rw [List.length_append, List.length_singleton]; omega, short_snoc HSH.out (Nat.le_of_ble_eq_true rfl), by omega, rfl, OB.out, RB.out, GB.out⟩
    have e0 : ((Y : Int) == 0) = false := by simp; omega
    by_cases hY1 : Y = 1
    · subst hY1
      have HOA := Lib.hid (show OwnE (w3.alloc (.cells #[.string ⟨#[100, 100, 100, 100, 100, 100]⟩, .int .i64 0, .bool false, .int .i64 1] 43)) w.heap.size v l from World.ownsRow.alloc HO3.out _)
      have HRA := Lib.hid (HR3.out.alloc (.cells #[.string ⟨#[100, 100, 100, 100, 100, 100]⟩, .int .i64 0, .bool false, .int .i64 1] 43))
      have HGA := Lib.hid (HG3.out.trans (World.grownBy_alloc w3 (.cells #[.string ⟨#[100, 100, 100, 100, 100, 100]⟩, .int .i64 0, .bool false, .int .i64 1] 43) (some g)))
      have hc0 : (w3.alloc (.cells #[.string ⟨#[100, 100, 100, 100, 100, 100]⟩, .int .i64 0, .bool false, .int .i64 1] 43)).cell? ⟨w3.heap.size, 0, none⟩ = some (.string ⟨#[100, 100, 100, 100, 100, 100]⟩) := by rw [cell_of_row _ _ _ _ _ _ (heap_alloc_new _ _)]; rfl
      have hc1 : (w3.alloc (.cells #[.string ⟨#[100, 100, 100, 100, 100, 100]⟩, .int .i64 0, .bool false, .int .i64 1] 43)).cell? ⟨w3.heap.size, 1, none⟩ = some (.int .i64 0) := by rw [cell_of_row _ _ _ _ _ _ (heap_alloc_new _ _)]; rfl
      have hc2 : (w3.alloc (.cells #[.string ⟨#[100, 100, 100, 100, 100, 100]⟩, .int .i64 0, .bool false, .int .i64 1] 43)).cell? ⟨w3.heap.size, 2, none⟩ = some (.bool false) := by rw [cell_of_row _ _ _ _ _ _ (heap_alloc_new _ _)]; rfl
      have hc3 : (w3.alloc (.cells #[.string ⟨#[100, 100, 100, 100, 100, 100]⟩, .int .i64 0, .bool false, .int .i64 1] 43)).cell? ⟨w3.heap.size, 3, none⟩ = some (.int .i64 1) := by rw [cell_of_row _ _ _ _ _ _ (heap_alloc_new _ _)]; rfl
      go_wp2_with (at_builtin; refine app_en rfl (.tmp 20) (.tmp 22) rfl (w3.alloc (.cells #[.string ⟨#[100, 100, 100, 100, 100, 100]⟩, .int .i64 0, .bool false, .int .i64 1] 43)) w.heap.size v l rfl HOA.out w3.heap.size 1 ⟨⟨#[100, 100, 100, 100, 100, 100]⟩, 0, false, 1⟩ rfl hc0 hc1 hc2 hc3 (by omega) (by simp; omega) ?_; intro vb wb ob gb; have OB := Lib.hid ob; have RB := Lib.hid (row_rd HOA.out gb hglt HRA.out); have GB := Lib.hid (grown_rowE HGA.out HOA.out (Nat.le_refl _) gb); clear ob gb)
      go_ret
      exact ⟨vb, l ++ [(⟨⟨#[100, 100, 100, 100, 100, 100]⟩, 0, false, 1⟩ : En)], p1 + 1 + 1, by rw [List.length_append, List.length_singleton]; omega, short_snoc HSH.out (Nat.le_of_ble_eq_true rfl), by omega, rfl, OB.out, RB.out, GB.out⟩
    have e1 : ((Y : Int) == 1) = false := by simp; omega
    by_cases hY2 : Y = 2
    · subst hY2
      have HOA := Lib.hid (show OwnE (w3.alloc (.cells #[.string ⟨#[100, 100, 100, 100, 100]⟩, .int .i64 100, .bool false, .int .i64 1] 43)) w.heap.size v l from World.ownsRow.alloc HO3.out _)
      have HRA := Lib.hid (HR3.out.alloc (.cells #[.string ⟨#[100, 100, 100, 100, 100]⟩, .int .i64 100, .bool false, .int .i64 1] 43))
      have HGA := Lib.hid (HG3.out.trans (World.grownBy_alloc w3 (.cells #[.string ⟨#[100, 100, 100, 100, 100]⟩, .int .i64 100, .bool false, .int .i64 1] 43) (some g)))
      have hc0 : (w3.alloc (.cells #[.string ⟨#[100, 100, 100, 100, 100]⟩, .int .i64 100, .bool false, .int .i64 1] 43)).cell? ⟨w3.heap.size, 0, none⟩ = some (.string ⟨#[100, 100, 100, 100, 100]⟩) := by rw [cell_of_row _ _ _ _ _ _ (heap_alloc_new _ _)]; rfl
      have hc1 : (w3.alloc (.cells #[.string ⟨#[100, 100, 100, 100, 100]⟩, .int .i64 100, .bool false, .int .i64 1] 43)).cell? ⟨w3.heap.size, 1, none⟩ = some (.int .i64 100) := by rw [cell_of_row _ _ _ _ _ _ (heap_alloc_new _ _)]; rfl
      have hc2 : (w3.alloc (.cells #[.string ⟨#[100, 100, 100, 100, 100]⟩, .int .i64 100, .bool false, .int .i64 1] 43)).cell? ⟨w3.heap.size, 2, none⟩ = some (.bool false) := by rw [cell_of_row _ _ _ _ _ _ (heap_alloc_new _ _)]; rfl
      have hc3 : (w3.alloc (.cells #[.string ⟨#[100, 100, 100, 100, 100]⟩, .int .i64 100, .bool false, .int .i64 1] 43)).cell? ⟨w3.heap.size, 3, none⟩ = some (.int .i64 1) := by rw [cell_of_row _ _ _ _ _ _ (heap_alloc_new _ _)]; rfl
      go_wp2_with (at_builtin; refine app_en rfl (.tmp 26) (.tmp 28) rfl (w3.alloc (.cells #[.string ⟨#[100, 100, 100, 100, 100]⟩, .int .i64 100, .bool false, .int .i64 1] 43)) w.heap.size v l rfl HOA.out w3.heap.size 1 ⟨⟨#[100, 100, 100, 100, 100]⟩, 100, false, 1⟩ rfl hc0 hc1 hc2 hc3 (by omega) (by simp; omega) ?_; intro vb wb ob gb; have OB := Lib.hid ob; have RB := Lib.hid (row_rd HOA.out gb hglt HRA.out); have GB := Lib.hid (grown_rowE HGA.out HOA.out (Nat.le_refl _) gb); clear ob gb)
      go_ret
      exact ⟨vb, l ++ [(⟨⟨#[100, 100, 100, 100, 100]⟩, 100, false, 1⟩ : En)], p1 + 1 + 1, by rw [List.length_append, List.length_singleton]; omega, short_snoc HSH.out (Nat.le_of_ble_eq_true rfl), by omega, rfl, OB.out, RB.out, GB.out⟩
    have e2 : ((Y : Int) == 2) = false := by simp; omega
    by_cases hY3 : Y = 3
    · subst hY3
      have HRL := Lib.hid (HR3.out.alloc (.cells #[.int .i64 0, .int .i64 1000] 3))
      go_wp2_with fail
      go_at_call 24
      refine Calls.mono (pick _ g (p1 + 1 + 1) n c A 2 HRL.out (by omega) (by omega)) ?_
      rintro e w4 ⟨z, rfl, hz0, hz1, hr4, hg4⟩
      obtain ⟨Z, rfl⟩ := Int.eq_ofNat_of_zero_le hz0
      have hblk : w4.heap[w3.heap.size]? = some (.cells #[.int .i64 0, .int .i64 1000] 3) := (hg4.block w3.heap.size (by simp) (fun e => by injection e; omega)).trans (heap_alloc_new w3 _)
      have HG4x := Lib.hid ((World.grownBy_alloc w3 (.cells #[.int .i64 0, .int .i64 1000] 3) (some g)).trans hg4)
      have HO4 := Lib.hid (rowGrown HO3.out HG4x.out hglt)
      have HR4 := Lib.hid hr4
      have HG4 := Lib.hid (HG3.out.trans HG4x.out)
      have hs4 := HG4.out.size
      obtain ⟨T, hT⟩ : ∃ T : Int, w4.cell? ⟨w3.heap.size, Z, none⟩ = some (.int .i64 T) := by
        rw [cell_of_row _ _ _ _ _ _ hblk]
        rcases (by omega : Z = 0 ∨ Z = 1) with rfl | rfl
        · exact ⟨0, rfl⟩
        · exact ⟨1000, rfl⟩
      have hZ0 : (0 : Int) ≤ (Z : Int) := by omega
      have hZ1 : (Z : Int) < 2 := by omega
      have hZ2 : Z < 2 := by omega
      clear hr4 hg4 HO3 HR3 HG3 HG4x hblk HRL
      have HOA := Lib.hid (show OwnE (w4.alloc (.cells #[.string ⟨#[100, 100, 100, 100, 100]⟩, .int .i64 0, .bool false, .int .i64 T] 43)) w.heap.size v l from World.ownsRow.alloc HO4.out _)
      have HRA := Lib.hid (HR4.out.alloc (.cells #[.string ⟨#[100, 100, 100, 100, 100]⟩, .int .i64 0, .bool false, .int .i64 T] 43))
      have HGA := Lib.hid (HG4.out.trans (World.grownBy_alloc w4 (.cells #[.string ⟨#[100, 100, 100, 100, 100]⟩, .int .i64 0, .bool false, .int .i64 T] 43) (some g)))
      have hc0 : (w4.alloc (.cells #[.string ⟨#[100, 100, 100, 100, 100]⟩, .int .i64 0, .bool false, .int .i64 T] 43)).cell? ⟨w4.heap.size, 0, none⟩ = some (.string ⟨#[100, 100, 100, 100, 100]⟩) := by rw [cell_of_row _ _ _ _ _ _ (heap_alloc_new _ _)]; rfl
      have hc1 : (w4.alloc (.cells #[.string ⟨#[100, 100, 100, 100, 100]⟩, .int .i64 0, .bool false, .int .i64 T] 43)).cell? ⟨w4.heap.size, 1, none⟩ = some (.int .i64 0) := by rw [cell_of_row _ _ _ _ _ _ (heap_alloc_new _ _)]; rfl
      have hc2 : (w4.alloc (.cells #[.string ⟨#[100, 100, 100, 100, 100]⟩, .int .i64 0, .bool false, .int .i64 T] 43)).cell? ⟨w4.heap.size, 2, none⟩ = some (.bool false) := by rw [cell_of_row _ _ _ _ _ _ (heap_alloc_new _ _)]; rfl
      have hc3 : (w4.alloc (.cells #[.string ⟨#[100, 100, 100, 100, 100]⟩, .int .i64 0, .bool false, .int .i64 T] 43)).cell? ⟨w4.heap.size, 3, none⟩ = some (.int .i64 T) := by rw [cell_of_row _ _ _ _ _ _ (heap_alloc_new _ _)]; rfl
      go_wp2_with (at_builtin; refine app_en rfl (.tmp 32) (.tmp 39) rfl (w4.alloc (.cells #[.string ⟨#[100, 100, 100, 100, 100]⟩, .int .i64 0, .bool false, .int .i64 T] 43)) w.heap.size v l rfl HOA.out w4.heap.size 1 ⟨⟨#[100, 100, 100, 100, 100]⟩, 0, false, T⟩ rfl hc0 hc1 hc2 hc3 (by omega) (by simp; omega) ?_; intro vb wb ob gb; have OB := Lib.hid ob; have RB := Lib.hid (row_rd HOA.out gb hglt HRA.out); have GB := Lib.hid (grown_rowE HGA.out HOA.out (Nat.le_refl _) gb); clear ob gb)
      go_ret
      exact ⟨vb, l ++ [(⟨⟨#[100, 100, 100, 100, 100]⟩, 0, false, T⟩ : En)], p1 + 1 + 1 + 1, by rw [List.length_append, List.length_singleton]; omega, short_snoc HSH.out (Nat.le_of_ble_eq_true rfl), by omega, rfl, OB.out, RB.out, GB.out⟩
    have e3 : ((Y : Int) == 3) = false := by simp; omega
    have HOA := Lib.hid (show OwnE (w3.alloc (.cells #[.string ⟨#[100, 100, 100, 100, 100]⟩, .int .i64 1, .bool true, .int .i64 1] 43)) w.heap.size v l from World.ownsRow.alloc HO3.out _)
    have HRA := Lib.hid (HR3.out.alloc (.cells #[.string ⟨#[100, 100, 100, 100, 100]⟩, .int .i64 1, .bool true, .int .i64 1] 43))
    have HGA := Lib.hid (HG3.out.trans (World.grownBy_alloc w3 (.cells #[.string ⟨#[100, 100, 100, 100, 100]⟩, .int .i64 1, .bool true, .int .i64 1] 43) (some g)))
    have hc0 : (w3.alloc (.cells #[.string ⟨#[100, 100, 100, 100, 100]⟩, .int .i64 1, .bool true, .int .i64 1] 43)).cell? ⟨w3.heap.size, 0, none⟩ = some (.string ⟨#[100, 100, 100, 100, 100]⟩) := by rw [cell_of_row _ _ _ _ _ _ (heap_alloc_new _ _)]; rfl
    have hc1 : (w3.alloc (.cells #[.string ⟨#[100, 100, 100, 100, 100]⟩, .int .i64 1, .bool true, .int .i64 1] 43)).cell? ⟨w3.heap.size, 1, none⟩ = some (.int .i64 1) := by rw [cell_of_row _ _ _ _ _ _ (heap_alloc_new _ _)]; rfl
    have hc2 : (w3.alloc (.cells #[.string ⟨#[100, 100, 100, 100, 100]⟩, .int .i64 1, .bool true, .int .i64 1] 43)).cell? ⟨w3.heap.size, 2, none⟩ = some (.bool true) := by rw [cell_of_row _ _ _ _ _ _ (heap_alloc_new _ _)]; rfl
    have hc3 : (w3.alloc (.cells #[.string ⟨#[100, 100, 100, 100, 100]⟩, .int .i64 1, .bool true, .int .i64 1] 43)).cell? ⟨w3.heap.size, 3, none⟩ = some (.int .i64 1) := by rw [cell_of_row _ _ _ _ _ _ (heap_alloc_new _ _)]; rfl
    go_wp2_with (at_builtin; refine app_en rfl (.tmp 41) (.tmp 43) rfl (w3.alloc (.cells #[.string ⟨#[100, 100, 100, 100, 100]⟩, .int .i64 1, .bool true, .int .i64 1] 43)) w.heap.size v l rfl HOA.out w3.heap.size 1 ⟨⟨#[100, 100, 100, 100, 100]⟩, 1, true, 1⟩ rfl hc0 hc1 hc2 hc3 (by omega) (by simp; omega) ?_; intro vb wb ob gb; have OB := Lib.hid ob; have RB := Lib.hid (row_rd HOA.out gb hglt HRA.out); have GB := Lib.hid (grown_rowE HGA.out HOA.out (Nat.le_refl _) gb); clear ob gb)
    go_ret
    exact ⟨vb, l ++ [(⟨⟨#[100, 100, 100, 100, 100]⟩, 1, true, 1⟩ : En)], p1 + 1 + 1, by rw [List.length_append, List.length_singleton]; omega, short_snoc HSH.out (Nat.le_of_ble_eq_true rfl), by omega, rfl, OB.out, RB.out, GB.out⟩

end Go.Proofs.YtbckgmfopbpocaaDoor.W
