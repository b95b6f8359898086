/-
  Contracts of the program's scanner: a rune is skipped, runes of a kind are taken.
-/
import Derived.Test.YtbckgmfopbpocaaDoorC1
import Derived.Test.YtbckgmfopbpocaaDoorB6
import Derived.BigQuiet
namespace Go.Proofs.YtbckgmfopbpocaaDoor.W
open Go.RowKit K R B

/-- the scanner at block g has these runes ahead of it -/
def Scan (w : World) (g : Nat) (l : List Int) : Prop :=
  ∃ b off c, w.heap[g]? = some (.cells #[.slice (some ⟨b, off, none⟩) l.length c] 76 (0, 0)) ∧ b < g ∧ l.length ≤ c ∧ c ≤ maxLen ∧ ∀ i (h : i < l.length), w.cell? ⟨b, off + i, none⟩ = some (.int .i32 l[i])
theorem Scan.below {w w' : World} {g B : Nat} {l : List Int} (h : Scan w g l) (hb : Below B w w') (hg : g < B) : Scan w' g l := by
  obtain ⟨b, off, c, h1, h2, h3, h4, h5⟩ := h
  exact ⟨b, off, c, (hb.block g hg).trans h1, h2, h3, h4, fun i hi => (hb.cell (p := ⟨b, off + i, none⟩) (by show b < B; omega)).trans (h5 i hi)⟩
theorem Scan.lt {w : World} {g : Nat} {l : List Int} (h : Scan w g l) : g < w.heap.size := by
  obtain ⟨b, off, c, h1, _⟩ := h
  exact (Array.getElem?_eq_some_iff.1 h1).1
/-- the rest of a slice -/
theorem scan_cut {w : World} {g b off c : Nat} {l : List Int} (k : Nat) (hk : k ≤ l.length) (h1 : w.heap[g]? = some (.cells #[.slice (some ⟨b, off, none⟩) l.length c] 76 (0, 0))) (h2 : b < g) (h3 : l.length ≤ c) (h4 : c ≤ maxLen) (h5 : ∀ i (h : i < l.length), w.cell? ⟨b, off + i, none⟩ = some (.int .i32 l[i])) :
    Scan (w.setCell ⟨g, 0, none⟩ (.slice (some ⟨b, off + k, none⟩) (l.length - k) (c - k))) g (l.drop k) := by
  have hs := heap_setCell_same w g 0 _ _ (.slice (some ⟨b, off + k, none⟩) (l.length - k) (c - k)) h1
  refine ⟨b, off + k, c - k, ?_, h2, by rw [List.length_drop]; omega, by omega, fun i hi => ?_⟩
  · rw [hs, List.length_drop]; simp
  · rw [List.length_drop] at hi
    rw [World.cell?_of_block (heap_setCell_other w ⟨g, 0, none⟩ _ _ (by show b ≠ g; omega)), List.getElem_drop]
    have := h5 (k + i) (by omega)
    rw [show off + (k + i) = off + k + i by omega] at this
    exact this
theorem scan_all {w : World} {g b off c : Nat} {l : List Int} (k : Nat) (hk : k = l.length) (h1 : w.heap[g]? = some (.cells #[.slice (some ⟨b, off, none⟩) l.length c] 76 (0, 0))) (h2 : b < g) :
    Scan (w.setCell ⟨g, 0, none⟩ (.slice (some ⟨b, off, none⟩) (l.length - k) 0)) g (l.drop k) := by
  have hs := heap_setCell_same w g 0 _ _ (.slice (some ⟨b, off, none⟩) (l.length - k) 0) h1
  refine ⟨b, off, 0, ?_, h2, by rw [List.length_drop]; omega, by unfold maxLen; omega, fun i hi => ?_⟩
  · rw [hs, List.length_drop]; simp
  · rw [List.length_drop] at hi; omega
theorem grown_put {a w : World} {g : Nat} (h : a.grownBy w (some g)) (i : Nat) (u : Value) : a.grownBy (w.setCell ⟨g, i, none⟩ u) (some g) :=
  ⟨h.os, h.tape, h.output, by simpa [World.setCell] using h.size, fun k hk hn => (heap_setCell_other _ _ _ _ (by show k ≠ g; intro e; exact hn (by rw [e]))).trans (h.block k hk hn)⟩
theorem grown_refl (w : World) (g : Nat) : w.grownBy w (some g) := ⟨rfl, rfl, rfl, Nat.le_refl _, fun _ _ _ => rfl⟩

set_option maxHeartbeats 2000000 in
set_option maxRecDepth 100000 in
/-- a rune is skipped, if it comes next -/
theorem skipI (w : World) (g : Nat) (l : List Int) (c : Int) (h : Scan w g l) :
    Calls Tryd.prog 52 #[.pointer (some ⟨g, 0, none⟩), .int .i32 c] w fun e w' => e = .returned (.bool (skipB c l)) ∧ Scan w' g (skipR c l) ∧ w.grownBy w' (some g) := by
  have HSC := Lib.hid h
  obtain ⟨b, off, cc, h1, h2, h3, h4, h5⟩ := h
  have c0 : w.cell? ⟨g, 0, none⟩ = some (.slice (some ⟨b, off, none⟩) l.length cc) := by rw [cell_of_row _ _ _ _ _ _ h1]; rfl
  have f0 := frozen_of_row _ _ 0 _ _ h1
  cases l with
  | nil =>
    clear h1 h5
    simp only [List.length_nil] at c0
    go_enter Tryd.func52, Tryd.ntmps52
    go_wp2
    go_ret
    exact ⟨rfl, HSC.out, grown_refl _ _⟩
  | cons x r =>
    have hx := h5 0 (by simp)
    simp only [Nat.add_zero, List.getElem_cons_zero] at hx
    have HC := Lib.hid (scan_cut 1 (by simp) h1 h2 h3 h4 h5)
    have HA := Lib.hid (show cc = 1 → _ from fun e => scan_all (c := cc) 1 (by rw [List.length_cons] at h3 ⊢; omega) h1 h2)
    simp only [List.length_cons, Nat.add_sub_cancel, List.drop_succ_cons, List.drop_zero] at HC HA c0 h3
    clear h1 h5
    have z0 : (0 : Int) ≤ (r.length : Int) + 1 := by omega
    have z1 : (1 : Int) ≤ (cc : Int) := by omega
    by_cases he : x = c
    · subst he
      have HB := Lib.hid (show skipB x (x :: r) = true by simp [skipB])
      have HR := Lib.hid (show skipR x (x :: r) = r by unfold skipR; rw [HB.out]; rfl)
      go_enter Tryd.func52, Tryd.ntmps52
      go_wp2
      · go_ret
        exact ⟨ret_bool HB.out.symm, by rw [HR.out]; exact HA.out (by assumption), grown_put (grown_refl _ _) _ _⟩
      · go_ret
        exact ⟨ret_bool HB.out.symm, by rw [HR.out]; exact HC.out, grown_put (grown_refl _ _) _ _⟩
    · have HB := Lib.hid (show skipB c (x :: r) = false by simp [skipB, he])
      have hne : (x != c) = true := by simp [he]
      have HR := Lib.hid (show skipR c (x :: r) = x :: r by unfold skipR; rw [HB.out]; rfl)
      go_enter Tryd.func52, Tryd.ntmps52
      go_wp2
      go_ret
      exact ⟨ret_bool HB.out.symm, by rw [HR.out]; exact HSC.out, grown_refl _ _⟩

theorem while_at {p : Int → Bool} {l : List Int} {k : Nat} (ha : ∀ x ∈ l.take k, p x = true) (he : ∀ h : k < l.length, p l[k] = false) : l.takeWhile p = l.take k ∧ l.dropWhile p = l.drop k := by
  have e : l = l.take k ++ l.drop k := (List.take_append_drop k l).symm
  have h1 : ∀ (a b : List Int), (∀ x ∈ a, p x = true) → (∀ x r, b = x :: r → p x = false) → (a ++ b).takeWhile p = a ∧ (a ++ b).dropWhile p = b := by
    intro a b ha hb
    induction a with
    | nil =>
      cases b with
      | nil => exact ⟨rfl, rfl⟩
      | cons x r => have := hb x r rfl; rw [List.nil_append, List.takeWhile_cons, List.dropWhile_cons, this]; exact ⟨rfl, rfl⟩
    | cons x r ih =>
      have hx := ha x (List.mem_cons_self ..)
      obtain ⟨i1, i2⟩ := ih (fun y hy => ha y (List.mem_cons_of_mem _ hy))
      rw [List.cons_append, List.takeWhile_cons, List.dropWhile_cons, hx]
      simp only [if_true]
      rw [i1, i2]; exact ⟨rfl, rfl⟩
  have h2 := h1 (l.take k) (l.drop k) ha (fun x r hx => by
    have hlt : k < l.length := by
      rcases Nat.lt_or_ge k l.length with h | h
      · exact h
      · rw [List.drop_eq_nil_of_le h] at hx; cases hx
    have h3 := he hlt
    rw [List.drop_eq_getElem_cons hlt] at hx
    injection hx with hx _
    rw [← hx]; exact h3)
  rw [← e] at h2
  exact h2
theorem take_more {p : Int → Bool} {l : List Int} {k : Nat} (h : k < l.length) (ha : ∀ x ∈ l.take k, p x = true) (hx : p l[k] = true) : ∀ x ∈ l.take (k + 1), p x = true := by
  rw [List.take_succ_eq_append_getElem h]
  intro x hm
  rcases List.mem_append.mp hm with hm | hm
  · exact ha x hm
  · rw [List.mem_singleton.mp hm]; exact hx
theorem letI_ (c : Int) (w : World) : Calls Tryd.prog 66 #[.int .i32 c] w fun e w' => e = .returned (.bool (letR c)) ∧ w = w' := by
  by_cases h1 : 97 ≤ c <;> by_cases h2 : c ≤ 100
  all_goals
    go_enter Tryd.func66, Tryd.ntmps66
    go_wp2
    go_ret
    exact ⟨ret_bool (by simp [letR, h1, h2]), rfl⟩
theorem digI_ (c : Int) (w : World) : Calls Tryd.prog 74 #[.int .i32 c] w fun e w' => e = .returned (.bool (digR c)) ∧ w = w' := by
  by_cases h1 : 48 ≤ c <;> by_cases h2 : c ≤ 57
  all_goals
    go_enter Tryd.func74, Tryd.ntmps74
    go_wp2
    go_ret
    exact ⟨ret_bool (by simp [digR, h1, h2]), rfl⟩

set_option maxHeartbeats 4000000 in
set_option maxRecDepth 100000 in
/-- runes of a kind are taken -/
theorem takeL (w : World) (g : Nat) (l : List Int) (h : Scan w g l) (hl : l.length ≤ 10000000) :
    Calls Tryd.prog 65 #[.pointer (some ⟨g, 0, none⟩), .func (.func 66) #[] #[]] w fun e w' => e = .returned (.string (strR (l.takeWhile letR))) ∧ Scan w' g (l.dropWhile letR) ∧ w.grownBy w' (some g) := by
  obtain ⟨b, off, cc, h1, h2, h3, h4, h5⟩ := h
  have c0 : w.cell? ⟨g, 0, none⟩ = some (.slice (some ⟨b, off, none⟩) l.length cc) := by rw [cell_of_row _ _ _ _ _ _ h1]; rfl
  have f0 := frozen_of_row _ _ 0 _ _ h1
  have H1 := Lib.hid h1
  have H5 := Lib.hid h5
  clear h1 h5
  unfold maxLen at h4
  go_enter Tryd.func65, Tryd.ntmps65
  go_wp2_with fail
  go_loop [5] (fun iv => ∃ k : Nat, k ≤ l.length ∧ iv = .int .i64 (k : Nat) ∧ Hid (∀ x ∈ l.take k, letR x = true)) (fun iv => l.length - (intOf iv).toNat)
  case atStart => exact ⟨0, Nat.zero_le _, rfl, Lib.hid (by simp)⟩
  case round =>
    obtain ⟨k, hk, rfl, HA⟩ := hrel
    have z0 : (0 : Int) ≤ (k : Int) := by omega
    have z2 : (k : Int) ≤ (l.length : Int) := by omega
    have z3 : (k : Int) ≤ (cc : Int) := by omega
    have HFIN := Lib.hid (show (∀ h : k < l.length, letR l[k] = false) → (l.takeWhile letR = l.take k ∧ l.dropWhile letR = l.drop k) from fun he => while_at HA.out he)
    have HCV := Lib.hid (show (∀ h : k < l.length, letR l[k] = false) → (convert 74 9 (.slice (some ⟨b, off, none⟩) k cc)).run Tryd.prog w = .ok (.string (strR (l.takeWhile letR))) w from fun he => by
      rw [run_convert_runes w 74 9 21 ⟨b, off, none⟩ k cc l hk Tryd.underlying74 Tryd.underlying21 Tryd.underlying9 (fun j hj => by
        have := H5.out j hj
        have hadd : (⟨b, off, none⟩ : Addr).add j = ⟨b, off + j, none⟩ := by
          unfold Addr.add
          split
          · rename_i h0; rw [h0]; rfl
          · rfl
        rw [hadd, this]
        simp [List.getD, hj])]
      rw [runes_small _ (fun x hx => let_small (HA.out x hx)), (while_at HA.out he).1])
    have HCA := Lib.hid (show cc ≠ k → Scan (w.setCell ⟨g, 0, none⟩ (.slice (some ⟨b, off + k, none⟩) (l.length - k) (cc - k))) g (l.drop k) from fun _ => scan_cut k hk H1.out h2 h3 (by unfold maxLen; exact h4) H5.out)
    have HCB := Lib.hid (show cc = k → Scan (w.setCell ⟨g, 0, none⟩ (.slice (some ⟨b, off, none⟩) (l.length - k) 0)) g (l.drop k) from fun e => scan_all k (by omega) H1.out h2)
    by_cases hlt : k < l.length
    · have hx := H5.out k hlt
      have z4 : (k : Int) < (l.length : Int) := by omega
      cases hp : letR l[k] with
      | true =>
        have HM := Lib.hid (take_more hlt HA.out hp)
        have HC := Lib.hid (letI_ l[k] w)
        rw [hp] at HC
        obtain ⟨X, hX⟩ : ∃ X, X = l[k] := ⟨_, rfl⟩
        rw [← hX] at HC hx
        clear hX hp HFIN HCV HCA HCB
        go_wp2_with (go_at_call 66; refine Calls.mono HC.out ?_; rintro e w' ⟨rfl, rfl⟩)
        go_round
        case rel => exact ⟨k + 1, by omega, by go_num, HM⟩
        case measure => simp [intOf]; omega
      | false =>
        have HC := Lib.hid (letI_ l[k] w)
        rw [hp] at HC
        obtain ⟨F1, F2⟩ := HFIN.out (fun _ => hp)
        have hcv := HCV.out (fun _ => hp)
        have HF2 := Lib.hid F2
        obtain ⟨X, hX⟩ : ∃ X, X = l[k] := ⟨_, rfl⟩
        rw [← hX] at HC hx
        obtain ⟨S, hS⟩ : ∃ S, S = strR (l.takeWhile letR) := ⟨_, rfl⟩
        rw [← hS] at hcv
        have HS := Lib.hid hS
        clear hX hp HFIN HCV F1 F2 hS
        go_wp2_with (go_at_call 66; refine Calls.mono HC.out ?_; rintro e w' ⟨rfl, rfl⟩)
        all_goals
          go_ret
          first
            | exact ⟨by rw [← HS.out]; rfl, by rw [HF2.out]; exact HCB.out (by omega), grown_put (grown_refl _ _) _ _⟩
            | exact ⟨by rw [← HS.out]; rfl, by rw [HF2.out]; exact HCA.out (by omega), grown_put (grown_refl _ _) _ _⟩
    · have hke : k = l.length := by omega
      have z4 : ¬ (k : Int) < (l.length : Int) := by omega
      have hno : ∀ h : k < l.length, letR l[k] = false := fun h => absurd h hlt
      obtain ⟨F1, F2⟩ := HFIN.out hno
      have hcv := HCV.out hno
      have HF2 := Lib.hid F2
      obtain ⟨S, hS⟩ : ∃ S, S = strR (l.takeWhile letR) := ⟨_, rfl⟩
      rw [← hS] at hcv
      have HS := Lib.hid hS
      clear HFIN HCV F1 F2 hS hno hke
      go_wp2
      all_goals
        go_ret
        first
          | exact ⟨by rw [← HS.out]; rfl, by rw [HF2.out]; exact HCB.out (by omega), grown_put (grown_refl _ _) _ _⟩
          | exact ⟨by rw [← HS.out]; rfl, by rw [HF2.out]; exact HCA.out (by omega), grown_put (grown_refl _ _) _ _⟩

set_option maxHeartbeats 4000000 in
set_option maxRecDepth 100000 in
/-- runes of a kind are taken -/
theorem takeD (w : World) (g : Nat) (l : List Int) (h : Scan w g l) (hl : l.length ≤ 10000000) :
    Calls Tryd.prog 65 #[.pointer (some ⟨g, 0, none⟩), .func (.func 74) #[] #[]] w fun e w' => e = .returned (.string (strR (l.takeWhile digR))) ∧ Scan w' g (l.dropWhile digR) ∧ w.grownBy w' (some g) := by
  obtain ⟨b, off, cc, h1, h2, h3, h4, h5⟩ := h
  have c0 : w.cell? ⟨g, 0, none⟩ = some (.slice (some ⟨b, off, none⟩) l.length cc) := by rw [cell_of_row _ _ _ _ _ _ h1]; rfl
  have f0 := frozen_of_row _ _ 0 _ _ h1
  have H1 := Lib.hid h1
  have H5 := Lib.hid h5
  clear h1 h5
  unfold maxLen at h4
  go_enter Tryd.func65, Tryd.ntmps65
  go_wp2_with fail
  go_loop [5] (fun iv => ∃ k : Nat, k ≤ l.length ∧ iv = .int .i64 (k : Nat) ∧ Hid (∀ x ∈ l.take k, digR x = true)) (fun iv => l.length - (intOf iv).toNat)
  case atStart => exact ⟨0, Nat.zero_le _, rfl, Lib.hid (by simp)⟩
  case round =>
    obtain ⟨k, hk, rfl, HA⟩ := hrel
    have z0 : (0 : Int) ≤ (k : Int) := by omega
    have z2 : (k : Int) ≤ (l.length : Int) := by omega
    have z3 : (k : Int) ≤ (cc : Int) := by omega
    have HFIN := Lib.hid (show (∀ h : k < l.length, digR l[k] = false) → (l.takeWhile digR = l.take k ∧ l.dropWhile digR = l.drop k) from fun he => while_at HA.out he)
    have HCV := Lib.hid (show (∀ h : k < l.length, digR l[k] = false) → (convert 74 9 (.slice (some ⟨b, off, none⟩) k cc)).run Tryd.prog w = .ok (.string (strR (l.takeWhile digR))) w from fun he => by
      rw [run_convert_runes w 74 9 21 ⟨b, off, none⟩ k cc l hk Tryd.underlying74 Tryd.underlying21 Tryd.underlying9 (fun j hj => by
        have := H5.out j hj
        have hadd : (⟨b, off, none⟩ : Addr).add j = ⟨b, off + j, none⟩ := by
          unfold Addr.add
          split
          · rename_i h0; rw [h0]; rfl
          · rfl
        rw [hadd, this]
        simp [List.getD, hj])]
      rw [runes_small _ (fun x hx => dig_small (HA.out x hx)), (while_at HA.out he).1])
    have HCA := Lib.hid (show cc ≠ k → Scan (w.setCell ⟨g, 0, none⟩ (.slice (some ⟨b, off + k, none⟩) (l.length - k) (cc - k))) g (l.drop k) from fun _ => scan_cut k hk H1.out h2 h3 (by unfold maxLen; exact h4) H5.out)
    have HCB := Lib.hid (show cc = k → Scan (w.setCell ⟨g, 0, none⟩ (.slice (some ⟨b, off, none⟩) (l.length - k) 0)) g (l.drop k) from fun e => scan_all k (by omega) H1.out h2)
    by_cases hlt : k < l.length
    · have hx := H5.out k hlt
      have z4 : (k : Int) < (l.length : Int) := by omega
      cases hp : digR l[k] with
      | true =>
        have HM := Lib.hid (take_more hlt HA.out hp)
        have HC := Lib.hid (digI_ l[k] w)
        rw [hp] at HC
        obtain ⟨X, hX⟩ : ∃ X, X = l[k] := ⟨_, rfl⟩
        rw [← hX] at HC hx
        clear hX hp HFIN HCV HCA HCB
        go_wp2_with (go_at_call 74; refine Calls.mono HC.out ?_; rintro e w' ⟨rfl, rfl⟩)
        go_round
        case rel => exact ⟨k + 1, by omega, by go_num, HM⟩
        case measure => simp [intOf]; omega
      | false =>
        have HC := Lib.hid (digI_ l[k] w)
        rw [hp] at HC
        obtain ⟨F1, F2⟩ := HFIN.out (fun _ => hp)
        have hcv := HCV.out (fun _ => hp)
        have HF2 := Lib.hid F2
        obtain ⟨X, hX⟩ : ∃ X, X = l[k] := ⟨_, rfl⟩
        rw [← hX] at HC hx
        obtain ⟨S, hS⟩ : ∃ S, S = strR (l.takeWhile digR) := ⟨_, rfl⟩
        rw [← hS] at hcv
        have HS := Lib.hid hS
        clear hX hp HFIN HCV F1 F2 hS
        go_wp2_with (go_at_call 74; refine Calls.mono HC.out ?_; rintro e w' ⟨rfl, rfl⟩)
        all_goals
          go_ret
          first
            | exact ⟨by rw [← HS.out]; rfl, by rw [HF2.out]; exact HCB.out (by omega), grown_put (grown_refl _ _) _ _⟩
            | exact ⟨by rw [← HS.out]; rfl, by rw [HF2.out]; exact HCA.out (by omega), grown_put (grown_refl _ _) _ _⟩
    · have hke : k = l.length := by omega
      have z4 : ¬ (k : Int) < (l.length : Int) := by omega
      have hno : ∀ h : k < l.length, digR l[k] = false := fun h => absurd h hlt
      obtain ⟨F1, F2⟩ := HFIN.out hno
      have hcv := HCV.out hno
      have HF2 := Lib.hid F2
      obtain ⟨S, hS⟩ : ∃ S, S = strR (l.takeWhile digR) := ⟨_, rfl⟩
      rw [← hS] at hcv
      have HS := Lib.hid hS
      clear HFIN HCV F1 F2 hS hno hke
      go_wp2
      all_goals
        go_ret
        first
          | exact ⟨by rw [← HS.out]; rfl, by rw [HF2.out]; exact HCB.out (by omega), grown_put (grown_refl _ _) _ _⟩
          | exact ⟨by rw [← HS.out]; rfl, by rw [HF2.out]; exact HCA.out (by omega), grown_put (grown_refl _ _) _ _⟩

end Go.Proofs.YtbckgmfopbpocaaDoor.W
