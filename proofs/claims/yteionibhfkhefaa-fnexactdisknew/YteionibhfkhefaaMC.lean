/-
  The program's DiskDo.
-/
import Derived.Test.YteionibhfkhefaaMB
import Derived.Lib.SliceRun
import Derived.Deep.Cut
namespace Go.Proofs.Yteionibhfkhefaa.W
open Go.RowKit K R

set_option maxHeartbeats 1000000 in
theorem cloneI (w : World) (B n c : Nat) (A : Option Addr) (d : List ByteArray) (hr : Strs w B A n d) (hB : B ≤ w.heap.size) (hn : n ≤ 4398046511104) :
    Calls Try.prog 22 #[.slice A n c] w (NewS w d) := by
  have hlen := hr.len
  subst hlen
  have hq := fun W : World => Lib.run_eql_slice_nil (P := Try.prog) W 22 9 A d.length c 0 0 Try.underlying22
  cases A with
  | none =>
    have hd : d = [] := by
      cases d with
      | nil => rfl
      | cons a t =>
        obtain ⟨b, off, hA, -⟩ := hr.cell 0 (by simp)
        cases hA
    subst hd
    clear hr
    simp only [Option.isNone_none, List.length_nil] at hq
    go_enter Try.func22, Try.ntmps22
    go_wp2
    go_ret
    exact ⟨_, rfl, Own.none_ _ _, Below.refl _ _⟩
  | some a =>
    have HR := Lib.hid hr
    clear hr
    simp only [Option.isNone_some] at hq
    have E0 := Lib.hid (Own.empty w w.heap.size (Nat.le_refl _))
    have E1 := Lib.hid ((Below.refl w.heap.size w).alloc (Nat.le_refl _) (.cells #[] 9))
    go_enter Try.func22, Try.ntmps22
    go_wp2_with (at_builtin; refine app_own rfl (.tmp 5) (.tmp 6) rfl _ w.heap.size _ [] rfl E0.out B d.length c (some a) d rfl (HR.out.below E1.out hB) (by simp; omega) (by simp) ?_; intro v1 w1 o1 g1)
    have HB1 := Lib.hid (Below.app E1.out E0.out (Nat.le_refl _) g1 (by simp))
    have HO1 := Lib.hid o1
    clear o1 g1
    go_wp2
    go_ret
    exact ⟨_, rfl, by have := HO1.out; rwa [List.nil_append] at this, HB1.out⟩

set_option maxHeartbeats 4000000 in
theorem doI (w : World) (B n c m cm : Nat) (A A2 : Option Addr) (d : List ByteArray) (l : List Mv) (t : Int) (hr : Strs w B A n d) (hr2 : Movs w B A2 m l) (hB : B ≤ w.heap.size) (hn : n ≤ 1048576) (hm : m ≤ 1048576) (hf : ∀ e ∈ l, e.text.size ≤ 1048576) :
    Calls Try.prog 15 #[.slice A n c, .slice A2 m cm, .int .i64 t] w (NewS w (doM t l d)) := by
  have hlen := hr.len
  subst hlen
  have hlen := hr2.len
  subst hlen
  have HR := Lib.hid hr
  have HR2 := Lib.hid hr2
  have HF := Lib.hid hf
  clear hr hr2 hf
  go_enter Try.func15, Try.ntmps15
  go_wp2_with fail
  go_at_call 22
  refine Calls.mono (cloneI w B d.length c A d HR.out hB (by omega)) ?_
  rintro e w1 ⟨v1, rfl, o1, b1⟩
  have HO1 := Lib.hid o1
  have HB1 := Lib.hid b1
  clear o1 b1
  obtain ⟨A1, c1, hv1, hc1, hm1, -⟩ := HO1.out.parts
  subst hv1
  go_wp2_with fail
  go_loopw [15] (fun i wr => ∃ k : Nat, k ≤ l.length ∧ i = .int .i64 (k : Nat) ∧ Own wr w.heap.size (.slice A1 d.length c1) (doK t l d k) ∧ Below w.heap.size w wr) (fun i _ => l.length - (intOf i).toNat)
  case atStart => exact ⟨0, Nat.zero_le _, rfl, HO1.out, HB1.out⟩
  case round =>
    obtain ⟨k, hk, rfl, ho, hb⟩ := hrel
    have HO := Lib.hid ho
    have HB := Lib.hid hb
    clear ho hb HO1 HB1
    by_cases hlt : k < l.length
    · obtain ⟨kb, ko, hA, hbB, c0, c2⟩ := (HR2.out.below HB.out hB).cell k hlt
      subst hA
      obtain ⟨x0, h0⟩ : ∃ y, y = l[k].pos := ⟨_, rfl⟩
      obtain ⟨x1, h1⟩ : ∃ y, y = l[k].text := ⟨_, rfl⟩
      have hxs := HF.out _ (List.getElem_mem hlt)
      rw [← h0] at c0
      rw [← h1] at c2 hxs
      have H0 := Lib.hid h0
      have H1 := Lib.hid h1
      have z0 : (0 : Int) ≤ (k : Int) := by omega
      have z1 : (k : Int) < (l.length : Int) := by omega
      clear h0 h1
      obtain ⟨r, hr⟩ : ∃ r : Int, r = (l.length : Int) - 1 := ⟨_, rfl⟩
      have hwrd : IntKind.i64.wrap ((l.length : Int) - 1) = r := by rw [hr]; exact i64_z _ (by omega) (by omega)
      have HRR := Lib.hid hr
      clear hr
      obtain ⟨W, hW⟩ : ∃ W, W = wr.alloc (.cells #[.int .i64 x0, .string x1] 40) := ⟨_, rfl⟩
      have HX := Lib.hid (show Own W w.heap.size (.slice A1 d.length c1) (doK t l d k) by rw [hW]; exact HO.out.alloc _)
      have HY := Lib.hid (show Below w.heap.size w W by rw [hW]; exact HB.out.alloc HB.out.size _)
      have b0 : W.cell? ⟨wr.heap.size, 0, none⟩ = some (.int .i64 x0) := by rw [hW, cell_of_row _ _ _ _ _ _ (heap_alloc_new wr _)]; rfl
      have b1 : W.cell? ⟨wr.heap.size, 1, none⟩ = some (.string x1) := by rw [hW, cell_of_row _ _ _ _ _ _ (heap_alloc_new wr _)]; rfl
      have HW := Lib.hid hW
      clear hW
      obtain ⟨q, hq⟩ : ∃ q, q = min x1.size t.toNat := ⟨_, rfl⟩
      obtain ⟨T, hT⟩ : ∃ T : Int, T = if 0 < t then t else 0 := ⟨_, rfl⟩
      have hmx : (if 0 < t then t else 0) = T := hT.symm
      have hmn : (if T < (x1.size : Int) then T else (x1.size : Int)) = (q : Int) := by rw [hT]; split <;> split <;> omega
      have hle : q ≤ x1.size := by omega
      have HQ := Lib.hid hq
      clear hq hT
      by_cases hin : 0 ≤ x0 ∧ x0 ≤ (d.length : Int) - 1
      · obtain ⟨p, hp⟩ : ∃ p : Nat, x0 = (p : Int) := ⟨x0.toNat, by omega⟩
        subst hp
        have hpd : p < d.length := by omega
        have hpd1 : (p : Int) < (d.length : Int) := by omega
        have hpd0 : (0 : Int) ≤ (p : Int) := by omega
        obtain ⟨g, hA, hbg, hgl⟩ := HO.out.block (by rw [doK_len]; omega)
        subst hA
        have hcell := HX.out.get p (by rw [doK_len]; exact hpd)
        have hfz := HX.out.free p
        by_cases hla : k + 1 = l.length
        · have hla2 : r = (k : Int) := by have := HRR.out; omega
          subst hla2
          go_upto_region 9 with fail
          rw [← HW.out]
          go_still_tail 8, (by kernel_rfl)
          change wpList _ _ _ _ _ W.drew
          have hcell2 : W.drew.cell? ⟨g, p, none⟩ = some (.string ((doK t l d k)[p]'(by rw [doK_len]; exact hpd))) := hcell
          have hfz2 : W.drew.frozen? ⟨g, p, none⟩ = false := hfz
          have HOD := Lib.hid (show Own W.drew w.heap.size (.slice (some ⟨g, 0, none⟩) d.length c1) (doK t l d k) from HX.out)
          have HYD := Lib.hid (show Below w.heap.size w W.drew from ⟨HY.out.os, HY.out.tape, HY.out.output, HY.out.size, HY.out.block⟩)
          go_wp2
          go_roundw
          case rel =>
            refine ⟨k + 1, by omega, by go_num, ?_, HYD.out.setCell (p := ⟨g, p, none⟩) hbg _⟩
            rw [doK_in hlt H0.out.symm hpd, mvT_last hla, ← H1.out, ← HQ.out]
            exact HOD.out.set p (x1.extract 0 q)
          case measure => simp [intOf]; omega
        · have hne : ((k : Int) == r) = false := by rw [beq_eq_false_iff_ne]; have := HRR.out; omega
          go_upto_region 9 with fail
          rw [← HW.out]
          go_still_tail 8, (by kernel_rfl)
          change wpList _ _ _ _ _ W.drew
          have hcell2 : W.drew.cell? ⟨g, p, none⟩ = some (.string ((doK t l d k)[p]'(by rw [doK_len]; exact hpd))) := hcell
          have hfz2 : W.drew.frozen? ⟨g, p, none⟩ = false := hfz
          have HOD := Lib.hid (show Own W.drew w.heap.size (.slice (some ⟨g, 0, none⟩) d.length c1) (doK t l d k) from HX.out)
          have HYD := Lib.hid (show Below w.heap.size w W.drew from ⟨HY.out.os, HY.out.tape, HY.out.output, HY.out.size, HY.out.block⟩)
          go_wp2
          go_roundw
          case rel =>
            refine ⟨k + 1, by omega, by go_num, ?_, HYD.out.setCell (p := ⟨g, p, none⟩) hbg _⟩
            rw [doK_in hlt H0.out.symm hpd, mvT_not hla, ← H1.out]
            exact HOD.out.set p x1
          case measure => simp [intOf]; omega
      · have hd := doK_out (t := t) (d := d) hlt (by rw [← H0.out]; omega)
        have HD := Lib.hid hd
        clear hd
        by_cases hneg : x0 < 0
        · clear hin
          go_wp2
          go_roundw
          case rel => exact ⟨k + 1, by omega, by go_num, by rw [HD.out]; exact HO.out.alloc _, HB.out.alloc HB.out.size _⟩
          case measure => simp [intOf]; omega
        · have hge : (d.length : Int) ≤ x0 := by omega
          clear hin
          go_wp2
          go_roundw
          case rel => exact ⟨k + 1, by omega, by go_num, by rw [HD.out]; exact HO.out.alloc _, HB.out.alloc HB.out.size _⟩
          case measure => simp [intOf]; omega
    · have hke : k = l.length := by omega
      subst hke
      go_wp2
      go_ret
      exact ⟨_, rfl, by unfold doM; exact HO.out, HB.out⟩

end Go.Proofs.Yteionibhfkhefaa.W
