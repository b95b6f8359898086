/-
  RunAt, the model's and the program's.
-/
import Derived.Test.YtfpgjkanmanajaaEA
import Derived.Test.YtfpgjkanmanajaaE5
namespace Go.Proofs.Ytfpgjkanmanajaa.W
open Go.RowKit K R

def atO (l : List En) (kk : ByteArray) (t : Int) : Option En := if runB l = true then atL l kk t else none

set_option maxHeartbeats 4000000 in
theorem runAtS (w : World) (B n c : Nat) (A : Option Addr) (l : List En) (kk : ByteArray) (t : Int) (hr : Ents w B A n l) (hB : B ≤ w.heap.size) (hn : n ≤ maxLen) (hf : ∀ e ∈ l, e.key.size ≤ maxLen) :
    Calls Try.prog 29 #[.slice A n c, .string kk, .int .i64 t] w fun e w' => e = .returned (atV (atO l kk t)) ∧ Below w.heap.size w w' := by
  have hlen := hr.len
  subst hlen
  obtain ⟨W0, hW0⟩ : ∃ W0, W0 = w.alloc (.cells #[.string ⟨#[]⟩, .int .i64 0, .bool false, .int .i64 0] 33) := ⟨_, rfl⟩
  have hb0 : Below w.heap.size w W0 := by rw [hW0]; exact (Below.refl _ _).alloc (Nat.le_refl _) _
  have hs0 : W0.heap.size = w.heap.size + 1 := by rw [hW0]; simp
  have HX0 := Lib.hid (show W0.heap[w.heap.size]? = some (.cells #[.string ⟨#[]⟩, .int .i64 0, .bool false, .int .i64 0] 33 (0, 0)) by rw [hW0]; exact heap_alloc_new _ _)
  have HR := Lib.hid (hr.below hb0 hB)
  have HK := Lib.hid (runS W0 B l.length c A l HR.out (by omega) hn hf)
  have HB0 := Lib.hid hb0
  have HW0 := Lib.hid hW0
  rw [hW0] at HK
  clear hr hb0 hW0
  obtain ⟨b, hb⟩ : ∃ b, b = runB l := ⟨_, rfl⟩
  have HO := Lib.hid (show atO l kk t = if b = true then atL l kk t else none by rw [hb]; rfl)
  rw [← hb] at HK
  clear hb
  go_enter Try.func29, Try.ntmps29
  go_wp2_with fail
  go_at_call 25
  refine HK.out.mono ?_
  rw [← HW0.out]
  rintro e w1 ⟨rfl, b1⟩
  have HX1 := Lib.hid (show w1.heap[w.heap.size]? = some (.cells #[.string ⟨#[]⟩, .int .i64 0, .bool false, .int .i64 0] 33 (0, 0)) by rw [b1.block _ (by omega)]; exact HX0.out)
  have hs1 := b1.size
  have HB1 := Lib.hid (HB0.out.trans (b1.mono HB0.out.size))
  have HR1 := Lib.hid (HR.out.below b1 (by omega))
  clear b1 HK
  cases b with
  | false =>
    have q0 : w1.cell? ⟨w.heap.size, 0, none⟩ = some (.string ⟨#[]⟩) := by rw [cell_of_row _ _ _ _ _ _ HX1.out]; rfl
    have qz0 : w1.frozen? ⟨w.heap.size, 0, none⟩ = false := by rw [frozen_of_row _ _ _ _ _ HX1.out]
    have q1 : w1.cell? ⟨w.heap.size, 1, none⟩ = some (.int .i64 0) := by rw [cell_of_row _ _ _ _ _ _ HX1.out]; rfl
    have qz1 : w1.frozen? ⟨w.heap.size, 1, none⟩ = false := by rw [frozen_of_row _ _ _ _ _ HX1.out]
    have q2 : w1.cell? ⟨w.heap.size, 2, none⟩ = some (.bool false) := by rw [cell_of_row _ _ _ _ _ _ HX1.out]; rfl
    have qz2 : w1.frozen? ⟨w.heap.size, 2, none⟩ = false := by rw [frozen_of_row _ _ _ _ _ HX1.out]
    have q3 : w1.cell? ⟨w.heap.size, 3, none⟩ = some (.int .i64 0) := by rw [cell_of_row _ _ _ _ _ _ HX1.out]; rfl
    have qz3 : w1.frozen? ⟨w.heap.size, 3, none⟩ = false := by rw [frozen_of_row _ _ _ _ _ HX1.out]
    go_wp2
    refine bodyPost_ret (v := .tuple #[.agg #[.string ⟨#[]⟩, .int .i64 0, .bool false, .int .i64 0], .bool false]) ?_ rfl ⟨?_, ?_⟩
    · exact ret_two rfl _ _ w.heap.size _ _ rfl rfl (load_entry (box_four HX1.out _ _ _ _))
    · rw [HO.out]; rfl
    · exact ((((HB1.out.setCell (p := ⟨w.heap.size, 0, none⟩) (Nat.le_refl _) _).setCell (p := ⟨w.heap.size, 1, none⟩) (Nat.le_refl _) _).setCell (p := ⟨w.heap.size, 2, none⟩) (Nat.le_refl _) _).setCell (p := ⟨w.heap.size, 3, none⟩) (Nat.le_refl _) _)
  | true =>
    go_wp2_with fail
    go_at_call 69
    refine Calls.mono (atS w1 B l.length c A l kk t HR1.out (by omega) hn) ?_
    rintro e w2 ⟨rfl, b2⟩
    have HX2 := Lib.hid (show w2.heap[w.heap.size]? = some (.cells #[.string ⟨#[]⟩, .int .i64 0, .bool false, .int .i64 0] 33 (0, 0)) by rw [b2.block _ (by omega)]; exact HX1.out)
    have HB2 := Lib.hid (HB1.out.trans (b2.mono HB1.out.size))
    clear b2
    obtain ⟨o, ho⟩ : ∃ o, o = atL l kk t := ⟨_, rfl⟩
    have HOO := Lib.hid ho
    rw [← ho]
    clear ho
    unfold atV
    obtain ⟨x0, h0⟩ : ∃ y, y = (atE o).key := ⟨_, rfl⟩
    obtain ⟨x1, h1⟩ : ∃ y, y = (atE o).val := ⟨_, rfl⟩
    obtain ⟨x2, h2⟩ : ∃ y, y = (atE o).gone := ⟨_, rfl⟩
    obtain ⟨x3, h3⟩ : ∃ y, y = (atE o).time := ⟨_, rfl⟩
    obtain ⟨x4, h4⟩ : ∃ y, y = o.isSome := ⟨_, rfl⟩
    rw [← h0, ← h1, ← h2, ← h3, ← h4]
    have HE := Lib.hid (show atV o = .tuple #[.agg #[.string x0, .int .i64 x1, .bool x2, .int .i64 x3], .bool x4] by unfold atV; rw [h0, h1, h2, h3, h4])
    clear h0 h1 h2 h3 h4
    have q0 : w2.cell? ⟨w.heap.size, 0, none⟩ = some (.string ⟨#[]⟩) := by rw [cell_of_row _ _ _ _ _ _ HX2.out]; rfl
    have qz0 : w2.frozen? ⟨w.heap.size, 0, none⟩ = false := by rw [frozen_of_row _ _ _ _ _ HX2.out]
    have q1 : w2.cell? ⟨w.heap.size, 1, none⟩ = some (.int .i64 0) := by rw [cell_of_row _ _ _ _ _ _ HX2.out]; rfl
    have qz1 : w2.frozen? ⟨w.heap.size, 1, none⟩ = false := by rw [frozen_of_row _ _ _ _ _ HX2.out]
    have q2 : w2.cell? ⟨w.heap.size, 2, none⟩ = some (.bool false) := by rw [cell_of_row _ _ _ _ _ _ HX2.out]; rfl
    have qz2 : w2.frozen? ⟨w.heap.size, 2, none⟩ = false := by rw [frozen_of_row _ _ _ _ _ HX2.out]
    have q3 : w2.cell? ⟨w.heap.size, 3, none⟩ = some (.int .i64 0) := by rw [cell_of_row _ _ _ _ _ _ HX2.out]; rfl
    have qz3 : w2.frozen? ⟨w.heap.size, 3, none⟩ = false := by rw [frozen_of_row _ _ _ _ _ HX2.out]
    go_wp2
    refine bodyPost_ret (v := .tuple #[.agg #[.string x0, .int .i64 x1, .bool x2, .int .i64 x3], .bool x4]) ?_ rfl ⟨?_, ?_⟩
    · exact ret_two rfl _ _ w.heap.size _ _ rfl rfl (load_entry (box_four HX2.out _ _ _ _))
    · show Ending.returned _ = Ending.returned (atV (atO l kk t)); rw [HO.out, if_pos trivial, ← HOO.out, HE.out]
    · exact ((((HB2.out.setCell (p := ⟨w.heap.size, 0, none⟩) (Nat.le_refl _) _).setCell (p := ⟨w.heap.size, 1, none⟩) (Nat.le_refl _) _).setCell (p := ⟨w.heap.size, 2, none⟩) (Nat.le_refl _) _).setCell (p := ⟨w.heap.size, 3, none⟩) (Nat.le_refl _) _)

set_option maxHeartbeats 4000000 in
theorem runAtI (w : World) (B n c : Nat) (A : Option Addr) (l : List En) (kk : ByteArray) (t : Int) (hr : Ents w B A n l) (hB : B ≤ w.heap.size) (hn : n ≤ maxLen) (hf : ∀ e ∈ l, e.key.size ≤ maxLen) :
    Calls Try.prog 30 #[.slice A n c, .string kk, .int .i64 t] w fun e w' => e = .returned (atV (atO l kk t)) ∧ Below w.heap.size w w' := by
  have hlen := hr.len
  subst hlen
  obtain ⟨W0, hW0⟩ : ∃ W0, W0 = w.alloc (.cells #[.string ⟨#[]⟩, .int .i64 0, .bool false, .int .i64 0] 33) := ⟨_, rfl⟩
  have hb0 : Below w.heap.size w W0 := by rw [hW0]; exact (Below.refl _ _).alloc (Nat.le_refl _) _
  have hs0 : W0.heap.size = w.heap.size + 1 := by rw [hW0]; simp
  have HX0 := Lib.hid (show W0.heap[w.heap.size]? = some (.cells #[.string ⟨#[]⟩, .int .i64 0, .bool false, .int .i64 0] 33 (0, 0)) by rw [hW0]; exact heap_alloc_new _ _)
  have HR := Lib.hid (hr.below hb0 hB)
  have HK := Lib.hid (runI W0 B l.length c A l HR.out (by omega) hn hf)
  have HB0 := Lib.hid hb0
  have HW0 := Lib.hid hW0
  rw [hW0] at HK
  unfold maxLen at hn
  clear hr hb0 hW0
  obtain ⟨b, hb⟩ : ∃ b, b = runB l := ⟨_, rfl⟩
  have HO := Lib.hid (show atO l kk t = if b = true then atL l kk t else none by rw [hb]; rfl)
  rw [← hb] at HK
  clear hb
  go_enter Try.func30, Try.ntmps30
  go_wp2_with fail
  go_at_call 24
  refine HK.out.mono ?_
  rw [← HW0.out]
  rintro e w1 ⟨rfl, b1⟩
  have hs1 := b1.size
  have HX1 := Lib.hid (show ∀ W, Below w1.heap.size w1 W → W.heap[w.heap.size]? = some (.cells #[.string ⟨#[]⟩, .int .i64 0, .bool false, .int .i64 0] 33 (0, 0)) from fun W hW => by rw [hW.block _ (by omega), b1.block _ (by omega)]; exact HX0.out)
  have HB1 := Lib.hid (HB0.out.trans (b1.mono HB0.out.size))
  have HR1 := Lib.hid (HR.out.below b1 (by omega))
  have hB1 : B ≤ w1.heap.size := by omega
  clear b1 HK
  cases b with
  | false =>
    have q0 : w1.cell? ⟨w.heap.size, 0, none⟩ = some (.string ⟨#[]⟩) := by rw [cell_of_row _ _ _ _ _ _ (HX1.out w1 (Below.refl _ _))]; rfl
    have qz0 : w1.frozen? ⟨w.heap.size, 0, none⟩ = false := by rw [frozen_of_row _ _ _ _ _ (HX1.out w1 (Below.refl _ _))]
    have q1 : w1.cell? ⟨w.heap.size, 1, none⟩ = some (.int .i64 0) := by rw [cell_of_row _ _ _ _ _ _ (HX1.out w1 (Below.refl _ _))]; rfl
    have qz1 : w1.frozen? ⟨w.heap.size, 1, none⟩ = false := by rw [frozen_of_row _ _ _ _ _ (HX1.out w1 (Below.refl _ _))]
    have q2 : w1.cell? ⟨w.heap.size, 2, none⟩ = some (.bool false) := by rw [cell_of_row _ _ _ _ _ _ (HX1.out w1 (Below.refl _ _))]; rfl
    have qz2 : w1.frozen? ⟨w.heap.size, 2, none⟩ = false := by rw [frozen_of_row _ _ _ _ _ (HX1.out w1 (Below.refl _ _))]
    have q3 : w1.cell? ⟨w.heap.size, 3, none⟩ = some (.int .i64 0) := by rw [cell_of_row _ _ _ _ _ _ (HX1.out w1 (Below.refl _ _))]; rfl
    have qz3 : w1.frozen? ⟨w.heap.size, 3, none⟩ = false := by rw [frozen_of_row _ _ _ _ _ (HX1.out w1 (Below.refl _ _))]
    go_wp2
    refine bodyPost_ret (v := .tuple #[.agg #[.string ⟨#[]⟩, .int .i64 0, .bool false, .int .i64 0], .bool false]) ?_ rfl ⟨?_, ?_⟩
    · exact ret_two rfl _ _ w.heap.size _ _ rfl rfl (load_entry (box_four (HX1.out w1 (Below.refl _ _)) _ _ _ _))
    · rw [HO.out]; rfl
    · exact ((((HB1.out.setCell (p := ⟨w.heap.size, 0, none⟩) (Nat.le_refl _) _).setCell (p := ⟨w.heap.size, 1, none⟩) (Nat.le_refl _) _).setCell (p := ⟨w.heap.size, 2, none⟩) (Nat.le_refl _) _).setCell (p := ⟨w.heap.size, 3, none⟩) (Nat.le_refl _) _)
  | true =>
    go_wp2_with fail
    go_loopw [16] (fun i wr => ∃ k : Nat, k ≤ l.length ∧ i = .int .i64 (k : Nat) ∧ noAt l kk t k ∧ Below w1.heap.size w1 wr) (fun i _ => l.length - (intOf i).toNat)
    case atStart => exact ⟨0, Nat.zero_le _, rfl, noAt_zero l kk t, Below.refl _ _⟩
    case round =>
      obtain ⟨k, hk, rfl, hno, hbl⟩ := hrel
      have HN := Lib.hid hno
      have HBL := Lib.hid hbl
      clear hno hbl
      by_cases hlt : k < l.length
      · obtain ⟨kb, ko, hA, hkb, c0, c1, c2, c3⟩ := (HR1.out.below HBL.out hB1).cell k hlt
        subst hA
        obtain ⟨x0, h0⟩ : ∃ y, y = l[k].key := ⟨_, rfl⟩
        obtain ⟨x1, h1⟩ : ∃ y, y = l[k].val := ⟨_, rfl⟩
        obtain ⟨x2, h2⟩ : ∃ y, y = l[k].gone := ⟨_, rfl⟩
        obtain ⟨x3, h3⟩ : ∃ y, y = l[k].time := ⟨_, rfl⟩
        rw [← h0] at c0
        rw [← h1] at c1
        rw [← h2] at c2
        rw [← h3] at c3
        have z0 : (0 : Int) ≤ (k : Int) := by omega
        have z1 : (k : Int) < (l.length : Int) := by omega
        have HE := Lib.hid (show l[k] = ⟨x0, x1, x2, x3⟩ by rw [h0, h1, h2, h3])
        obtain ⟨WX, hWX⟩ : ∃ W, W = wr.alloc (.cells #[.string x0, .int .i64 x1, .bool x2, .int .i64 x3] 33) := ⟨_, rfl⟩
        have HBX := Lib.hid (show Below w1.heap.size w1 WX by rw [hWX]; exact HBL.out.alloc HBL.out.size _)
        have HYX := Lib.hid (show WX.heap[wr.heap.size]? = some (.cells #[.string x0, .int .i64 x1, .bool x2, .int .i64 x3] 33 (0, 0)) by rw [hWX]; exact heap_alloc_new _ _)
        have HWX := Lib.hid hWX
        have hne : ¬ wr.heap.size = w.heap.size := by have := HBL.out.size; omega
        clear h0 h1 h2 h3 hWX
        go_upto_region 6 with fail
        rw [← HWX.out]
        have r0 : WX.cell? ⟨wr.heap.size, 0, none⟩ = some (.string x0) := by rw [cell_of_row _ _ _ _ _ _ HYX.out]; rfl
        have r1 : WX.cell? ⟨wr.heap.size, 1, none⟩ = some (.int .i64 x1) := by rw [cell_of_row _ _ _ _ _ _ HYX.out]; rfl
        have r2 : WX.cell? ⟨wr.heap.size, 2, none⟩ = some (.bool x2) := by rw [cell_of_row _ _ _ _ _ _ HYX.out]; rfl
        have r3 : WX.cell? ⟨wr.heap.size, 3, none⟩ = some (.int .i64 x3) := by rw [cell_of_row _ _ _ _ _ _ HYX.out]; rfl
        clear c0 c1 c2 c3
        rcases Bool.eq_false_or_eq_true (x0.toList == kk.toList) with hq | hq
        · by_cases ht : x3 ≤ t
          · have HH := Lib.hid (at_hit hlt HN.out (by rw [HE.out, Bool.and_eq_true, decide_eq_true_iff]; exact ⟨hq, ht⟩))
            have q0 : WX.cell? ⟨w.heap.size, 0, none⟩ = some (.string ⟨#[]⟩) := by rw [cell_of_row _ _ _ _ _ _ (HX1.out WX HBX.out)]; rfl
            have qz0 : WX.frozen? ⟨w.heap.size, 0, none⟩ = false := by rw [frozen_of_row _ _ _ _ _ (HX1.out WX HBX.out)]
            have q1 : WX.cell? ⟨w.heap.size, 1, none⟩ = some (.int .i64 0) := by rw [cell_of_row _ _ _ _ _ _ (HX1.out WX HBX.out)]; rfl
            have qz1 : WX.frozen? ⟨w.heap.size, 1, none⟩ = false := by rw [frozen_of_row _ _ _ _ _ (HX1.out WX HBX.out)]
            have q2 : WX.cell? ⟨w.heap.size, 2, none⟩ = some (.bool false) := by rw [cell_of_row _ _ _ _ _ _ (HX1.out WX HBX.out)]; rfl
            have qz2 : WX.frozen? ⟨w.heap.size, 2, none⟩ = false := by rw [frozen_of_row _ _ _ _ _ (HX1.out WX HBX.out)]
            have q3 : WX.cell? ⟨w.heap.size, 3, none⟩ = some (.int .i64 0) := by rw [cell_of_row _ _ _ _ _ _ (HX1.out WX HBX.out)]; rfl
            have qz3 : WX.frozen? ⟨w.heap.size, 3, none⟩ = false := by rw [frozen_of_row _ _ _ _ _ (HX1.out WX HBX.out)]
            go_wp2
            refine bodyPost_ret (v := .tuple #[.agg #[.string x0, .int .i64 x1, .bool x2, .int .i64 x3], .bool true]) ?_ rfl ⟨?_, ?_⟩
            · exact ret_two rfl _ _ w.heap.size _ _ rfl rfl (load_entry (box_four (HX1.out WX HBX.out) _ _ _ _))
            · rw [HO.out, if_pos trivial, HH.out, HE.out]; rfl
            · have hbw := HB1.out.trans (HBX.out.mono HB1.out.size)
              exact ((((hbw.setCell (p := ⟨w.heap.size, 0, none⟩) (Nat.le_refl _) _).setCell (p := ⟨w.heap.size, 1, none⟩) (Nat.le_refl _) _).setCell (p := ⟨w.heap.size, 2, none⟩) (Nat.le_refl _) _).setCell (p := ⟨w.heap.size, 3, none⟩) (Nat.le_refl _) _)
          · have HM := Lib.hid (noAt_succ hlt HN.out (by rw [HE.out, Bool.and_eq_false_iff]; exact .inr (decide_eq_false ht)))
            go_wp2
            go_roundw
            case rel => exact ⟨k + 1, by omega, by go_num, HM.out, HBX.out⟩
            case measure => simp [intOf]; omega
        · have HM := Lib.hid (noAt_succ hlt HN.out (by rw [HE.out, Bool.and_eq_false_iff]; exact .inl hq))
          go_wp2
          go_roundw
          case rel => exact ⟨k + 1, by omega, by go_num, HM.out, HBX.out⟩
          case measure => simp [intOf]; omega
      · have hke : k = l.length := by omega
        subst hke
        have HM := Lib.hid (at_miss HN.out)
        have q0 : wr.cell? ⟨w.heap.size, 0, none⟩ = some (.string ⟨#[]⟩) := by rw [cell_of_row _ _ _ _ _ _ (HX1.out wr HBL.out)]; rfl
        have qz0 : wr.frozen? ⟨w.heap.size, 0, none⟩ = false := by rw [frozen_of_row _ _ _ _ _ (HX1.out wr HBL.out)]
        have q1 : wr.cell? ⟨w.heap.size, 1, none⟩ = some (.int .i64 0) := by rw [cell_of_row _ _ _ _ _ _ (HX1.out wr HBL.out)]; rfl
        have qz1 : wr.frozen? ⟨w.heap.size, 1, none⟩ = false := by rw [frozen_of_row _ _ _ _ _ (HX1.out wr HBL.out)]
        have q2 : wr.cell? ⟨w.heap.size, 2, none⟩ = some (.bool false) := by rw [cell_of_row _ _ _ _ _ _ (HX1.out wr HBL.out)]; rfl
        have qz2 : wr.frozen? ⟨w.heap.size, 2, none⟩ = false := by rw [frozen_of_row _ _ _ _ _ (HX1.out wr HBL.out)]
        have q3 : wr.cell? ⟨w.heap.size, 3, none⟩ = some (.int .i64 0) := by rw [cell_of_row _ _ _ _ _ _ (HX1.out wr HBL.out)]; rfl
        have qz3 : wr.frozen? ⟨w.heap.size, 3, none⟩ = false := by rw [frozen_of_row _ _ _ _ _ (HX1.out wr HBL.out)]
        go_wp2
        refine bodyPost_ret (v := .tuple #[.agg #[.string ⟨#[]⟩, .int .i64 0, .bool false, .int .i64 0], .bool false]) ?_ rfl ⟨?_, ?_⟩
        · exact ret_two rfl _ _ w.heap.size _ _ rfl rfl (load_entry (box_four (HX1.out wr HBL.out) _ _ _ _))
        · rw [HO.out, if_pos trivial, HM.out]; rfl
        · have hbw := HB1.out.trans (HBL.out.mono HB1.out.size)
          exact ((((hbw.setCell (p := ⟨w.heap.size, 0, none⟩) (Nat.le_refl _) _).setCell (p := ⟨w.heap.size, 1, none⟩) (Nat.le_refl _) _).setCell (p := ⟨w.heap.size, 2, none⟩) (Nat.le_refl _) _).setCell (p := ⟨w.heap.size, 3, none⟩) (Nat.le_refl _) _)

end Go.Proofs.Ytfpgjkanmanajaa.W
