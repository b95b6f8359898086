/-
  The exact law of what is kept, of a filter that came in, as a walk over the contracts.
-/
import Derived.Test.YtakadkhgcjndmaaY3
import Derived.Test.YtakadkhgcjndmaaY2
import Derived.Test.YtakadkhgcjndmaaLE1
import Derived.Test.YtakadkhgcjndmaaLSB
import Derived.Deep.RegionHeld3
namespace Go.Proofs.Ytakadkhgcjndmaa.W
open Go.RowKit K

theorem headsO_len (L M_ F : ByteArray) (l : List ByteArray) (keep : Int) : (headsO L M_ F l keep).length ≤ 24 := by
  rcases Bool.eq_false_or_eq_true (svB L M_ F l keep) with gs | gs
  · obtain ⟨kp, hke, hmd⟩ := made_back gs
    have hsv := hmd.sv
    rw [hke] at hsv ⊢
    rw [headsO_yes hsv]
    exact (keys_iff.mp hmd.keys).1
  · rw [headsO_no gs]; exact Nat.zero_le _

set_option maxHeartbeats 8000000 in
set_option maxRecDepth 100000 in
theorem exactSieveHeads (w : World) (A : Option Addr) (n c : Nat) (L M_ F : ByteArray) (keep : Int) (l : List ByteArray) (hL : L.size ≤ maxLen) (hM : M_.size ≤ maxLen) (hF : F.size ≤ maxLen) (hs : Strs w w.heap.size A n l) (hnc : n ≤ c) (hc : c ≤ maxLen) (hf : Fit l) :
    Calls Try.prog 23 #[.agg #[.string L, .string M_, .string F, .slice A n c, .int .i64 keep]] w fun e w' => e = .returned (.bool true) ∧ Below w.heap.size w w' := by
  have hlen := hs.len
  subst hlen
  have hnm : l.length ≤ maxLen := Nat.le_trans hnc hc
  have S0 := Lib.hid hs
  have FL := Lib.hid hf
  clear hs hf
  obtain ⟨W0, hW0⟩ : ∃ W0, W0 = w.alloc (.cells #[.string L, .string M_, .string F, .slice A l.length c, .int .i64 keep] 57) := ⟨_, rfl⟩
  have hb0 : Below w.heap.size w W0 := by rw [hW0]; exact (Below.refl _ _).alloc (Nat.le_refl _) _
  have hs0 : W0.heap.size = w.heap.size + 1 := by rw [hW0]; simp
  have HX0 := Lib.hid (show W0.heap[w.heap.size]? = some (.cells #[.string L, .string M_, .string F, .slice A l.length c, .int .i64 keep] 57 (0, 0)) by rw [hW0]; exact heap_alloc_new _ _)
  have HB0 := Lib.hid hb0
  have HSZ := Lib.hid (sizeSvL W0 l.length c A L M_ F keep l hL hM hF ((S0.out.below hb0 (Nat.le_refl _)).more hb0.size) hnm FL.out)
  have HW0 := Lib.hid hW0
  clear hb0 hW0
  go_enter Try.func23, Try.ntmps23
  go_wp2_with fail
  go_at_call 65
  rw [← HW0.out]
  refine HSZ.out.mono ?_
  rintro e w1 ⟨x, rfl, hx0, hx1, hx2, hb1⟩
  have HX1 := Lib.hid (box_below HX0.out hb1)
  have hs1 := hb1.size
  have HB1 := Lib.hid (HB0.out.trans (hb1.mono HB0.out.size))
  clear hb1
  by_cases hneg : x < 0
  · clear hx2
    go_wp2
    go_ret
    exact ⟨rfl, HB1.out⟩
  · have hx3 := hx2 (by omega)
    have hlen := hx3.2.1
    have HFT := Lib.hid (show ∀ i (h : i < l.length), l[i].size ≤ 1000000000000 from fun i h => by have := hx3.2.2 _ (List.getElem_mem h); omega)
    obtain ⟨hs, hhs⟩ : ∃ y, y = headsO L M_ F l keep := ⟨_, rfl⟩
    have hsl : hs.length ≤ 24 := by rw [hhs]; exact headsO_len _ _ _ _ _
    have HEI := Lib.hid (show ∀ (W : World) (A : Option Addr) (c : Nat), Strs W W.heap.size A l.length l → Calls Try.prog 34 #[.agg #[.string L, .string M_, .string F, .slice A l.length c, .int .i64 keep]] W (New W hs) from fun W A c h1 => by rw [hhs]; exact headsSI L M_ F A l.length c l keep W hM hF h1 HFT.out)
    have HES := Lib.hid (show ∀ (W : World) (A : Option Addr) (c : Nat), Strs W W.heap.size A l.length l → l.length ≤ c → c ≤ maxLen → Calls Try.prog 38 #[.agg #[.string L, .string M_, .string F, .slice A l.length c, .int .i64 keep]] W (New W hs) from fun W A c h1 h2 h3 => by rw [hhs]; exact headsSv L M_ F A l.length c l keep W hL hM hF h1 h2 h3 HFT.out)
    clear hx2 hx3 hhs
    have p0 : w1.cell? ⟨w.heap.size, 0, none⟩ = some (.string L) := by rw [cell_of_row _ _ _ _ _ _ HX1.out]; rfl
    have p1 : w1.cell? ⟨w.heap.size, 1, none⟩ = some (.string M_) := by rw [cell_of_row _ _ _ _ _ _ HX1.out]; rfl
    have p2 : w1.cell? ⟨w.heap.size, 2, none⟩ = some (.string F) := by rw [cell_of_row _ _ _ _ _ _ HX1.out]; rfl
    have p3 : w1.cell? ⟨w.heap.size, 3, none⟩ = some (.slice A l.length c) := by rw [cell_of_row _ _ _ _ _ _ HX1.out]; rfl
    have p4 : w1.cell? ⟨w.heap.size, 4, none⟩ = some (.int .i64 keep) := by rw [cell_of_row _ _ _ _ _ _ HX1.out]; rfl
    go_wp2_with fail
    go_at_call 66
    refine (copySv w1 l.length c A L M_ F keep l w.heap.size (S0.out.below HB1.out (Nat.le_refl _)) HB1.out.size (by omega)).mono ?_
    rintro e w2 ⟨A2, c2, rfl, o_, b_⟩
    obtain ⟨s2, hc2, hm2⟩ := o_.strs
    have P2 := Lib.hid s2
    have HX2 := Lib.hid (box_below HX1.out b_)
    have hs2 := b_.size
    have HB2 := Lib.hid (HB1.out.trans (b_.mono HB1.out.size))
    clear o_ b_ s2 HX1 HB1 p0 p1 p2 p3 p4
    go_wp2_with fail
    go_at_call 38
    refine Calls.mono (HES.out w2 A2 c2 P2.out hc2 hm2) ?_
    rintro e w3 ⟨v3, rfl, o3, b3⟩
    obtain ⟨Aw, cw, hv3, hcw, hmw, s3⟩ := o3.parts
    subst hv3
    have Q3 := Lib.hid s3
    have HX3 := Lib.hid (box_below HX2.out b3)
    have hs3 := b3.size
    have HB3 := Lib.hid (HB2.out.trans (b3.mono HB2.out.size))
    have HB3s := Lib.hid HB3.out.size
    clear o3 b3 s3 HX2 HB2 P2
    have p0 : w3.cell? ⟨w.heap.size, 0, none⟩ = some (.string L) := by rw [cell_of_row _ _ _ _ _ _ HX3.out]; rfl
    have p1 : w3.cell? ⟨w.heap.size, 1, none⟩ = some (.string M_) := by rw [cell_of_row _ _ _ _ _ _ HX3.out]; rfl
    have p2 : w3.cell? ⟨w.heap.size, 2, none⟩ = some (.string F) := by rw [cell_of_row _ _ _ _ _ _ HX3.out]; rfl
    have p3 : w3.cell? ⟨w.heap.size, 3, none⟩ = some (.slice A l.length c) := by rw [cell_of_row _ _ _ _ _ _ HX3.out]; rfl
    have p4 : w3.cell? ⟨w.heap.size, 4, none⟩ = some (.int .i64 keep) := by rw [cell_of_row _ _ _ _ _ _ HX3.out]; rfl
    go_wp2_with fail
    go_at_call 66
    refine (copySv w3 l.length c A L M_ F keep l w.heap.size (S0.out.below HB3.out (Nat.le_refl _)) HB3.out.size (by omega)).mono ?_
    rintro e w4 ⟨A4, c4, rfl, o_, b_⟩
    obtain ⟨W4, hW4⟩ : ∃ W4, W4 = w4.alloc (.cells #[.string L, .string M_, .string F, .slice A4 l.length c4, .int .i64 keep] 27) := ⟨_, rfl⟩
    have hbw : Below w4.heap.size w4 W4 := by rw [hW4]; exact (Below.refl _ _).alloc (Nat.le_refl _) _
    have hs4 := b_.size
    have hs4b : W4.heap.size = w4.heap.size + 1 := by rw [hW4]; simp
    have b34 := b_.trans (hbw.mono b_.size)
    have OX4 := Lib.hid (o_.below hbw)
    have HXB := Lib.hid (fun k hk => (World.ownsRow.lt OX4.out k hk).2)
    have HY4 := Lib.hid (show W4.heap[w4.heap.size]? = some (.cells #[.string L, .string M_, .string F, .slice A4 l.length c4, .int .i64 keep] 27 (0, 0)) by rw [hW4]; exact heap_alloc_new _ _)
    have HX4 := Lib.hid (box_below HX3.out b34)
    have HB4 := Lib.hid (HB3.out.trans (b34.mono HB3.out.size))
    have HB4s := Lib.hid HB4.out.size
    have Q4 := Lib.hid (Q3.out.below b34 (Nat.le_refl _))
    have HW4 := Lib.hid hW4
    clear o_ b_ hbw b34 hW4 HX3 HB3 Q3 p0 p1 p2 p3 p4
    go_upto_region 7 with fail
    rw [← HW4.out]
    have g0 : W4.cell? ⟨w4.heap.size, 0, none⟩ = some (.string L) := by rw [cell_of_row _ _ _ _ _ _ HY4.out]; rfl
    have g1 : W4.cell? ⟨w4.heap.size, 1, none⟩ = some (.string M_) := by rw [cell_of_row _ _ _ _ _ _ HY4.out]; rfl
    have g2 : W4.cell? ⟨w4.heap.size, 2, none⟩ = some (.string F) := by rw [cell_of_row _ _ _ _ _ _ HY4.out]; rfl
    have g3 : W4.cell? ⟨w4.heap.size, 3, none⟩ = some (.slice A4 l.length c4) := by rw [cell_of_row _ _ _ _ _ _ HY4.out]; rfl
    have g4 : W4.cell? ⟨w4.heap.size, 4, none⟩ = some (.int .i64 keep) := by rw [cell_of_row _ _ _ _ _ _ HY4.out]; rfl
    go_wp2_with fail
    go_at_call 34
    refine Calls.mono (HEI.out W4 A4 c4 OX4.out.strs.1) ?_
    rintro e w5 ⟨v5, rfl, o5, b5⟩
    obtain ⟨Ag, cg, hv5, hcg, hmg, s5⟩ := o5.parts
    subst hv5
    have OG5 := Lib.hid o5
    have hs5 := b5.size
    have HX5 := Lib.hid (box_below HX4.out b5)
    have HY5 := Lib.hid (box_below HY4.out b5)
    have OX5 := Lib.hid (OX4.out.below b5)
    have Q5 := Lib.hid (Q4.out.below b5 (by omega))
    have HB5 := Lib.hid (HB4.out.trans (b5.mono HB4.out.size))
    clear o5 b5 s5 HX4 HY4 OX4 Q4 HB4 g0 g1 g2 g3 g4
    go_wp2_with fail
    go_at_call 61
    (with_reducible refine (eqL w5 w5.heap.size hs.length cg hs.length cw Ag Aw hs hs OG5.out.strs.1 (Q5.out.more (by omega)) (by omega) (by omega)).mono ?_)
    rw [sameL_self]
    rintro e w6 ⟨rfl, m_⟩
    have b_ := m_.below w5.heap.size
    have hs_w6 := b_.size
    have HX6 := Lib.hid (box_below HX5.out b_)
    have HY6 := Lib.hid (box_below HY5.out b_)
    have OX6 := Lib.hid (OX5.out.below b_)
    have OG6 := Lib.hid (OG5.out.below b_)
    have Q6 := Lib.hid (Q5.out.below b_ (by omega))
    have HB6 := Lib.hid (HB5.out.trans (b_.mono HB5.out.size))
    clear m_ b_ HX5 HY5 OX5 OG5 Q5 HB5
    have HSS := Lib.hid (show ∀ W, Below w6.heap.size w6 W → (fun W : World => W.cell? ⟨w4.heap.size, 0, none⟩ = some (.string L) ∧ W.cell? ⟨w4.heap.size, 1, none⟩ = some (.string M_) ∧ W.cell? ⟨w4.heap.size, 2, none⟩ = some (.string F) ∧ W.cell? ⟨w4.heap.size, 3, none⟩ = some (.slice A4 l.length c4) ∧ W.cell? ⟨w4.heap.size, 4, none⟩ = some (.int .i64 keep) ∧ W.cell? ⟨w.heap.size, 0, none⟩ = some (.string L) ∧ W.cell? ⟨w.heap.size, 1, none⟩ = some (.string M_) ∧ W.cell? ⟨w.heap.size, 2, none⟩ = some (.string F) ∧ W.cell? ⟨w.heap.size, 3, none⟩ = some (.slice A l.length c) ∧ W.cell? ⟨w.heap.size, 4, none⟩ = some (.int .i64 keep)) W from fun W hW => by
      have h1 := box_below HY6.out hW
      have h2 := box_below HX6.out hW
      refine ⟨?_, ?_, ?_, ?_, ?_, ?_, ?_, ?_, ?_, ?_⟩
      · rw [cell_of_row _ _ _ _ _ _ h1]; rfl
      · rw [cell_of_row _ _ _ _ _ _ h1]; rfl
      · rw [cell_of_row _ _ _ _ _ _ h1]; rfl
      · rw [cell_of_row _ _ _ _ _ _ h1]; rfl
      · rw [cell_of_row _ _ _ _ _ _ h1]; rfl
      · rw [cell_of_row _ _ _ _ _ _ h2]; rfl
      · rw [cell_of_row _ _ _ _ _ _ h2]; rfl
      · rw [cell_of_row _ _ _ _ _ _ h2]; rfl
      · rw [cell_of_row _ _ _ _ _ _ h2]; rfl
      · rw [cell_of_row _ _ _ _ _ _ h2]; rfl)
    have HCP := Lib.hid (show ∀ W : World, Below w6.heap.size w6 W → Calls Try.prog 66 #[.agg #[.string L, .string M_, .string F, .slice A l.length c, .int .i64 keep]] W fun e w7 => ∃ A6 c6, e = .returned (.agg #[.string L, .string M_, .string F, .slice A6 l.length c6, .int .i64 keep]) ∧ Below w6.heap.size w6 w7 ∧ Calls Try.prog 60 #[.agg #[.string L, .string M_, .string F, .slice A4 l.length c4, .int .i64 keep], .agg #[.string L, .string M_, .string F, .slice A6 l.length c6, .int .i64 keep]] w7 (fun e w8 => e = .returned (.bool true) ∧ Below w6.heap.size w6 w8) from fun W hbW => by
      have hbb := HB6.out.trans (hbW.mono HB6.out.size)
      refine (copySv W l.length c A L M_ F keep l w.heap.size (S0.out.below hbb (Nat.le_refl _)) hbb.size (by omega)).mono ?_
      rintro e w7 ⟨A6, c6, rfl, o6, b6⟩
      have hb6 : Below w6.heap.size w6 w7 := hbW.trans (b6.mono hbW.size)
      refine ⟨A6, c6, rfl, hb6, ?_⟩
      have h := eqSieveS L M_ F L M_ F A4 A6 l.length c4 l.length c6 l l keep keep w7 ((OX6.out.below hb6).strs.1) o6.strs.1 hnm hnm
      rw [sameSv_same] at h
      exact h.mono fun _ _ ⟨he, hb⟩ => ⟨he, hb6.trans (hb.mono hb6.size)⟩)
    go_upto_region 10 with fail
    go_region_held3 (fun W : World => W.cell? ⟨w4.heap.size, 0, none⟩ = some (.string L) ∧ W.cell? ⟨w4.heap.size, 1, none⟩ = some (.string M_) ∧ W.cell? ⟨w4.heap.size, 2, none⟩ = some (.string F) ∧ W.cell? ⟨w4.heap.size, 3, none⟩ = some (.slice A4 l.length c4) ∧ W.cell? ⟨w4.heap.size, 4, none⟩ = some (.int .i64 keep) ∧ W.cell? ⟨w.heap.size, 0, none⟩ = some (.string L) ∧ W.cell? ⟨w.heap.size, 1, none⟩ = some (.string M_) ∧ W.cell? ⟨w.heap.size, 2, none⟩ = some (.string F) ∧ W.cell? ⟨w.heap.size, 3, none⟩ = some (.slice A l.length c) ∧ W.cell? ⟨w.heap.size, 4, none⟩ = some (.int .i64 keep)) (exact HSS.out _ (by first | exact HB7.out | exact bel_to (Below.refl _ _) (by rfl) (by rfl) (by rfl) (by rfl))) (first | (go_at_call 66; refine Calls.mono (HCP.out _ (by first | exact HB7.out | exact bel_to (Below.refl _ _) (by rfl) (by rfl) (by rfl) (by rfl))) ?_; rintro e w7 ⟨A6, c6, rfl, hb7, hq7⟩; have HB7 := Lib.hid hb7; have HQ7 := Lib.hid hq7; clear hb7 hq7) | (go_at_call 60; refine HQ7.out.mono ?_; rintro e w8 ⟨rfl, hb7⟩; have HB7 := Lib.hid hb7; clear hb7))
    have b_ := HB7.out
    have hs8 := b_.size
    have HX8 := Lib.hid (box_below HX6.out b_)
    have HY8 := Lib.hid (box_below HY6.out b_)
    have OX8 := Lib.hid (OX6.out.below b_)
    have OG8 := Lib.hid (OG6.out.below b_)
    have Q8 := Lib.hid (Q6.out.below b_ (by omega))
    have HB8 := Lib.hid (HB6.out.trans (b_.mono HB6.out.size))
    clear b_ HX6 HY6 OX6 OG6 Q6 HB6 HSS HCP HB7 HQ7
    have g0 : w8.cell? ⟨w4.heap.size, 0, none⟩ = some (.string L) := by rw [cell_of_row _ _ _ _ _ _ HY8.out]; rfl
    have g1 : w8.cell? ⟨w4.heap.size, 1, none⟩ = some (.string M_) := by rw [cell_of_row _ _ _ _ _ _ HY8.out]; rfl
    have g2 : w8.cell? ⟨w4.heap.size, 2, none⟩ = some (.string F) := by rw [cell_of_row _ _ _ _ _ _ HY8.out]; rfl
    have g3 : w8.cell? ⟨w4.heap.size, 3, none⟩ = some (.slice A4 l.length c4) := by rw [cell_of_row _ _ _ _ _ _ HY8.out]; rfl
    have g4 : w8.cell? ⟨w4.heap.size, 4, none⟩ = some (.int .i64 keep) := by rw [cell_of_row _ _ _ _ _ _ HY8.out]; rfl
    go_wp2_with fail
    go_at_call 63
    (with_reducible refine (markSv w8 w3.heap.size l.length c4 A4 L M_ F keep l OX8.out (by omega)).mono ?_)
    rintro e w9 ⟨rfl, o9, g9⟩
    have b_ := marked_below OX8.out g9 (by omega)
    have hs9 := g9.size
    have OG9 := Lib.hid (own_apart OG8.out g9 HXB.out)
    have Q9 := Lib.hid (Q8.out.below b_ (Nat.le_refl _))
    have HX9 := Lib.hid ((b_.block _ (by omega)).trans HX8.out)
    have HB9 := Lib.hid (HB8.out.trans (b_.mono HB3s.out))
    clear o9 g9 b_ OX8 OG8 Q8 HX8 HY8 HB8 HXB g0 g1 g2 g3 g4
    go_wp2_with fail
    go_at_call 61
    (with_reducible refine (eqL w9 w9.heap.size hs.length cg hs.length cw Ag Aw hs hs OG9.out.strs.1 (Q9.out.more (by omega)) (by omega) (by omega)).mono ?_)
    rw [sameL_self]
    rintro e wa ⟨rfl, m_⟩
    have b_ := m_.below w9.heap.size
    have hs_wa := b_.size
    have HXa := Lib.hid (box_below HX9.out b_)
    have OGa := Lib.hid (OG9.out.below b_)
    have Qa := Lib.hid (Q9.out.below b_ (by omega))
    have HBa := Lib.hid (HB9.out.trans (b_.mono HB9.out.size))
    clear m_ b_ HX9 OG9 Q9 HB9
    go_wp2_with fail
    go_at_call 62
    (with_reducible refine (mark1 wa W4.heap.size hs.length cg Ag hs OGa.out (by omega)).mono ?_)
    rintro e wb ⟨rfl, ob, gb⟩
    have b_ := marked_below OGa.out gb (by omega)
    have hsb := gb.size
    have OGb := Lib.hid ob
    have Qb := Lib.hid (Qa.out.below b_ (by omega))
    have HXb := Lib.hid ((b_.block _ (by omega)).trans HXa.out)
    have HBb := Lib.hid (HBa.out.trans (b_.mono HB4s.out))
    clear ob gb b_ OGa Qa HXa HBa
    go_wp2_with fail
    go_at_call 67
    (with_reducible refine (held1 wb wb.heap.size hs.length cg Ag OGb.out.strs.1 (Nat.le_refl _) (by omega)).mono ?_)
    rintro e wc ⟨rfl, b_⟩
    have hsc := b_.size
    have OGc := Lib.hid (OGb.out.below b_)
    have Qc := Lib.hid (Qb.out.below b_ (by omega))
    have HXc := Lib.hid (box_below HXb.out b_)
    have HBc := Lib.hid (HBb.out.trans (b_.mono HBb.out.size))
    clear b_ OGb Qb HXb HBb
    have p0 : wc.cell? ⟨w.heap.size, 0, none⟩ = some (.string L) := by rw [cell_of_row _ _ _ _ _ _ HXc.out]; rfl
    have p1 : wc.cell? ⟨w.heap.size, 1, none⟩ = some (.string M_) := by rw [cell_of_row _ _ _ _ _ _ HXc.out]; rfl
    have p2 : wc.cell? ⟨w.heap.size, 2, none⟩ = some (.string F) := by rw [cell_of_row _ _ _ _ _ _ HXc.out]; rfl
    have p3 : wc.cell? ⟨w.heap.size, 3, none⟩ = some (.slice A l.length c) := by rw [cell_of_row _ _ _ _ _ _ HXc.out]; rfl
    have p4 : wc.cell? ⟨w.heap.size, 4, none⟩ = some (.int .i64 keep) := by rw [cell_of_row _ _ _ _ _ _ HXc.out]; rfl
    go_wp2_with fail
    go_at_call 66
    refine (copySv wc l.length c A L M_ F keep l w.heap.size (S0.out.below HBc.out (Nat.le_refl _)) HBc.out.size (by omega)).mono ?_
    rintro e wd ⟨Ad, cd, rfl, o_, b_⟩
    obtain ⟨sd, hcd, hmd⟩ := o_.strs
    have Pd := Lib.hid sd
    have hsd := b_.size
    have OGd := Lib.hid (OGc.out.below b_)
    have Qd := Lib.hid (Qc.out.below b_ (by omega))
    have HBd := Lib.hid (HBc.out.trans (b_.mono HBc.out.size))
    clear o_ b_ sd OGc Qc HXc HBc p0 p1 p2 p3 p4
    go_wp2_with fail
    go_at_call 34
    refine Calls.mono (HEI.out wd Ad cd Pd.out) ?_
    rintro e we ⟨ve, rfl, oe, b_⟩
    obtain ⟨Ah, ch, hve, hch, hmh, se⟩ := oe.parts
    subst hve
    have Ph := Lib.hid se
    have hse := b_.size
    have OGe := Lib.hid (OGd.out.below b_)
    have Qe := Lib.hid (Qd.out.below b_ (by omega))
    have HBe := Lib.hid (HBd.out.trans (b_.mono HBd.out.size))
    clear oe b_ se OGd Qd HBd Pd
    go_wp2_with fail
    go_at_call 61
    (with_reducible refine (eqL we we.heap.size hs.length ch hs.length cw Ah Aw hs hs Ph.out (Qe.out.more (by omega)) (by omega) (by omega)).mono ?_)
    rw [sameL_self]
    rintro e wf ⟨rfl, m_⟩
    have b_ := m_.below we.heap.size
    have hs_wf := b_.size
    have OGf := Lib.hid (OGe.out.below b_)
    have HBf := Lib.hid (HBe.out.trans (b_.mono HBe.out.size))
    clear m_ b_ OGe Qe HBe Ph
    go_wp2_with fail
    go_at_call 67
    (with_reducible refine (held1 wf wf.heap.size hs.length cg Ag OGf.out.strs.1 (Nat.le_refl _) (by omega)).mono ?_)
    rintro e wg ⟨rfl, b_⟩
    have HBg := Lib.hid (HBf.out.trans (b_.mono HBf.out.size))
    clear b_ OGf HBf
    go_wp2
    go_ret
    exact ⟨rfl, HBg.out⟩

end Go.Proofs.Ytakadkhgcjndmaa.W
