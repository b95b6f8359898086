/-
  The exact law of SieveOf, as a walk over the contracts.
-/
import Derived.Test.YtakadkhgcjndmaaL6
import Derived.Test.YtakadkhgcjndmaaDS5
import Derived.Test.YtakadkhgcjndmaaJ8
namespace Go.Proofs.Ytakadkhgcjndmaa.W
open Go.RowKit K

theorem sameSv_same (L M_ F : ByteArray) (l : List ByteArray) (k : Int) : sameSv L M_ F L M_ F l l k k = true := sameSv_iff.mpr ⟨rfl, rfl, rfl, rfl, rfl⟩
/-- two filters with the same fields are the same -/
theorem eqSv (L M_ F : ByteArray) (A A2 : Option Addr) (n c c2 : Nat) (l : List ByteArray) (k : Int) (w : World) (hr : Strs w w.heap.size A n l) (hr2 : Strs w w.heap.size A2 n l) (hn : n ≤ 1000) :
    Calls Try.prog 60 #[.agg #[.string L, .string M_, .string F, .slice A n c, .int .i64 k], .agg #[.string L, .string M_, .string F, .slice A2 n c2, .int .i64 k]] w fun e w' => e = .returned (.bool true) ∧ Below w.heap.size w w' := by
  have h := eqSieveS L M_ F L M_ F A A2 n c n c2 l l k k w hr hr2 (by unfold maxLen; omega) (by unfold maxLen; omega)
  rw [sameSv_same] at h
  exact h
theorem box_below {w w' : World} {b : Nat} {o : Obj} (h : w.heap[b]? = some o) (hb : Below w.heap.size w w') : w'.heap[b]? = some o := (hb.block _ (Array.getElem?_eq_some_iff.1 h).1).trans h
theorem box_mark {w w' : World} {b base : Nat} {cs : Array Value} {v : Value} {l : List ByteArray} (h : w.heap[b]? = some (.cells cs 27 (0, 0))) (ho : Own w base v l) (hg : w.grownBy w' v.ownBlock) : w'.heap[b]? = some (.cells cs 27 (0, 0)) :=
  (hg.block _ (Array.getElem?_eq_some_iff.1 h).1 (fun e => own_ne_box ho h _ e.symm rfl)).trans h

set_option maxHeartbeats 8000000 in
set_option maxRecDepth 100000 in
theorem exactSieveOf (w : World) (A : Option Addr) (n c : Nat) (l : List ByteArray) (keep : Int) (hs : Strs w w.heap.size A n l) (hnc : n ≤ c) (hc : c ≤ maxLen) (hf : Fit l) :
    Calls Try.prog 21 #[.slice A n c, .int .i64 keep] w fun e w' => e = .returned (.bool true) ∧ Below w.heap.size w w' := by
  have hlen := hs.len
  subst hlen
  have hRl := svR_len l keep
  obtain ⟨L, hL⟩ : ∃ x, x = svL l keep := ⟨_, rfl⟩
  obtain ⟨M_, hM⟩ : ∃ x, x = svM l keep := ⟨_, rfl⟩
  obtain ⟨F, hF⟩ : ∃ x, x = svF l keep := ⟨_, rfl⟩
  obtain ⟨R, hR⟩ : ∃ x, x = svR l keep := ⟨_, rfl⟩
  obtain ⟨K0, hK⟩ : ∃ x, x = svK l keep := ⟨_, rfl⟩
  obtain ⟨b, hb⟩ : ∃ x, x = svYes l keep := ⟨_, rfl⟩
  rw [← hR] at hRl
  have HOS := Lib.hid (show ∀ (W : World) (A : Option Addr) (n c : Nat), Strs W W.heap.size A n l → n ≤ c → c ≤ maxLen → Calls Try.prog 29 #[.slice A n c, .int .i64 keep] W (OfF W L M_ F R K0 b) from fun W A n c h1 h2 h3 => (ofS W n c A l keep h1 h2 h3 hf).mono fun _ _ h => by rw [hL, hM, hF, hR, hK, hb]; exact of_fields h)
  have HOI := Lib.hid (show ∀ (W : World) (A : Option Addr) (n c : Nat), Strs W W.heap.size A n l → n ≤ c → c ≤ maxLen → Calls Try.prog 30 #[.slice A n c, .int .i64 keep] W (OfF W L M_ F R K0 b) from fun W A n c h1 h2 h3 => (ofI W n c A l keep h1 h2 h3 hf).mono fun _ _ h => by rw [hL, hM, hF, hR, hK, hb]; exact of_fields h)
  have S0 := Lib.hid hs
  have FL := Lib.hid hf
  clear hs hf hL hM hF hR hK hb
  go_enter Try.func21, Try.ntmps21
  go_wp2_with fail
  go_at_call 58
  refine (sizeS w w.heap.size l.length c 1048576 A l S0.out (by omega) FL.out (by omega)).mono ?_
  rintro e w' ⟨x, rfl, hx0, hx1, hx2, rfl⟩
  by_cases hneg : x < 0
  · clear hx2
    go_wp2
    go_ret
    exact ⟨rfl, Below.refl _ _⟩
  · have hlen := (hx2 (by omega)).1
    clear hx2
    go_wp2_with fail
    go_at_call 59
    refine Calls.mono (copyS _ w.heap.size l.length c A l S0.out (Nat.le_refl _) (by omega)) ?_
    rintro e w1 ⟨vw1, rfl, ow1, bw1⟩
    obtain ⟨Aw1, cw1, hvw1, hcw1, hmw1, sw1⟩ := ow1.parts
    subst hvw1
    have T1 := Lib.hid sw1
    have B1 := Lib.hid bw1
    clear ow1 bw1 sw1
    go_wp2_with fail
    go_at_call 29
    refine Calls.mono (HOS.out w1 Aw1 l.length cw1 T1.out hcw1 hmw1) ?_
    rintro e w2 ⟨A2, c2, rfl, o2, b2⟩
    have hsz2 := b2.size
    have P2 := Lib.hid o2.strs.1
    have B2 := Lib.hid (B1.out.trans (b2.mono B1.out.size))
    clear o2 b2 B1 T1
    obtain ⟨W2, hW2⟩ : ∃ W2, W2 = w2.alloc (.cells #[.string L, .string M_, .string F, .slice A2 R.length c2, .int .i64 K0] 27) := ⟨_, rfl⟩
    have hbw : Below w2.heap.size w2 W2 := by rw [hW2]; exact (Below.refl _ _).alloc (Nat.le_refl _) _
    have X2 := Lib.hid (show W2.heap[w2.heap.size]? = some (.cells #[.string L, .string M_, .string F, .slice A2 R.length c2, .int .i64 K0] 27 (0, 0)) by rw [hW2]; exact heap_alloc_new _ _)
    have BW := Lib.hid (B2.out.trans (hbw.mono B2.out.size))
    have PW := Lib.hid ((P2.out.below hbw (Nat.le_refl _)).more hbw.size)
    have hBWs := BW.out.size
    have HC := Lib.hid (copyS W2 w.heap.size l.length c A l (S0.out.below BW.out (Nat.le_refl _)) hBWs (by omega))
    rw [hW2] at HC
    have HW2 := Lib.hid hW2
    clear hbw hW2 P2 B2
    go_wp2_with fail
    go_at_call 59
    refine HC.out.mono ?_
    rw [← HW2.out]
    rintro e w3 ⟨v3, rfl, o3, b3⟩
    obtain ⟨A3, c3, hv3, hc3, hm3, s3⟩ := o3.parts
    subst hv3
    have hs3 := b3.size
    have OX3 := Lib.hid o3
    have P3 := Lib.hid (PW.out.below b3 (Nat.le_refl _))
    have hz3 : W2.heap.size ≤ w3.heap.size := hs3
    have B3 := Lib.hid (BW.out.trans (b3.mono BW.out.size))
    have X3 := Lib.hid (box_below X2.out b3)
    clear o3 b3 s3 X2 PW BW
    go_wp2_with fail
    go_at_call 30
    refine Calls.mono (HOI.out w3 A3 l.length c3 OX3.out.strs.1 hc3 hm3) ?_
    rintro e w4 ⟨A4, c4, rfl, o4, b4⟩
    have hs4 := b4.size
    have OX4 := Lib.hid (OX3.out.below b4)
    have HXB := Lib.hid (fun k hk => (World.ownsRow.lt OX3.out k hk).2)
    have P4 := Lib.hid (P3.out.below b4 hz3)
    have hz4 : W2.heap.size ≤ w4.heap.size := Nat.le_trans hz3 hs4
    have B4 := Lib.hid (B3.out.trans (b4.mono B3.out.size))
    have X4 := Lib.hid (box_below X3.out b4)
    have OG4 := Lib.hid o4
    clear o4 b4 X3 P3 B3 OX3
    obtain ⟨W4, hW4⟩ : ∃ W4, W4 = w4.alloc (.cells #[.string L, .string M_, .string F, .slice A4 R.length c4, .int .i64 K0] 27) := ⟨_, rfl⟩
    have hbw : Below w4.heap.size w4 W4 := by rw [hW4]; exact (Below.refl _ _).alloc (Nat.le_refl _) _
    have Y5 := Lib.hid (show W4.heap[w4.heap.size]? = some (.cells #[.string L, .string M_, .string F, .slice A4 R.length c4, .int .i64 K0] 27 (0, 0)) by rw [hW4]; exact heap_alloc_new _ _)
    have X5 := Lib.hid (box_below X4.out hbw)
    have OX5 := Lib.hid (OX4.out.below hbw)
    have OG5 := Lib.hid (OG4.out.below hbw)
    have P5 := Lib.hid (P4.out.below hbw hz4)
    have hz5 : W2.heap.size ≤ W4.heap.size := Nat.le_trans hz4 hbw.size
    have B5 := Lib.hid (B4.out.trans (hbw.mono B4.out.size))
    have hv5 := hbw.size
    have HW4 := Lib.hid hW4
    clear hbw hW4 X4 OX4 OG4 P4 B4
    go_upto_region 8 with fail
    rw [← HW4.out]
    have p0 : W4.cell? ⟨w2.heap.size, 0, none⟩ = some (.string L) := by rw [cell_of_row _ _ _ _ _ _ X5.out]; rfl
    have p1 : W4.cell? ⟨w2.heap.size, 1, none⟩ = some (.string M_) := by rw [cell_of_row _ _ _ _ _ _ X5.out]; rfl
    have p2 : W4.cell? ⟨w2.heap.size, 2, none⟩ = some (.string F) := by rw [cell_of_row _ _ _ _ _ _ X5.out]; rfl
    have p3 : W4.cell? ⟨w2.heap.size, 3, none⟩ = some (.slice A2 R.length c2) := by rw [cell_of_row _ _ _ _ _ _ X5.out]; rfl
    have p4 : W4.cell? ⟨w2.heap.size, 4, none⟩ = some (.int .i64 K0) := by rw [cell_of_row _ _ _ _ _ _ X5.out]; rfl
    have g0 : W4.cell? ⟨w4.heap.size, 0, none⟩ = some (.string L) := by rw [cell_of_row _ _ _ _ _ _ Y5.out]; rfl
    have g1 : W4.cell? ⟨w4.heap.size, 1, none⟩ = some (.string M_) := by rw [cell_of_row _ _ _ _ _ _ Y5.out]; rfl
    have g2 : W4.cell? ⟨w4.heap.size, 2, none⟩ = some (.string F) := by rw [cell_of_row _ _ _ _ _ _ Y5.out]; rfl
    have g3 : W4.cell? ⟨w4.heap.size, 3, none⟩ = some (.slice A4 R.length c4) := by rw [cell_of_row _ _ _ _ _ _ Y5.out]; rfl
    have g4 : W4.cell? ⟨w4.heap.size, 4, none⟩ = some (.int .i64 K0) := by rw [cell_of_row _ _ _ _ _ _ Y5.out]; rfl
    go_wp2_with fail
    go_at_call 60
    refine Calls.mono (eqSv L M_ F A4 A2 R.length c4 c2 R K0 W4 OG5.out.strs.1 (P5.out.more hz5) (by omega)) ?_
    rintro e w6 ⟨rfl, b6⟩
    have hv6 := b6.size
    have hz6 : W2.heap.size ≤ w6.heap.size := Nat.le_trans hz5 b6.size
    have X6 := Lib.hid (box_below X5.out b6)
    have Y6 := Lib.hid (box_below Y5.out b6)
    have OG6 := Lib.hid (OG5.out.below b6)
    have P6 := Lib.hid (P5.out.below b6 hz5)
    have B6 := Lib.hid (B5.out.trans (b6.mono B5.out.size))
    have OX6 := Lib.hid (OX5.out.below b6)
    clear X5 Y5 OG5 P5 B5 OX5
    clear b6
    clear p0 p1 p2 p3 p4 g0 g1 g2 g3 g4
    have hB6s := B6.out.size
    have S6 := Lib.hid (S0.out.below B6.out (Nat.le_refl _))
    go_wp2_with fail
    go_at_call 59
    refine Calls.mono (copyS w6 w.heap.size l.length c A l S6.out hB6s (by omega)) ?_
    rintro e w7 ⟨v7, rfl, o7, b7⟩
    obtain ⟨A7, c7, hv7, hc7, hm7, s7⟩ := o7.parts
    subst hv7
    have Z7 := Lib.hid s7
    clear o7 s7 S6
    have hv7 := b7.size
    have hz7 : W2.heap.size ≤ w7.heap.size := Nat.le_trans hz6 b7.size
    have X7 := Lib.hid (box_below X6.out b7)
    have Y7 := Lib.hid (box_below Y6.out b7)
    have OG7 := Lib.hid (OG6.out.below b7)
    have P7 := Lib.hid (P6.out.below b7 hz6)
    have B7 := Lib.hid (B6.out.trans (b7.mono B6.out.size))
    have OX7 := Lib.hid (OX6.out.below b7)
    clear X6 Y6 OG6 P6 B6 OX6
    clear b7
    go_wp2_with fail
    go_at_call 61
    refine Calls.mono (eqL w7 w7.heap.size l.length c3 l.length c7 A3 A7 l l OX7.out.strs.1 Z7.out (by omega) (by omega)) ?_
    rw [sameL_self]
    rintro e w8 ⟨rfl, m8⟩
    have b8 := m8.below w7.heap.size
    clear m8 Z7
    have hv8 := b8.size
    have hz8 : W2.heap.size ≤ w8.heap.size := Nat.le_trans hz7 b8.size
    have X8 := Lib.hid (box_below X7.out b8)
    have Y8 := Lib.hid (box_below Y7.out b8)
    have OG8 := Lib.hid (OG7.out.below b8)
    have P8 := Lib.hid (P7.out.below b8 hz7)
    have B8 := Lib.hid (B7.out.trans (b8.mono B7.out.size))
    have OX8 := Lib.hid (OX7.out.below b8)
    clear X7 Y7 OG7 P7 B7 OX7
    clear b8
    go_wp2_with fail
    go_at_call 62
    refine Calls.mono (mark1 w8 W2.heap.size l.length c3 A3 l OX8.out (by omega)) ?_
    rintro e w9 ⟨rfl, o9, g9⟩
    have X9 := Lib.hid (box_mark X8.out OX8.out g9)
    have Y9 := Lib.hid (box_mark Y8.out OX8.out g9)
    have OG9 := Lib.hid (own_apart OG8.out g9 HXB.out)
    have hB8s := B8.out.size
    have hg9 := g9.size
    have P9 := Lib.hid (P8.out.below (marked_below OX8.out g9 hz8) (Nat.le_refl _))
    have hz9 : W2.heap.size ≤ w9.heap.size := Nat.le_trans hz8 hg9
    have B9 := Lib.hid (B8.out.grown g9 B8.out.size (fun k hk => by have := (World.ownsRow.lt OX8.out k hk).1; omega))
    clear o9 g9 X8 Y8 OG8 P8 B8 OX8
    have p0 : w9.cell? ⟨w2.heap.size, 0, none⟩ = some (.string L) := by rw [cell_of_row _ _ _ _ _ _ X9.out]; rfl
    have p1 : w9.cell? ⟨w2.heap.size, 1, none⟩ = some (.string M_) := by rw [cell_of_row _ _ _ _ _ _ X9.out]; rfl
    have p2 : w9.cell? ⟨w2.heap.size, 2, none⟩ = some (.string F) := by rw [cell_of_row _ _ _ _ _ _ X9.out]; rfl
    have p3 : w9.cell? ⟨w2.heap.size, 3, none⟩ = some (.slice A2 R.length c2) := by rw [cell_of_row _ _ _ _ _ _ X9.out]; rfl
    have p4 : w9.cell? ⟨w2.heap.size, 4, none⟩ = some (.int .i64 K0) := by rw [cell_of_row _ _ _ _ _ _ X9.out]; rfl
    have g0 : w9.cell? ⟨w4.heap.size, 0, none⟩ = some (.string L) := by rw [cell_of_row _ _ _ _ _ _ Y9.out]; rfl
    have g1 : w9.cell? ⟨w4.heap.size, 1, none⟩ = some (.string M_) := by rw [cell_of_row _ _ _ _ _ _ Y9.out]; rfl
    have g2 : w9.cell? ⟨w4.heap.size, 2, none⟩ = some (.string F) := by rw [cell_of_row _ _ _ _ _ _ Y9.out]; rfl
    have g3 : w9.cell? ⟨w4.heap.size, 3, none⟩ = some (.slice A4 R.length c4) := by rw [cell_of_row _ _ _ _ _ _ Y9.out]; rfl
    have g4 : w9.cell? ⟨w4.heap.size, 4, none⟩ = some (.int .i64 K0) := by rw [cell_of_row _ _ _ _ _ _ Y9.out]; rfl
    go_wp2_with fail
    go_at_call 60
    refine Calls.mono (eqSv L M_ F A4 A2 R.length c4 c2 R K0 w9 OG9.out.strs.1 (P9.out.more hz9) (by omega)) ?_
    rintro e w10 ⟨rfl, b10⟩
    have hv10 := b10.size
    have hz10 : W2.heap.size ≤ w10.heap.size := Nat.le_trans hz9 b10.size
    have X10 := Lib.hid (box_below X9.out b10)
    have Y10 := Lib.hid (box_below Y9.out b10)
    have OG10 := Lib.hid (OG9.out.below b10)
    have P10 := Lib.hid (P9.out.below b10 hz9)
    have B10 := Lib.hid (B9.out.trans (b10.mono B9.out.size))
    clear X9 Y9 OG9 P9 B9
    clear b10
    clear p0 p1 p2 p3 p4 g0 g1 g2 g3 g4
    have p0 : w10.cell? ⟨w2.heap.size, 0, none⟩ = some (.string L) := by rw [cell_of_row _ _ _ _ _ _ X10.out]; rfl
    have p1 : w10.cell? ⟨w2.heap.size, 1, none⟩ = some (.string M_) := by rw [cell_of_row _ _ _ _ _ _ X10.out]; rfl
    have p2 : w10.cell? ⟨w2.heap.size, 2, none⟩ = some (.string F) := by rw [cell_of_row _ _ _ _ _ _ X10.out]; rfl
    have p3 : w10.cell? ⟨w2.heap.size, 3, none⟩ = some (.slice A2 R.length c2) := by rw [cell_of_row _ _ _ _ _ _ X10.out]; rfl
    have p4 : w10.cell? ⟨w2.heap.size, 4, none⟩ = some (.int .i64 K0) := by rw [cell_of_row _ _ _ _ _ _ X10.out]; rfl
    have g0 : w10.cell? ⟨w4.heap.size, 0, none⟩ = some (.string L) := by rw [cell_of_row _ _ _ _ _ _ Y10.out]; rfl
    have g1 : w10.cell? ⟨w4.heap.size, 1, none⟩ = some (.string M_) := by rw [cell_of_row _ _ _ _ _ _ Y10.out]; rfl
    have g2 : w10.cell? ⟨w4.heap.size, 2, none⟩ = some (.string F) := by rw [cell_of_row _ _ _ _ _ _ Y10.out]; rfl
    have g3 : w10.cell? ⟨w4.heap.size, 3, none⟩ = some (.slice A4 R.length c4) := by rw [cell_of_row _ _ _ _ _ _ Y10.out]; rfl
    have g4 : w10.cell? ⟨w4.heap.size, 4, none⟩ = some (.int .i64 K0) := by rw [cell_of_row _ _ _ _ _ _ Y10.out]; rfl
    go_wp2_with fail
    go_at_call 63
    refine Calls.mono (markSv w10 w3.heap.size R.length c4 A4 L M_ F K0 R OG10.out (by omega)) ?_
    rintro e w11 ⟨rfl, o11, g11⟩
    have HY10 := Lib.hid (show w3.heap.size ≤ w10.heap.size by omega)
    have X11 := Lib.hid (box_mark X10.out OG10.out g11)
    have Y11 := Lib.hid (box_mark Y10.out OG10.out g11)
    have OG11 := Lib.hid o11
    have hy10 : w3.heap.size ≤ w10.heap.size := HY10.out
    have P11 := Lib.hid (P10.out.below (marked_below OG10.out g11 hy10) hz3)
    have hz11 : W2.heap.size ≤ w11.heap.size := Nat.le_trans hz10 g11.size
    have B11 := Lib.hid (B10.out.grown g11 B10.out.size (fun k hk => by have := (World.ownsRow.lt OG10.out k hk).1; omega))
    clear o11 g11 X10 Y10 OG10 P10 B10
    clear p0 p1 p2 p3 p4 g0 g1 g2 g3 g4
    have p0 : w11.cell? ⟨w2.heap.size, 0, none⟩ = some (.string L) := by rw [cell_of_row _ _ _ _ _ _ X11.out]; rfl
    have p1 : w11.cell? ⟨w2.heap.size, 1, none⟩ = some (.string M_) := by rw [cell_of_row _ _ _ _ _ _ X11.out]; rfl
    have p2 : w11.cell? ⟨w2.heap.size, 2, none⟩ = some (.string F) := by rw [cell_of_row _ _ _ _ _ _ X11.out]; rfl
    have p3 : w11.cell? ⟨w2.heap.size, 3, none⟩ = some (.slice A2 R.length c2) := by rw [cell_of_row _ _ _ _ _ _ X11.out]; rfl
    have p4 : w11.cell? ⟨w2.heap.size, 4, none⟩ = some (.int .i64 K0) := by rw [cell_of_row _ _ _ _ _ _ X11.out]; rfl
    have g0 : w11.cell? ⟨w4.heap.size, 0, none⟩ = some (.string L) := by rw [cell_of_row _ _ _ _ _ _ Y11.out]; rfl
    have g1 : w11.cell? ⟨w4.heap.size, 1, none⟩ = some (.string M_) := by rw [cell_of_row _ _ _ _ _ _ Y11.out]; rfl
    have g2 : w11.cell? ⟨w4.heap.size, 2, none⟩ = some (.string F) := by rw [cell_of_row _ _ _ _ _ _ Y11.out]; rfl
    have g3 : w11.cell? ⟨w4.heap.size, 3, none⟩ = some (.slice A4 R.length c4) := by rw [cell_of_row _ _ _ _ _ _ Y11.out]; rfl
    have g4 : w11.cell? ⟨w4.heap.size, 4, none⟩ = some (.int .i64 K0) := by rw [cell_of_row _ _ _ _ _ _ Y11.out]; rfl
    go_wp2_with fail
    go_at_call 64
    refine Calls.mono (heldSv w11 w11.heap.size R.length c4 A4 L M_ F K0 OG11.out.strs.1 (Nat.le_refl _) (by omega)) ?_
    rintro e w12 ⟨rfl, b12⟩
    have hv12 := b12.size
    have hz12 : W2.heap.size ≤ w12.heap.size := Nat.le_trans hz11 b12.size
    have X12 := Lib.hid (box_below X11.out b12)
    have Y12 := Lib.hid (box_below Y11.out b12)
    have OG12 := Lib.hid (OG11.out.below b12)
    have P12 := Lib.hid (P11.out.below b12 hz11)
    have B12 := Lib.hid (B11.out.trans (b12.mono B11.out.size))
    clear X11 Y11 OG11 P11 B11
    clear b12
    clear p0 p1 p2 p3 p4 g0 g1 g2 g3 g4
    have hB12s := B12.out.size
    have S12 := Lib.hid (S0.out.below B12.out (Nat.le_refl _))
    go_wp2_with fail
    go_at_call 59
    refine Calls.mono (copyS w12 w.heap.size l.length c A l S12.out hB12s (by omega)) ?_
    rintro e w13 ⟨v13, rfl, o13, b13⟩
    obtain ⟨A13, c13, hv13, hc13, hm13, s13⟩ := o13.parts
    subst hv13
    have Z13 := Lib.hid s13
    clear o13 s13 S12
    have hv13 := b13.size
    have hz13 : W2.heap.size ≤ w13.heap.size := Nat.le_trans hz12 b13.size
    have X13 := Lib.hid (box_below X12.out b13)
    have Y13 := Lib.hid (box_below Y12.out b13)
    have OG13 := Lib.hid (OG12.out.below b13)
    have P13 := Lib.hid (P12.out.below b13 hz12)
    have B13 := Lib.hid (B12.out.trans (b13.mono B12.out.size))
    clear X12 Y12 OG12 P12 B12
    clear b13
    go_wp2_with fail
    go_at_call 30
    refine Calls.mono (HOI.out w13 A13 l.length c13 Z13.out hc13 hm13) ?_
    rintro e w14 ⟨A14, c14, rfl, o14, b14⟩
    have hb14 := b14.size
    have V14 := Lib.hid o14.strs.1
    clear Z13
    have hv14 := b14.size
    have hz14 : W2.heap.size ≤ w14.heap.size := Nat.le_trans hz13 b14.size
    have X14 := Lib.hid (box_below X13.out b14)
    have Y14 := Lib.hid (box_below Y13.out b14)
    have OG14 := Lib.hid (OG13.out.below b14)
    have P14 := Lib.hid (P13.out.below b14 hz13)
    have B14 := Lib.hid (B13.out.trans (b14.mono B13.out.size))
    clear X13 Y13 OG13 P13 B13
    clear o14 b14
    obtain ⟨W14, hW14⟩ : ∃ W, W = w14.alloc (.cells #[.string L, .string M_, .string F, .slice A14 R.length c14, .int .i64 K0] 27) := ⟨_, rfl⟩
    have hbw : Below w14.heap.size w14 W14 := by rw [hW14]; exact (Below.refl _ _).alloc (Nat.le_refl _) _
    have Q15 := Lib.hid (show W14.heap[w14.heap.size]? = some (.cells #[.string L, .string M_, .string F, .slice A14 R.length c14, .int .i64 K0] 27 (0, 0)) by rw [hW14]; exact heap_alloc_new _ _)
    have V15 := Lib.hid ((V14.out.below hbw (Nat.le_refl _)).more hbw.size)
    have hv15 := hbw.size
    have hz15 : W2.heap.size ≤ W14.heap.size := Nat.le_trans hz14 hbw.size
    have X15 := Lib.hid (box_below X14.out hbw)
    have Y15 := Lib.hid (box_below Y14.out hbw)
    have OG15 := Lib.hid (OG14.out.below hbw)
    have P15 := Lib.hid (P14.out.below hbw hz14)
    have B15 := Lib.hid (B14.out.trans (hbw.mono B14.out.size))
    clear X14 Y14 OG14 P14 B14
    have HW14 := Lib.hid hW14
    clear hbw hW14 V14
    go_upto_region 25 with fail
    rw [← HW14.out]
    have p0 : W14.cell? ⟨w2.heap.size, 0, none⟩ = some (.string L) := by rw [cell_of_row _ _ _ _ _ _ X15.out]; rfl
    have p1 : W14.cell? ⟨w2.heap.size, 1, none⟩ = some (.string M_) := by rw [cell_of_row _ _ _ _ _ _ X15.out]; rfl
    have p2 : W14.cell? ⟨w2.heap.size, 2, none⟩ = some (.string F) := by rw [cell_of_row _ _ _ _ _ _ X15.out]; rfl
    have p3 : W14.cell? ⟨w2.heap.size, 3, none⟩ = some (.slice A2 R.length c2) := by rw [cell_of_row _ _ _ _ _ _ X15.out]; rfl
    have p4 : W14.cell? ⟨w2.heap.size, 4, none⟩ = some (.int .i64 K0) := by rw [cell_of_row _ _ _ _ _ _ X15.out]; rfl
    have g0 : W14.cell? ⟨w4.heap.size, 0, none⟩ = some (.string L) := by rw [cell_of_row _ _ _ _ _ _ Y15.out]; rfl
    have g1 : W14.cell? ⟨w4.heap.size, 1, none⟩ = some (.string M_) := by rw [cell_of_row _ _ _ _ _ _ Y15.out]; rfl
    have g2 : W14.cell? ⟨w4.heap.size, 2, none⟩ = some (.string F) := by rw [cell_of_row _ _ _ _ _ _ Y15.out]; rfl
    have g3 : W14.cell? ⟨w4.heap.size, 3, none⟩ = some (.slice A4 R.length c4) := by rw [cell_of_row _ _ _ _ _ _ Y15.out]; rfl
    have g4 : W14.cell? ⟨w4.heap.size, 4, none⟩ = some (.int .i64 K0) := by rw [cell_of_row _ _ _ _ _ _ Y15.out]; rfl
    have q0 : W14.cell? ⟨w14.heap.size, 0, none⟩ = some (.string L) := by rw [cell_of_row _ _ _ _ _ _ Q15.out]; rfl
    have q1 : W14.cell? ⟨w14.heap.size, 1, none⟩ = some (.string M_) := by rw [cell_of_row _ _ _ _ _ _ Q15.out]; rfl
    have q2 : W14.cell? ⟨w14.heap.size, 2, none⟩ = some (.string F) := by rw [cell_of_row _ _ _ _ _ _ Q15.out]; rfl
    have q3 : W14.cell? ⟨w14.heap.size, 3, none⟩ = some (.slice A14 R.length c14) := by rw [cell_of_row _ _ _ _ _ _ Q15.out]; rfl
    have q4 : W14.cell? ⟨w14.heap.size, 4, none⟩ = some (.int .i64 K0) := by rw [cell_of_row _ _ _ _ _ _ Q15.out]; rfl
    go_wp2_with fail
    go_at_call 60
    refine Calls.mono (eqSv L M_ F A14 A2 R.length c14 c2 R K0 W14 V15.out (P15.out.more hz15) (by omega)) ?_
    rintro e w16 ⟨rfl, b16⟩
    have hv16 := b16.size
    have hz16 : W2.heap.size ≤ w16.heap.size := Nat.le_trans hz15 b16.size
    have X16 := Lib.hid (box_below X15.out b16)
    have Y16 := Lib.hid (box_below Y15.out b16)
    have OG16 := Lib.hid (OG15.out.below b16)
    have P16 := Lib.hid (P15.out.below b16 hz15)
    have B16 := Lib.hid (B15.out.trans (b16.mono B15.out.size))
    clear X15 Y15 OG15 P15 B15
    clear b16 q0 q1 q2 q3 q4
    clear p0 p1 p2 p3 p4 g0 g1 g2 g3 g4
    have p0 : w16.cell? ⟨w2.heap.size, 0, none⟩ = some (.string L) := by rw [cell_of_row _ _ _ _ _ _ X16.out]; rfl
    have p1 : w16.cell? ⟨w2.heap.size, 1, none⟩ = some (.string M_) := by rw [cell_of_row _ _ _ _ _ _ X16.out]; rfl
    have p2 : w16.cell? ⟨w2.heap.size, 2, none⟩ = some (.string F) := by rw [cell_of_row _ _ _ _ _ _ X16.out]; rfl
    have p3 : w16.cell? ⟨w2.heap.size, 3, none⟩ = some (.slice A2 R.length c2) := by rw [cell_of_row _ _ _ _ _ _ X16.out]; rfl
    have p4 : w16.cell? ⟨w2.heap.size, 4, none⟩ = some (.int .i64 K0) := by rw [cell_of_row _ _ _ _ _ _ X16.out]; rfl
    have g0 : w16.cell? ⟨w4.heap.size, 0, none⟩ = some (.string L) := by rw [cell_of_row _ _ _ _ _ _ Y16.out]; rfl
    have g1 : w16.cell? ⟨w4.heap.size, 1, none⟩ = some (.string M_) := by rw [cell_of_row _ _ _ _ _ _ Y16.out]; rfl
    have g2 : w16.cell? ⟨w4.heap.size, 2, none⟩ = some (.string F) := by rw [cell_of_row _ _ _ _ _ _ Y16.out]; rfl
    have g3 : w16.cell? ⟨w4.heap.size, 3, none⟩ = some (.slice A4 R.length c4) := by rw [cell_of_row _ _ _ _ _ _ Y16.out]; rfl
    have g4 : w16.cell? ⟨w4.heap.size, 4, none⟩ = some (.int .i64 K0) := by rw [cell_of_row _ _ _ _ _ _ Y16.out]; rfl
    go_wp2_with fail
    go_at_call 64
    refine Calls.mono (heldSv w16 w16.heap.size R.length c4 A4 L M_ F K0 OG16.out.strs.1 (Nat.le_refl _) (by omega)) ?_
    rintro e w17 ⟨rfl, b17⟩
    have B17 := Lib.hid (B16.out.trans (b17.mono B16.out.size))
    clear b17
    clear p0 p1 p2 p3 p4 g0 g1 g2 g3 g4
    go_wp2
    go_ret
    exact ⟨rfl, B17.out⟩

end Go.Proofs.Ytakadkhgcjndmaa.W
