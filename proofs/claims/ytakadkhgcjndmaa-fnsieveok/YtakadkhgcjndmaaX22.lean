/-
  Contract of the program's validTrie, from what readTrie answers.
-/
import Derived.Test.YtakadkhgcjndmaaJE
import Derived.Deep.RegionLaw
import Derived.Deep.CutRange
namespace Go.Proofs.Ytakadkhgcjndmaa.W
open Go.RowKit K

theorem same_ne {w4 : World} {ks : List ByteArray} {kp base b : Nat} {L4 M4 F4 : ByteArray} {A4 : Option Addr} {n4 c4 : Nat} {k4 : Int} {ok : Bool} (hs : SameP ks kp base w4 L4 M4 F4 (.slice A4 n4 c4) k4 ok) (hb : b < base) : ∀ k, (Value.slice A4 n4 c4).ownBlock = some k → keysB ks = true → k ≠ b := by
  intro k hk hkb
  rcases hs with ⟨-, -, -, -, -, -, g⟩ | ⟨h, -⟩
  · have := (g.lt hk).1
    omega
  · rw [hkb] at h; cases h
theorem same_new2 {w1 w4 : World} {ks : List ByteArray} {kp base : Nat} {L4 M4 F4 : ByteArray} {A4 : Option Addr} {n4 c4 : Nat} {k4 : Int} {ok : Bool} (hb : Below w1.heap.size w1 w4) (h1 : w1.heap.size ≤ w4.heap.size) (hs : SameP ks kp base w4 L4 M4 F4 (.slice A4 n4 c4) k4 ok) :
    SameQ w1 ks kp w4.heap.size ok (w4.alloc (.cells #[.string L4, .string M4, .string F4, .slice A4 n4 c4, .int .i64 k4] 27)) := by
  refine ⟨h1, hb.alloc h1 _, L4, M4, F4, A4, n4, c4, k4, heap_alloc_new _ _, ?_⟩
  rcases hs with ⟨g1, g2, g3, g4, g5, g6, g7⟩ | h
  · exact .inl ⟨g1, g2, g3, g4, g5, g6, (g7.alloc _).base (Nat.zero_le _)⟩
  · exact .inr h
theorem Trs.up {w w' : World} {A : Option Addr} {n : Nat} {t : T.Tr} (h : Trs w (fun k => w.heap.size ≤ k) A n t) (hb : Below w.heap.size w w') : Trs w' (fun k => w'.heap.size ≤ k) A n t :=
  h.step (Y := fun k => w.heap.size ≤ k) ⟨hb.size, fun k _ hk => hb.block k (by omega)⟩ (fun _ _ h => h) (fun k _ h => Nat.le_trans hb.size h)

set_option maxHeartbeats 40000000 in
set_option maxRecDepth 8000 in
theorem validC (L M_ F : ByteArray) (A : Option Addr) (n c : Nat) (l : List ByteArray) (kp : Nat) (w : World) (hr : Strs w w.heap.size A n l) (hfo : formB L M_ F n kp = true) (hfit : ∀ i (h : i < l.length), l[i].size ≤ 1000000000000)
    (hrd : ∀ W : World, Strs W W.heap.size A n l → Calls Try.prog 118 #[.agg #[.string L, .string M_, .string F, .slice A n c, .int .i64 kp]] W fun e w' =>
      ((svOf L M_ F l kp).rdOk ∧ ∃ A c, e = .returned (.tuple #[.slice A (svOf L M_ F l kp).top c, .bool true]) ∧ Trs w' (fun k => w'.heap.size ≤ k) A (svOf L M_ F l kp).top (svOf L M_ F l kp).rd ∧ (svOf L M_ F l kp).top ≤ c ∧ c ≤ maxLen ∧ Below W.heap.size W w') ∨
      (¬ (svOf L M_ F l kp).rdOk ∧ e = .returned (.tuple #[.slice none 0 0, .bool false]) ∧ Below W.heap.size W w')) :
    Calls Try.prog 79 #[.agg #[.string L, .string M_, .string F, .slice A n c, .int .i64 kp]] w (ValidR w L M_ F l kp) := by
  have hln := hr.len
  subst hln
  obtain ⟨p1, p2, p3, p4, -, p6⟩ := form_parts hfo
  have hkp : kp ≤ 5 := by omega
  obtain ⟨W0, hW0⟩ : ∃ W0, W0 = w.alloc (.cells #[.string L, .string M_, .string F, .slice A l.length c, .int .i64 kp] 27) := ⟨_, rfl⟩
  have hbw : Below w.heap.size w W0 := by rw [hW0]; exact (Below.refl _ _).alloc (Nat.le_refl _) _
  have hs0 : W0.heap.size = w.heap.size + 1 := by rw [hW0]; exact World.size_alloc _ _
  have hbx0 : W0.heap[w.heap.size]? = some (.cells #[.string L, .string M_, .string F, .slice A l.length c, .int .i64 kp] 27 (0, 0)) := by rw [hW0]; exact heap_alloc_new _ _
  have hr0 := (hr.below hbw (Nat.le_refl _)).more (B' := W0.heap.size) (by omega)
  have HRD := Lib.hid (hrd W0 hr0)
  have HBW := Lib.hid hbw
  have HFO := Lib.hid hfo
  have HFT := Lib.hid hfit
  have HRS := Lib.hid hr
  have HBX0 := Lib.hid hbx0
  rw [hW0] at HRD
  have HW0 := Lib.hid hW0
  clear hrd hbw hfo hfit hr hr0 hbx0 hW0
  go_enter Try.func79, Try.ntmps79
  go_wp2_with fail
  go_at_call 118
  refine HRD.out.mono ?_
  rw [← HW0.out]
  rintro e w1 (⟨hok, A1, c1, rfl, htr, hc1, hm1, hb1⟩ | ⟨hok, rfl, hb1⟩)
  · have HSB := Lib.hid (svB_rd HFO.out hok)
    have HFT2 := Lib.hid (rd_fit HFO.out HFT.out hok)
    have HTH := Lib.hid (three (c := c1) hkp HFT2.out htr)
    have HTR := Lib.hid htr
    have hs1 := hb1.size
    have HB1 := Lib.hid (HBW.out.trans (hb1.mono (by omega)))
    have hbx1 : w1.heap[w.heap.size]? = some (.cells #[.string L, .string M_, .string F, .slice A l.length c, .int .i64 kp] 27 (0, 0)) := by rw [hb1.block _ (by omega)]; exact HBX0.out
    have a4 : w1.cell? ⟨w.heap.size, 4, none⟩ = some (.int .i64 kp) := by rw [cell_of_row _ _ _ _ _ _ hbx1]; rfl
    have a4A : ∀ o, (w1.alloc o).cell? ⟨w.heap.size, 4, none⟩ = some (.int .i64 kp) := fun o => by rw [World.cell?_of_block (w := w1) (a := ⟨w.heap.size, 4, none⟩) (Below.heap_alloc _ _ _ (by show w.heap.size < w1.heap.size; omega))]; exact a4
    have HBX1 := Lib.hid hbx1
    obtain ⟨tp, htp⟩ : ∃ t, t = (svOf L M_ F l kp).top := ⟨_, rfl⟩
    rw [← htp] at HTH hc1 ⊢
    have HTP := Lib.hid htp
    clear htr hb1 hbx1 htp hok
    go_upto_region 4 with fail
    go_cut [5, 6] from 14 to 23 (fun s5 s6 wx => ∃ b ok, s5 = .bool ok ∧ s6 = .pointer (some ⟨b, 0, none⟩) ∧ Hid (SameQ w1 (ktx L M_ F l kp) kp b ok wx))
    case first =>
      go_region_with (first
        | (go_at_call 83; refine Calls.mono (HTH.out _ (by first | exact bel_same (by rfl) (by rfl) (by rfl) (by rfl) | exact bel_al (o := zeroSv) (by rfl) (by rfl) (by rfl) (by rfl))) ?_; rintro e w2 ⟨A2, n2, c2, rfl, hb2, hcw2, hq2⟩; have HQ2 := Lib.hid hq2; (try have HX := Lib.hid (show w2.heap[w1.heap.size]? = some zeroSv from by rw [hb2.block _ (by simp)]; exact heap_alloc_new w1 _)); have a4_w2 : w2.cell? ⟨w.heap.size, 4, none⟩ = some (.int .i64 kp) := (hcw2.cell (p := ⟨w.heap.size, 4, none⟩) (by show w.heap.size < w1.heap.size; omega)).trans a4; have a4A_w2 : ∀ o, (w2.alloc o).cell? ⟨w.heap.size, 4, none⟩ = some (.int .i64 kp) := (fun o => by rw [World.cell?_of_block (w := w2) (a := ⟨w.heap.size, 4, none⟩) (Below.heap_alloc _ _ _ (by show w.heap.size < w2.heap.size; have := hcw2.size; omega))]; exact a4_w2); have hsz_w2 := hcw2.size; have HC_w2 := Lib.hid hcw2; clear hcw2; clear hq2 hb2)
        | (go_at_call 82; refine Calls.mono (HQ2.out _ (by first | exact bel_same (by rfl) (by rfl) (by rfl) (by rfl) | exact bel_al (o := zeroSv) (by rfl) (by rfl) (by rfl) (by rfl))) ?_; rintro e w3 ⟨A3, n3, c3, rfl, hb3, hcw3, hq3⟩; have HQ3 := Lib.hid hq3; (first | have HY := Lib.hid (show w3.heap[w2.heap.size]? = some zeroSv from by rw [hb3.block _ (by simp)]; exact heap_alloc_new w2 _) | have HY := Lib.hid (show w3.heap[w1.heap.size]? = some zeroSv from by rw [hcw3.block _ (by exact lt_of_heap HX.out)]; exact HX.out) | skip); have a4_w3 : w3.cell? ⟨w.heap.size, 4, none⟩ = some (.int .i64 kp) := (hcw3.cell (p := ⟨w.heap.size, 4, none⟩) (by show w.heap.size < w2.heap.size; omega)).trans a4_w2; have a4A_w3 : ∀ o, (w3.alloc o).cell? ⟨w.heap.size, 4, none⟩ = some (.int .i64 kp) := (fun o => by rw [World.cell?_of_block (w := w3) (a := ⟨w.heap.size, 4, none⟩) (Below.heap_alloc _ _ _ (by show w.heap.size < w3.heap.size; have := hcw3.size; omega))]; exact a4_w3); have hsz_w3 := hcw3.size; have HC_w3 := Lib.hid hcw3; clear hcw3; clear hq3 hb3)
        | (go_at_call 30; refine Calls.mono (HQ3.out _ (by first | exact bel_same (by rfl) (by rfl) (by rfl) (by rfl) | exact bel_al (o := zeroSv) (by rfl) (by rfl) (by rfl) (by rfl))) ?_; rintro e w4 ⟨⟨L4, M4, F4, A4, n4, c4, k4, ok, rfl, hsm, hb4⟩, hcw4⟩; have HSM := Lib.hid hsm; (first | (have hz : w4.heap[w3.heap.size]? = some zeroSv := (by rw [hb4.block _ (by simp)]; exact heap_alloc_new w3 _); have y0 : w4.cell? ⟨w3.heap.size, 0, none⟩ = some (.string ⟨#[]⟩) := (by rw [cell_of_row _ _ _ _ _ _ hz]; rfl); have z0 : w4.frozen? ⟨w3.heap.size, 0, none⟩ = false := (by rw [frozen_of_row _ _ _ _ _ hz]); have y1 : w4.cell? ⟨w3.heap.size, 1, none⟩ = some (.string ⟨#[]⟩) := (by rw [cell_of_row _ _ _ _ _ _ hz]; rfl); have z1 : w4.frozen? ⟨w3.heap.size, 1, none⟩ = false := (by rw [frozen_of_row _ _ _ _ _ hz]); have y2 : w4.cell? ⟨w3.heap.size, 2, none⟩ = some (.string ⟨#[]⟩) := (by rw [cell_of_row _ _ _ _ _ _ hz]; rfl); have z2 : w4.frozen? ⟨w3.heap.size, 2, none⟩ = false := (by rw [frozen_of_row _ _ _ _ _ hz]); have y3 : w4.cell? ⟨w3.heap.size, 3, none⟩ = some (.slice none 0 0) := (by rw [cell_of_row _ _ _ _ _ _ hz]; rfl); have z3 : w4.frozen? ⟨w3.heap.size, 3, none⟩ = false := (by rw [frozen_of_row _ _ _ _ _ hz]); have y4 : w4.cell? ⟨w3.heap.size, 4, none⟩ = some (.int .i64 0) := (by rw [cell_of_row _ _ _ _ _ _ hz]; rfl); have z4 : w4.frozen? ⟨w3.heap.size, 4, none⟩ = false := (by rw [frozen_of_row _ _ _ _ _ hz]); have HZ := Lib.hid hz; clear hz) | (have hz : w4.heap[w2.heap.size]? = some zeroSv := (by rw [hcw4.block _ (by exact lt_of_heap HY.out)]; exact HY.out); have y0 : w4.cell? ⟨w2.heap.size, 0, none⟩ = some (.string ⟨#[]⟩) := (by rw [cell_of_row _ _ _ _ _ _ hz]; rfl); have z0 : w4.frozen? ⟨w2.heap.size, 0, none⟩ = false := (by rw [frozen_of_row _ _ _ _ _ hz]); have y1 : w4.cell? ⟨w2.heap.size, 1, none⟩ = some (.string ⟨#[]⟩) := (by rw [cell_of_row _ _ _ _ _ _ hz]; rfl); have z1 : w4.frozen? ⟨w2.heap.size, 1, none⟩ = false := (by rw [frozen_of_row _ _ _ _ _ hz]); have y2 : w4.cell? ⟨w2.heap.size, 2, none⟩ = some (.string ⟨#[]⟩) := (by rw [cell_of_row _ _ _ _ _ _ hz]; rfl); have z2 : w4.frozen? ⟨w2.heap.size, 2, none⟩ = false := (by rw [frozen_of_row _ _ _ _ _ hz]); have y3 : w4.cell? ⟨w2.heap.size, 3, none⟩ = some (.slice none 0 0) := (by rw [cell_of_row _ _ _ _ _ _ hz]; rfl); have z3 : w4.frozen? ⟨w2.heap.size, 3, none⟩ = false := (by rw [frozen_of_row _ _ _ _ _ hz]); have y4 : w4.cell? ⟨w2.heap.size, 4, none⟩ = some (.int .i64 0) := (by rw [cell_of_row _ _ _ _ _ _ hz]; rfl); have z4 : w4.frozen? ⟨w2.heap.size, 4, none⟩ = false := (by rw [frozen_of_row _ _ _ _ _ hz]); have HZ := Lib.hid hz; clear hz) | (have hz : w4.heap[w1.heap.size]? = some zeroSv := (by rw [hcw4.block _ (by exact lt_of_heap HY.out)]; exact HY.out); have y0 : w4.cell? ⟨w1.heap.size, 0, none⟩ = some (.string ⟨#[]⟩) := (by rw [cell_of_row _ _ _ _ _ _ hz]; rfl); have z0 : w4.frozen? ⟨w1.heap.size, 0, none⟩ = false := (by rw [frozen_of_row _ _ _ _ _ hz]); have y1 : w4.cell? ⟨w1.heap.size, 1, none⟩ = some (.string ⟨#[]⟩) := (by rw [cell_of_row _ _ _ _ _ _ hz]; rfl); have z1 : w4.frozen? ⟨w1.heap.size, 1, none⟩ = false := (by rw [frozen_of_row _ _ _ _ _ hz]); have y2 : w4.cell? ⟨w1.heap.size, 2, none⟩ = some (.string ⟨#[]⟩) := (by rw [cell_of_row _ _ _ _ _ _ hz]; rfl); have z2 : w4.frozen? ⟨w1.heap.size, 2, none⟩ = false := (by rw [frozen_of_row _ _ _ _ _ hz]); have y3 : w4.cell? ⟨w1.heap.size, 3, none⟩ = some (.slice none 0 0) := (by rw [cell_of_row _ _ _ _ _ _ hz]; rfl); have z3 : w4.frozen? ⟨w1.heap.size, 3, none⟩ = false := (by rw [frozen_of_row _ _ _ _ _ hz]); have y4 : w4.cell? ⟨w1.heap.size, 4, none⟩ = some (.int .i64 0) := (by rw [cell_of_row _ _ _ _ _ _ hz]; rfl); have z4 : w4.frozen? ⟨w1.heap.size, 4, none⟩ = false := (by rw [frozen_of_row _ _ _ _ _ hz]); have HZ := Lib.hid hz; clear hz) | skip); have HB4 := Lib.hid hb4; have HC4 := Lib.hid (HC_w2.out.trans ((HC_w3.out.mono hsz_w2).trans (hcw4.mono (by omega)))); clear hsm hb4 hcw4))
      all_goals
        go_wp2_with fail
        go_meet
        refine ⟨_, _, rfl, rfl, Lib.hid ?_⟩
        first
          | with_reducible exact same_new2 HC4.out HC4.out.size HSM.out
          | with_reducible exact same_end HC4.out HZ.out (by omega) HSM.out (same_ne HSM.out (by exact lt_of_heap HY.out))
          | with_reducible exact same_end HC4.out HZ.out (by omega) HSM.out (same_ne HSM.out (by simp))
          | exact same_new HC4.out HC4.out.size HSM.out
    case rest =>
      obtain ⟨b, ok, rfl, rfl, hq⟩ := hcut
      obtain ⟨L4, M4, F4, A4, n4, c4, k4, hbx, hsm⟩ := hq.out.box
      have HQ := hq
      have hbl := hq.out.below
      have hbl2 := hbl.size
      have hlt := hq.out.lt
      have hbx1 : wc.heap[w.heap.size]? = some (.cells #[.string L, .string M_, .string F, .slice A l.length c, .int .i64 kp] 27 (0, 0)) := by rw [hbl.block _ (by omega)]; exact HBX1.out
      have c0 : wc.cell? ⟨w.heap.size, 0, none⟩ = some (.string L) := by rw [cell_of_row _ _ _ _ _ _ hbx1]; rfl
      have c1' : wc.cell? ⟨w.heap.size, 1, none⟩ = some (.string M_) := by rw [cell_of_row _ _ _ _ _ _ hbx1]; rfl
      have c2' : wc.cell? ⟨w.heap.size, 2, none⟩ = some (.string F) := by rw [cell_of_row _ _ _ _ _ _ hbx1]; rfl
      have c3' : wc.cell? ⟨w.heap.size, 3, none⟩ = some (.slice A l.length c) := by rw [cell_of_row _ _ _ _ _ _ hbx1]; rfl
      have c4' : wc.cell? ⟨w.heap.size, 4, none⟩ = some (.int .i64 kp) := by rw [cell_of_row _ _ _ _ _ _ hbx1]; rfl
      have d0 : wc.cell? ⟨b, 0, none⟩ = some (.string L4) := by rw [cell_of_row _ _ _ _ _ _ hbx]; rfl
      have d1 : wc.cell? ⟨b, 1, none⟩ = some (.string M4) := by rw [cell_of_row _ _ _ _ _ _ hbx]; rfl
      have d2 : wc.cell? ⟨b, 2, none⟩ = some (.string F4) := by rw [cell_of_row _ _ _ _ _ _ hbx]; rfl
      have d3 : wc.cell? ⟨b, 3, none⟩ = some (.slice A4 n4 c4) := by rw [cell_of_row _ _ _ _ _ _ hbx]; rfl
      have d4 : wc.cell? ⟨b, 4, none⟩ = some (.int .i64 k4) := by rw [cell_of_row _ _ _ _ _ _ hbx]; rfl
      have HBB := Lib.hid (HB1.out.trans (hbl.mono (by have := HB1.out.size; omega)))
      have HBL := Lib.hid hbl
      clear hq hbx hbx1 hbl a4 a4A
      rcases hsm with ⟨g1, rfl, rfl, rfl, rfl, rfl, g7⟩ | ⟨g1, rfl⟩
      · obtain ⟨R, hR⟩ : ∃ R, R = rdB L M_ F l kp (ktx L M_ F l kp) := ⟨_, rfl⟩
        have HS2 := Lib.hid (show svB L M_ F l kp = R by rw [HSB.out, g1, Bool.true_and, hR])
        obtain ⟨A5, c5, hv, hc5, hm5, hst⟩ := g7.parts
        injection hv with e1 e2 e3
        subst e1 e2 e3
        have HSA := Lib.hid (show ∀ W : World, Below wc.heap.size wc W → Calls Try.prog 119 #[.agg #[.string L, .string M_, .string F, .slice A l.length c, .int .i64 kp], .agg #[.string (ba (T.sieve kp (ls (ktx L M_ F l kp))).letters), .string (ba (T.sieve kp (ls (ktx L M_ F l kp))).more), .string (ba (T.sieve kp (ls (ktx L M_ F l kp))).first), .slice A4 ((T.sieve kp (ls (ktx L M_ F l kp))).rests.map ba).length c4, .int .i64 kp]] W fun e w' => e = .returned (.bool R) ∧ Below W.heap.size W w' from fun W hW => by
          have h := sameI L M_ F (ba (T.sieve kp (ls (ktx L M_ F l kp))).letters) (ba (T.sieve kp (ls (ktx L M_ F l kp))).more) (ba (T.sieve kp (ls (ktx L M_ F l kp))).first) A A4 l.length c _ c4 l _ kp W ((HRS.out.below (HBB.out.trans (hW.mono (by have := HBB.out.size; omega))) (Nat.le_refl _)).more (by have := HBB.out.size; have := hW.size; omega)) ((hst.below hW (Nat.le_refl _)).more hW.size) (by unfold maxLen; omega) (by omega)
          rw [hR]
          exact h)
        obtain ⟨L4, hL4⟩ : ∃ x, x = ba (T.sieve kp (ls (ktx L M_ F l kp))).letters := ⟨_, rfl⟩
        obtain ⟨M4, hM4⟩ : ∃ x, x = ba (T.sieve kp (ls (ktx L M_ F l kp))).more := ⟨_, rfl⟩
        obtain ⟨F4, hF4⟩ : ∃ x, x = ba (T.sieve kp (ls (ktx L M_ F l kp))).first := ⟨_, rfl⟩
        obtain ⟨n4, hn4⟩ : ∃ x, x = ((T.sieve kp (ls (ktx L M_ F l kp))).rests.map ba).length := ⟨_, rfl⟩
        rw [← hL4, ← hM4, ← hF4, ← hn4] at HSA
        rw [← hL4] at d0
        rw [← hM4] at d1
        rw [← hF4] at d2
        rw [← hn4] at d3
        clear hst g7 g1 hL4 hM4 hF4 hn4 hR hc5
        cases R with
        | true =>
          go_wp2_with fail
          go_at_call 119
          refine Calls.mono (HSA.out _ (by exact bel_same (by rfl) (by rfl) (by rfl) (by rfl))) ?_
          rintro e w5 ⟨rfl, hb5⟩
          have HB5 := Lib.hid hb5
          clear hb5
          go_wp2
          go_ret2
          have hb6 : Below wc.heap.size wc w5 := HB5.out
          have hb7 := HBL.out.trans (hb6.mono HBL.out.size)
          rw [HTP.out]
          exact .inl ⟨HS2.out, A1, c1, rfl, Trs.up HTR.out hb7, by rw [← HTP.out]; exact hc1, hm1, HB1.out.trans (hb7.mono HB1.out.size)⟩
        | false =>
          go_wp2_with fail
          go_at_call 119
          refine Calls.mono (HSA.out _ (by exact bel_same (by rfl) (by rfl) (by rfl) (by rfl))) ?_
          rintro e w5 ⟨rfl, hb5⟩
          have HB5 := Lib.hid hb5
          clear hb5
          go_wp2
          go_ret2
          have hb6 : Below wc.heap.size wc w5 := HB5.out
          exact .inr ⟨HS2.out, _, _, _, rfl, HBB.out.trans (hb6.mono HBB.out.size)⟩
      · have HS2 := Lib.hid (show svB L M_ F l kp = false by rw [HSB.out, g1]; rfl)
        clear g1
        go_wp2
        go_ret2
        exact .inr ⟨HS2.out, _, _, _, rfl, HBB.out⟩
  · have HSB := Lib.hid (svB_no hok)
    have HBB := Lib.hid (HBW.out.trans (hb1.mono (by omega)))
    clear hok hb1
    go_wp2
    go_ret2
    exact .inr ⟨HSB.out, _, _, _, rfl, HBB.out⟩

end Go.Proofs.Ytakadkhgcjndmaa.W
