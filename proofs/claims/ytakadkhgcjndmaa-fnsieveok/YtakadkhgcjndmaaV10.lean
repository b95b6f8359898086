/-
  Contract of the model's l3Put: the walk.
-/
import Derived.Test.YtakadkhgcjndmaaJ5
namespace Go.Proofs.Ytakadkhgcjndmaa.W
open Go.RowKit K

set_option maxRecDepth 8000 in
set_option maxHeartbeats 20000000 in
theorem putF (w : World) (base : Nat) (v : Value) (L M F : ByteArray) (R l : List ByteArray) (keep d : Nat) (A : Option Addr) (n c : Nat) (ho : Own w base v R) (hbase : base ≤ w.heap.size) (hfar : Far w (fun k => v.ownBlock = some k) A n l) (hnc : n ≤ c) (hc : c ≤ maxLen) (hn : n ≤ 1000) (hd : d < 900) (hkeep : keep < 900)
    (hL : L.size ≤ 1000000) (hM : M.size ≤ 1000000) (hF : F.size ≤ 1000000) (hR : R.length ≤ 1000000) :
    Calls Try.prog 74 #[.agg #[.string L, .string M, .string F, v, .int .i64 keep], .agg #[.slice A n c, .int .i64 d]] w (PutR3 w base v L M F R l keep d) := by
  have hlen := hfar.len
  subst hlen
  have HO := Lib.hid ho
  have HF := Lib.hid hfar
  clear ho hfar
  go_enter Try.func74, Try.ntmps74
  go_wp2
  go_loopg [6, 7] l.length (fun g next first wr => ∃ done m L' M' F' v' R' A' n' c' es qn, l.length - m ≤ g ∧ PutP w base v L M F R l keep d next first wr done m L' M' F' v' R' A' n' c' es qn)
  case atStart => exact ⟨[], 0, L, M, F, v, R, A, l.length, c, [], [], by omega, put_start HO.out HF.out hnc hc _ rfl⟩
  case round =>
    obtain ⟨done, m, L', M', F', v', R', A', n', c', es, qn, hg, P⟩ := hrel
    have HP := Lib.hid P
    have hfst := P.fst
    have hm := P.hm
    have hn' := P.far.len
    rw [List.length_drop] at hn'
    have hcap := P.cap
    unfold maxLen at hcap
    have hbS := P.boxS
    have hbF := P.boxF
    have hs0 : wr.cell? ⟨w.heap.size, 0, none⟩ = some (.string L') := by rw [cell_of_row _ _ _ _ _ _ hbS]; rfl
    have hs1 : wr.cell? ⟨w.heap.size, 1, none⟩ = some (.string M') := by rw [cell_of_row _ _ _ _ _ _ hbS]; rfl
    have hs2 : wr.cell? ⟨w.heap.size, 2, none⟩ = some (.string F') := by rw [cell_of_row _ _ _ _ _ _ hbS]; rfl
    have hs3 : wr.cell? ⟨w.heap.size, 3, none⟩ = some v' := by rw [cell_of_row _ _ _ _ _ _ hbS]; rfl
    have hs4 : wr.cell? ⟨w.heap.size, 4, none⟩ = some (.int .i64 keep) := by rw [cell_of_row _ _ _ _ _ _ hbS]; rfl
    have hf0 : wr.cell? ⟨w.heap.size + 1, 0, none⟩ = some (.slice A' n' c') := by rw [cell_of_row _ _ _ _ _ _ hbF]; rfl
    have hf1 : wr.cell? ⟨w.heap.size + 1, 1, none⟩ = some (.int .i64 d) := by rw [cell_of_row _ _ _ _ _ _ hbF]; rfl
    subst hfst
    clear P hbS hbF
    by_cases hlt : m < l.length
    · have hpos : ((n' : Int) > 0) := by omega
      obtain ⟨k0, t0, hkt⟩ : ∃ k0 t0, l.drop m = k0 :: t0 := by
        cases e : l.drop m with
        | nil => have := congrArg List.length e; rw [List.length_drop] at this; simp at this; omega
        | cons a b => exact ⟨a, b, rfl⟩
      obtain ⟨r0, hgr, hgl⟩ := grp_head k0 t0 d
      have ht0 : t0.length + 1 = n' := by have := congrArg List.length hkt; rw [List.length_drop] at this; simp only [List.length_cons] at this; omega
      have HKT := Lib.hid hkt
      have HGR := Lib.hid hgr
      go_wp2_with fail
      go_at_call 108
      refine (groupS wr wr.heap.size n' c' d A' (l.drop m) HP.out.far.strs (Nat.le_refl _) (by omega) (by omega)).mono ?_
      rintro e w2 ⟨v2, rfl, ho2, hb2⟩
      rw [hkt, hgr] at ho2
      obtain ⟨A2, c2, hv2, hc2, hm2, hst2⟩ := ho2.parts
      obtain ⟨g0, hg0⟩ : ∃ g0 : Nat, g0 = r0.length + 1 := ⟨_, rfl⟩
      have e0 : (k0 :: r0).length = g0 := by rw [hg0]; rfl
      rw [e0] at hv2 hc2 hst2
      subst hv2
      have HO2 := Lib.hid ho2
      have HA := Lib.hid (Agree.of_below hb2 (fun _ => False))
      have HB2 := Lib.hid hb2
      have hbS : w2.heap[w.heap.size]? = some (.cells #[.string L', .string M', .string F', v', .int .i64 keep] 27 (0, 0)) := by rw [hb2.block _ (Array.getElem?_eq_some_iff.1 HP.out.boxS).1]; exact HP.out.boxS
      have hbF : w2.heap[w.heap.size + 1]? = some (.cells #[.slice A' n' c', .int .i64 d] 72 (0, 0)) := by rw [hb2.block _ (Array.getElem?_eq_some_iff.1 HP.out.boxF).1]; exact HP.out.boxF
      clear hs0 hs1 hs2 hs3 hs4 hf0 hf1
      have hs0 : w2.cell? ⟨w.heap.size, 0, none⟩ = some (.string L') := by rw [cell_of_row _ _ _ _ _ _ hbS]; rfl
      have hs1 : w2.cell? ⟨w.heap.size, 1, none⟩ = some (.string M') := by rw [cell_of_row _ _ _ _ _ _ hbS]; rfl
      have hs2 : w2.cell? ⟨w.heap.size, 2, none⟩ = some (.string F') := by rw [cell_of_row _ _ _ _ _ _ hbS]; rfl
      have hs3 : w2.cell? ⟨w.heap.size, 3, none⟩ = some v' := by rw [cell_of_row _ _ _ _ _ _ hbS]; rfl
      have hs4 : w2.cell? ⟨w.heap.size, 4, none⟩ = some (.int .i64 keep) := by rw [cell_of_row _ _ _ _ _ _ hbS]; rfl
      have hf0 : w2.cell? ⟨w.heap.size + 1, 0, none⟩ = some (.slice A' n' c') := by rw [cell_of_row _ _ _ _ _ _ hbF]; rfl
      have hf1 : w2.cell? ⟨w.heap.size + 1, 1, none⟩ = some (.int .i64 d) := by rw [cell_of_row _ _ _ _ _ _ hbF]; rfl
      have hz0 : w2.frozen? ⟨w.heap.size, 0, none⟩ = false := by rw [frozen_of_row _ _ _ _ _ hbS]
      have hz1 : w2.frozen? ⟨w.heap.size, 1, none⟩ = false := by rw [frozen_of_row _ _ _ _ _ hbS]
      have hz2 : w2.frozen? ⟨w.heap.size, 2, none⟩ = false := by rw [frozen_of_row _ _ _ _ _ hbS]
      have hz3 : w2.frozen? ⟨w.heap.size, 3, none⟩ = false := by rw [frozen_of_row _ _ _ _ _ hbS]
      obtain ⟨b2, off2, hA2, hbb2, hcc2⟩ := hst2.cell 0 (by simp)
      subst hA2
      simp only [List.getElem_cons_zero, Nat.add_zero] at hcc2
      obtain ⟨hl1, hl2, hl3, hl4⟩ := sv_len HP.out.sv
      have hdl := T.half_len HP.out.half
      simp only [ls, List.length_map] at hdl
      obtain ⟨x1, hx1⟩ : ∃ x1, x1 = letS k0 d := ⟨_, rfl⟩
      have hx1s : x1.size = 1 := by rw [hx1]; exact letS_size _ _
      obtain ⟨f1, hf1e⟩ : ∃ f1, f1 = fst1 done.length := ⟨_, rfl⟩
      have hf1s : f1.size = 1 := by rw [hf1e]; exact fst1_size _
      have HX1 := Lib.hid hx1
      have HF1 := Lib.hid hf1e
      have HLT := Lib.hid (show ∀ W : World, Calls Try.prog 109 #[.string k0, .int .i64 d] W fun e w' => e = .returned (.string x1) ∧ W = w' from fun W => by rw [hx1]; exact letterS k0 d W (by omega))
      rw [← hf1e]
      have hx2 : (0 : Int) < (g0 : Int) := by omega
      obtain ⟨d1, hd1⟩ : ∃ d1 : Nat, (d : Int) + 1 = (d1 : Int) := ⟨d + 1, by omega⟩
      obtain ⟨b1, off1, hA1, -, -, -⟩ := HP.out.far.cell 0 (by rw [List.length_drop]; omega)
      subst hA1
      have hesl := HP.out.es_len
      have hg0n : g0 ≤ n' := by omega
      have hg0p : 0 < g0 := by omega
      have HBS := Lib.hid hbS
      have hb2ne : ¬ (b2 = w.heap.size) := by
        have h1 := (ho2.lt (k := b2) rfl).1
        have h2 := (Array.getElem?_eq_some_iff.1 HP.out.boxS).1
        omega
      have HG0 := Lib.hid hg0
      clear hbS hbF hb2 ho2 hkt hgr hst2 hx1 hf1e hg0 e0 hgl
      go_wp2
      go_quiet ((go_at_call 109; exact quiet_mine (HLT.out _)))
      by_cases hgo : 1 < g0
      · have hgo' : (g0 : Int) > 1 := by omega
        obtain ⟨q1, q2, q3, q4, q5, q6⟩ := put_ownF HP.out HB2.out nq (.string (L' ++ x1)) (.string (F' ++ f1)) (.string (M' ++ ⟨#[49]⟩)) _ rfl (.cells #[.slice (some ⟨b2, off2, none⟩) g0 c2, .int .i64 d1] 72 (0, 0))
        have Q1 := Lib.hid q1
        have Q3 := Lib.hid q3
        have Q4 := Lib.hid q4
        have Q5 := Lib.hid q5
        have Q6 := Lib.hid q6
        clear q1 q2 q3 q4 q5 q6
        by_cases hcc : c' = g0
        · go_wp2_with (at_builtin; refine app_fork rfl (.tmp 40) (.tmp 46) rfl _ (w.heap.size + 3) _ es rfl Q1.out w2.heap.size 1 (some ⟨b2, off2, none⟩) g0 c2 d1 rfl Q3.out (by omega) (by have := Q4.out; omega) ?_; intro gN capN w3 hof hg3; obtain ⟨hf0', hz4⟩ := put_boxF Q1.out Q5.out hg3; have HOF := Lib.hid hof; have HG3 := Lib.hid hg3; clear hof hg3 hf0 hf1 hs0 hs1 hs2 hs3 hs4 hz0 hz1 hz2 hz3)
          go_roundg (l.length - (m + g0))
          case measure => omega
          case rel =>
            obtain rfl := HX1.out
            obtain rfl := HF1.out
            have hg0 := HG0.out
            subst hg0
            have hd2 : d1 = d + 1 := by omega
            subst hd2
            have hPn := put_goes HP.out HKT.out HGR.out hgo hg0n HO2.out HB2.out rfl HOF.out HG3.out (rem_eq HP.out.cap.1 hg0n hcc)
            rw [show c' - (r0.length + 1) = 0 by omega] at hPn
            exact ⟨_, m + (r0.length + 1), _, _, _, _, _, _, _, _, _, _, Nat.le_refl _, hPn⟩
        · go_wp2_with (at_builtin; refine app_fork rfl (.tmp 40) (.tmp 46) rfl _ (w.heap.size + 3) _ es rfl Q1.out w2.heap.size 1 (some ⟨b2, off2, none⟩) g0 c2 d1 rfl Q3.out (by omega) (by have := Q4.out; omega) ?_; intro gN capN w3 hof hg3; obtain ⟨hf0', hz4⟩ := put_boxF Q1.out Q5.out hg3; have HOF := Lib.hid hof; have HG3 := Lib.hid hg3; clear hof hg3 hf0 hf1 hs0 hs1 hs2 hs3 hs4 hz0 hz1 hz2 hz3)
          go_roundg (l.length - (m + g0))
          case measure => omega
          case rel =>
            obtain rfl := HX1.out
            obtain rfl := HF1.out
            have hg0 := HG0.out
            subst hg0
            have hd2 : d1 = d + 1 := by omega
            subst hd2
            exact ⟨_, m + (r0.length + 1), _, _, _, _, _, _, _, _, _, _, Nat.le_refl _, put_goes HP.out HKT.out HGR.out hgo hg0n HO2.out HB2.out rfl HOF.out HG3.out (rem_ne HP.out.cap.1 hg0n hcc (by omega))⟩
      · have hgo' : ¬ (g0 : Int) > 1 := by omega
        obtain ⟨y1, hy1⟩ : ∃ y1, y1 = restS k0 (d + 1) keep := ⟨_, rfl⟩
        have HRS := Lib.hid (show ∀ W : World, Calls Try.prog 110 #[.string k0, .int .i64 d1, .int .i64 keep] W fun e w' => e = .returned (.string y1) ∧ W = w' from fun W => by
          have hd2 : d1 = d + 1 := by omega
          rw [hy1, hd2]; exact restS_ok k0 (d + 1) keep W (by omega) (by omega))
        have HY1 := Lib.hid hy1
        clear hy1
        obtain ⟨q1, q2, q3, q4, q5, q6⟩ := put_ownF HP.out HB2.out nq (.string (L' ++ x1)) (.string (F' ++ f1)) (.string (M' ++ ⟨#[48]⟩)) _ rfl (.cells #[.string y1] 9 (0, 0))
        obtain ⟨qS, -⟩ := box_set HBS.out nq (L' ++ x1) (M' ++ ⟨#[48]⟩) (F' ++ f1) _ rfl
        obtain ⟨q7, q8, q9, q10⟩ := put_rest q2 hbase q4 q3
        have Q7 := Lib.hid q7
        have Q8 := Lib.hid q8
        have Q9 := Lib.hid q9
        have Q10 := Lib.hid q10
        have Q5 := Lib.hid q5
        have QS := Lib.hid qS
        have hrl : R'.length ≤ 4398046511104 := by omega
        have hwr : IntKind.i64.wrap (d1 : Int) = (d1 : Int) := IntWalk.i64_in _ ⟨by omega, by omega⟩
        have hs5 : ((((((w2.drewN nq).setCell ⟨w.heap.size, 0, none⟩ (.string (L' ++ x1))).setCell ⟨w.heap.size, 2, none⟩ (.string (F' ++ f1))).setCell ⟨w.heap.size, 1, none⟩ (.string (M' ++ ⟨#[48]⟩))).alloc (.cells #[.string y1] 9 (0, 0)))).cell? ⟨w.heap.size, 3, none⟩ = some v' := by
          have h5 := QS.out
          rw [← Below.heap_alloc _ (.cells #[.string y1] 9 (0, 0)) _ (Array.getElem?_eq_some_iff.1 h5).1] at h5
          rw [cell_of_row _ _ _ _ _ _ h5]; rfl
        clear q1 q2 q3 q4 q5 q6 q7 q8 q9 q10 qS
        go_wp2_with fail
        go_cut [] from 11 to 71 (fun wx => RestR w ((((((w2.drewN nq).setCell ⟨w.heap.size, 0, none⟩ (.string (L' ++ x1))).setCell ⟨w.heap.size, 2, none⟩ (.string (F' ++ f1))).setCell ⟨w.heap.size, 1, none⟩ (.string (M' ++ ⟨#[48]⟩))).alloc (.cells #[.string y1] 9 (0, 0))).drew) base v' R' y1 wx)
        case first =>
          go_region_law (first
            | (go_simp; go_at_call 110; refine (HRS.out _).mono ?_; rintro e w' ⟨rfl, rfl⟩)
            | (refine step_str2 rfl (.tmp 53) (.tmp 63) rfl _ base v' R' (by simp [Act.eval]) Q7.out w2.heap.size 1 y1 (by simp [Act.eval]) Q8.out hrl Q9.out ?_; intro gN capN w3 hown hg3; obtain ⟨hs3', hz3', hf0', hz4⟩ := put_boxes QS.out Q5.out Q10.out hg3 HP.out.row; have HOW := Lib.hid hown; have HG3 := Lib.hid hg3; clear hown hg3 hf0 hf1 hs0 hs1 hs2 hs3 hs4 hz0 hz1 hz2 hz3))
          all_goals
            go_wp2_with fail
            go_meet
            exact ⟨_, w3, rfl, HOW.out, HG3.out⟩
        case rest =>
          obtain ⟨v'', w3, rfl, hown, hg3⟩ := hcut
          obtain ⟨hs3', hz3', hf0', hz4⟩ := put_boxes QS.out Q5.out Q10.out hg3 HP.out.row
          have HOW := Lib.hid hown
          have HG3 := Lib.hid hg3
          clear hown hg3 hf0 hf1 hs0 hs1 hs2 hs3 hs4 hz0 hz1 hz2 hz3 hs5
          by_cases hcc : c' = g0
          · go_wp2
            go_roundg (l.length - (m + g0))
            case measure => omega
            case rel =>
              obtain rfl := HX1.out
              obtain rfl := HF1.out
              obtain rfl := HY1.out
              have hg0 := HG0.out
              subst hg0
              have hPn := put_leaf HP.out HKT.out HGR.out hgo hg0n HB2.out rfl Q10.out rfl rfl rfl HOW.out HG3.out (rem_eq HP.out.cap.1 hg0n hcc)
              rw [show c' - (r0.length + 1) = 0 by omega] at hPn
              exact ⟨_, m + (r0.length + 1), _, _, _, _, _, _, _, _, _, _, Nat.le_refl _, hPn⟩
          · go_wp2
            go_roundg (l.length - (m + g0))
            case measure => omega
            case rel =>
              obtain rfl := HX1.out
              obtain rfl := HF1.out
              obtain rfl := HY1.out
              have hg0 := HG0.out
              subst hg0
              have hPn := put_leaf HP.out HKT.out HGR.out hgo hg0n HB2.out rfl Q10.out rfl rfl rfl HOW.out HG3.out (rem_ne HP.out.cap.1 hg0n hcc (by omega))
              exact ⟨_, m + (r0.length + 1), _, _, _, _, _, _, _, _, _, _, Nat.le_refl _, hPn⟩
    · have hme : m = l.length := by omega
      have hpos : ¬ ((n' : Int) > 0) := by omega
      have hn0 : n' = 0 := by omega
      have hbR := HP.out.boxR
      have hr0 : wr.cell? ⟨w.heap.size + 2, 0, none⟩ = some (.string ⟨#[]⟩) := by rw [cell_of_row _ _ _ _ _ _ hbR]; rfl
      have hr1 : wr.cell? ⟨w.heap.size + 2, 1, none⟩ = some (.string ⟨#[]⟩) := by rw [cell_of_row _ _ _ _ _ _ hbR]; rfl
      have hr2 : wr.cell? ⟨w.heap.size + 2, 2, none⟩ = some (.string ⟨#[]⟩) := by rw [cell_of_row _ _ _ _ _ _ hbR]; rfl
      have hr3 : wr.cell? ⟨w.heap.size + 2, 3, none⟩ = some (.slice none 0 0) := by rw [cell_of_row _ _ _ _ _ _ hbR]; rfl
      have hr4 : wr.cell? ⟨w.heap.size + 2, 4, none⟩ = some (.int .i64 0) := by rw [cell_of_row _ _ _ _ _ _ hbR]; rfl
      have hz0 : wr.frozen? ⟨w.heap.size + 2, 0, none⟩ = false := by rw [frozen_of_row _ _ _ _ _ hbR]
      have hz1 : wr.frozen? ⟨w.heap.size + 2, 1, none⟩ = false := by rw [frozen_of_row _ _ _ _ _ hbR]
      have hz2 : wr.frozen? ⟨w.heap.size + 2, 2, none⟩ = false := by rw [frozen_of_row _ _ _ _ _ hbR]
      have hz3 : wr.frozen? ⟨w.heap.size + 2, 3, none⟩ = false := by rw [frozen_of_row _ _ _ _ _ hbR]
      have hz4 : wr.frozen? ⟨w.heap.size + 2, 4, none⟩ = false := by rw [frozen_of_row _ _ _ _ _ hbR]
      obtain ⟨A3, c3, hv3, hc3, hm3, -⟩ := HP.out.own.parts
      subst hv3
      have HBR := Lib.hid hbR
      clear hbR
      go_wp2
      (try simp only [Exit.inBlock, Exit.then])
      refine bodyPost_ret (v := .tuple #[.agg #[.string L', .string M', .string F', .slice A3 R'.length c3, .int .i64 keep], u6]) ?_ rfl (put_end HP.out hme _ _ _ _ _ _ rfl)
      exact ret_pair rfl _ _ (w.heap.size + 2) _ _ rfl rfl (load_sieve (box_five HBR.out _ _ _ _ _))

end Go.Proofs.Ytakadkhgcjndmaa.W
