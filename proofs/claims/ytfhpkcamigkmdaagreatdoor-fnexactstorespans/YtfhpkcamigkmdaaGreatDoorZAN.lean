/-
  Contract of the model's l3Put: the walk.
  Contract of the model's SieveOf: the filter of a key list.
  Contract of the program's SieveOf: it answers as the model's.
  What the laws of filters ask, in mathematics: tries of keys, and of what is kept of them. No walk.
  Contracts of the exact laws' helpers for filters: marking, looking for the marks, copying, measuring. Each at every filter that can be read. And what both SieveOf answer, as one filter.
  A filter in a box, made by SieveOf of a run's keys.
  RunKeys, the model's and the program's.
-/
import Derived.Test.YtfhpkcamigkmdaaGreatDoorJ5
import Derived.Test.YtfhpkcamigkmdaaGreatDoorZAF
import Derived.Test.YtfhpkcamigkmdaaGreatDoorJC
import Derived.Test.YtfhpkcamigkmdaaGreatDoorZAG
import Derived.Test.YtfhpkcamigkmdaaGreatDoorZAJ
import Derived.Test.YtfhpkcamigkmdaaGreatDoorZAH
namespace Go.Proofs.YtfhpkcamigkmdaaGreatDoor.W
open Go.RowKit K

set_option maxRecDepth 8000 in
set_option maxHeartbeats 20000000 in
theorem putF (w : World) (base : Nat) (v : Value) (L M F : ByteArray) (R l : List ByteArray) (keep d : Nat) (A : Option Addr) (n c : Nat) (ho : Own w base v R) (hbase : base ≤ w.heap.size) (hfar : Far w (fun k => v.ownBlock = some k) A n l) (hnc : n ≤ c) (hc : c ≤ maxLen) (hn : n ≤ 1000) (hd : d < 900) (hkeep : keep < 900)
    (hL : L.size ≤ 1000000) (hM : M.size ≤ 1000000) (hF : F.size ≤ 1000000) (hR : R.length ≤ 1000000) :
    Calls Tryz.prog 145 #[.agg #[.string L, .string M, .string F, v, .int .i64 keep], .agg #[.slice A n c, .int .i64 d]] w (PutR3 w base v L M F R l keep d) := by
  have hlen := hfar.len
  subst hlen
  have HO := Lib.hid ho
  have HF := Lib.hid hfar
  clear ho hfar
  go_enter Tryz.func145, Tryz.ntmps145
  go_wp2
  go_loopg [6, 7] l.length (fun g next first wr => ∃ done m L' M' F' v' R' A' n' c' es qn, l.length - m ≤ g ∧ PutP w base v L M F R l keep d next first wr done m L' M' F' v' R' A' n' c' es qn)
  case atStart => exact ⟨[], 0, L, M, F, v, R, A, l.length, c, [], [], by omega, put_start HO.out HF.out hnc hc _ rfl⟩
  case round =>
    obtain ⟨done, m, L', M', F', v', R', A', n', c', es, qn, hg, P⟩ := hrel
    have HP := Lib.hid P
    have hfst := P.fst
    have hm := P.hm
    have hn' := P.far.len
    rw [List.length_drop] at hn'
    have hcap := P.cap
    unfold maxLen at hcap
    have hbS := P.boxS
    have hbF := P.boxF
    have hs0 : wr.cell? ⟨w.heap.size, 0, none⟩ = some (.string L') := by rw [cell_of_row _ _ _ _ _ _ hbS]; rfl
    have hs1 : wr.cell? ⟨w.heap.size, 1, none⟩ = some (.string M') := by rw [cell_of_row _ _ _ _ _ _ hbS]; rfl
    have hs2 : wr.cell? ⟨w.heap.size, 2, none⟩ = some (.string F') := by rw [cell_of_row _ _ _ _ _ _ hbS]; rfl
    have hs3 : wr.cell? ⟨w.heap.size, 3, none⟩ = some v' := by rw [cell_of_row _ _ _ _ _ _ hbS]; rfl
    have hs4 : wr.cell? ⟨w.heap.size, 4, none⟩ = some (.int .i64 keep) := by rw [cell_of_row _ _ _ _ _ _ hbS]; rfl
    have hf0 : wr.cell? ⟨w.heap.size + 1, 0, none⟩ = some (.slice A' n' c') := by rw [cell_of_row _ _ _ _ _ _ hbF]; rfl
    have hf1 : wr.cell? ⟨w.heap.size + 1, 1, none⟩ = some (.int .i64 d) := by rw [cell_of_row _ _ _ _ _ _ hbF]; rfl
    subst hfst
    clear P hbS hbF
    by_cases hlt : m < l.length
    · have hpos : ((n' : Int) > 0) := by omega
      obtain ⟨k0, t0, hkt⟩ : ∃ k0 t0, l.drop m = k0 :: t0 := by
        cases e : l.drop m with
        | nil => have := congrArg List.length e; rw [List.length_drop] at this; simp at this; omega
        | cons a b => exact ⟨a, b, rfl⟩
      obtain ⟨r0, hgr, hgl⟩ := grp_head k0 t0 d
      have ht0 : t0.length + 1 = n' := by have := congrArg List.length hkt; rw [List.length_drop] at this; simp only [List.length_cons] at this; omega
      have HKT := Lib.hid hkt
      have HGR := Lib.hid hgr
      go_wp2_with fail
      go_at_call 175
      refine (groupS wr wr.heap.size n' c' d A' (l.drop m) HP.out.far.strs (Nat.le_refl _) (by omega) (by omega)).mono ?_
      rintro e w2 ⟨v2, rfl, ho2, hb2⟩
      rw [hkt, hgr] at ho2
      obtain ⟨A2, c2, hv2, hc2, hm2, hst2⟩ := ho2.parts
      obtain ⟨g0, hg0⟩ : ∃ g0 : Nat, g0 = r0.length + 1 := ⟨_, rfl⟩
      have e0 : (k0 :: r0).length = g0 := by rw [hg0]; rfl
      rw [e0] at hv2 hc2 hst2
      subst hv2
      have HO2 := Lib.hid ho2
      have HA := Lib.hid (Agree.of_below hb2 (fun _ => False))
      have HB2 := Lib.hid hb2
      have hbS : w2.heap[w.heap.size]? = some (.cells #[.string L', .string M', .string F', v', .int .i64 keep] 92 (0, 0)) := by rw [hb2.block _ (Array.getElem?_eq_some_iff.1 HP.out.boxS).1]; exact HP.out.boxS
      have hbF : w2.heap[w.heap.size + 1]? = some (.cells #[.slice A' n' c', .int .i64 d] 155 (0, 0)) := by rw [hb2.block _ (Array.getElem?_eq_some_iff.1 HP.out.boxF).1]; exact HP.out.boxF
      clear hs0 hs1 hs2 hs3 hs4 hf0 hf1
      have hs0 : w2.cell? ⟨w.heap.size, 0, none⟩ = some (.string L') := by rw [cell_of_row _ _ _ _ _ _ hbS]; rfl
      have hs1 : w2.cell? ⟨w.heap.size, 1, none⟩ = some (.string M') := by rw [cell_of_row _ _ _ _ _ _ hbS]; rfl
      have hs2 : w2.cell? ⟨w.heap.size, 2, none⟩ = some (.string F') := by rw [cell_of_row _ _ _ _ _ _ hbS]; rfl
      have hs3 : w2.cell? ⟨w.heap.size, 3, none⟩ = some v' := by rw [cell_of_row _ _ _ _ _ _ hbS]; rfl
      have hs4 : w2.cell? ⟨w.heap.size, 4, none⟩ = some (.int .i64 keep) := by rw [cell_of_row _ _ _ _ _ _ hbS]; rfl
      have hf0 : w2.cell? ⟨w.heap.size + 1, 0, none⟩ = some (.slice A' n' c') := by rw [cell_of_row _ _ _ _ _ _ hbF]; rfl
      have hf1 : w2.cell? ⟨w.heap.size + 1, 1, none⟩ = some (.int .i64 d) := by rw [cell_of_row _ _ _ _ _ _ hbF]; rfl
      have hz0 : w2.frozen? ⟨w.heap.size, 0, none⟩ = false := by rw [frozen_of_row _ _ _ _ _ hbS]
      have hz1 : w2.frozen? ⟨w.heap.size, 1, none⟩ = false := by rw [frozen_of_row _ _ _ _ _ hbS]
      have hz2 : w2.frozen? ⟨w.heap.size, 2, none⟩ = false := by rw [frozen_of_row _ _ _ _ _ hbS]
      have hz3 : w2.frozen? ⟨w.heap.size, 3, none⟩ = false := by rw [frozen_of_row _ _ _ _ _ hbS]
      obtain ⟨b2, off2, hA2, hbb2, hcc2⟩ := hst2.cell 0 (by simp)
      subst hA2
      simp only [List.getElem_cons_zero, Nat.add_zero] at hcc2
      obtain ⟨hl1, hl2, hl3, hl4⟩ := sv_len HP.out.sv
      have hdl := T.half_len HP.out.half
      simp only [ls, List.length_map] at hdl
      obtain ⟨x1, hx1⟩ : ∃ x1, x1 = letS k0 d := ⟨_, rfl⟩
      have hx1s : x1.size = 1 := by rw [hx1]; exact letS_size _ _
      obtain ⟨f1, hf1e⟩ : ∃ f1, f1 = fst1 done.length := ⟨_, rfl⟩
      have hf1s : f1.size = 1 := by rw [hf1e]; exact fst1_size _
      have HX1 := Lib.hid hx1
      have HF1 := Lib.hid hf1e
      have HLT := Lib.hid (show ∀ W : World, Calls Tryz.prog 166 #[.string k0, .int .i64 d] W fun e w' => e = .returned (.string x1) ∧ W = w' from fun W => by rw [hx1]; exact letterS k0 d W (by omega))
      rw [← hf1e]
      have hx2 : (0 : Int) < (g0 : Int) := by omega
      obtain ⟨d1, hd1⟩ : ∃ d1 : Nat, (d : Int) + 1 = (d1 : Int) := ⟨d + 1, by omega⟩
      obtain ⟨b1, off1, hA1, -, -, -⟩ := HP.out.far.cell 0 (by rw [List.length_drop]; omega)
      subst hA1
      have hesl := HP.out.es_len
      have hg0n : g0 ≤ n' := by omega
      have hg0p : 0 < g0 := by omega
      have HBS := Lib.hid hbS
      have hb2ne : ¬ (b2 = w.heap.size) := by
        have h1 := (ho2.lt (k := b2) rfl).1
        have h2 := (Array.getElem?_eq_some_iff.1 HP.out.boxS).1
        omega
      have HG0 := Lib.hid hg0
      clear hbS hbF hb2 ho2 hkt hgr hst2 hx1 hf1e hg0 e0 hgl
      go_wp2
      go_quiet ((go_at_call 166; exact quiet_mine (HLT.out _)))
      by_cases hgo : 1 < g0
      · have hgo' : (g0 : Int) > 1 := by omega
        obtain ⟨q1, q2, q3, q4, q5, q6⟩ := put_ownF HP.out HB2.out nq (.string (L' ++ x1)) (.string (F' ++ f1)) (.string (M' ++ ⟨#[49]⟩)) _ rfl (.cells #[.slice (some ⟨b2, off2, none⟩) g0 c2, .int .i64 d1] 155 (0, 0))
        have Q1 := Lib.hid q1
        have Q3 := Lib.hid q3
        have Q4 := Lib.hid q4
        have Q5 := Lib.hid q5
        have Q6 := Lib.hid q6
        clear q1 q2 q3 q4 q5 q6
        by_cases hcc : c' = g0
        · go_wp2_with (at_builtin; refine app_fork rfl (.tmp 40) (.tmp 46) rfl _ (w.heap.size + 3) _ es rfl Q1.out w2.heap.size 1 (some ⟨b2, off2, none⟩) g0 c2 d1 rfl Q3.out (by omega) (by have := Q4.out; omega) ?_; intro gN capN w3 hof hg3; obtain ⟨hf0', hz4⟩ := put_boxF Q1.out Q5.out hg3; have HOF := Lib.hid hof; have HG3 := Lib.hid hg3; clear hof hg3 hf0 hf1 hs0 hs1 hs2 hs3 hs4 hz0 hz1 hz2 hz3)
          go_roundg (l.length - (m + g0))
          case measure => omega
          case rel =>
            obtain rfl := HX1.out
            obtain rfl := HF1.out
            have hg0 := HG0.out
            subst hg0
            have hd2 : d1 = d + 1 := by omega
            subst hd2
            have hPn := put_goes HP.out HKT.out HGR.out hgo hg0n HO2.out HB2.out rfl HOF.out HG3.out (rem_eq HP.out.cap.1 hg0n hcc)
            rw [show c' - (r0.length + 1) = 0 by omega] at hPn
            exact ⟨_, m + (r0.length + 1), _, _, _, _, _, _, _, _, _, _, Nat.le_refl _, hPn⟩
        · go_wp2_with (at_builtin; refine app_fork rfl (.tmp 40) (.tmp 46) rfl _ (w.heap.size + 3) _ es rfl Q1.out w2.heap.size 1 (some ⟨b2, off2, none⟩) g0 c2 d1 rfl Q3.out (by omega) (by have := Q4.out; omega) ?_; intro gN capN w3 hof hg3; obtain ⟨hf0', hz4⟩ := put_boxF Q1.out Q5.out hg3; have HOF := Lib.hid hof; have HG3 := Lib.hid hg3; clear hof hg3 hf0 hf1 hs0 hs1 hs2 hs3 hs4 hz0 hz1 hz2 hz3)
          go_roundg (l.length - (m + g0))
          case measure => omega
          case rel =>
            obtain rfl := HX1.out
            obtain rfl := HF1.out
            have hg0 := HG0.out
            subst hg0
            have hd2 : d1 = d + 1 := by omega
            subst hd2
            exact ⟨_, m + (r0.length + 1), _, _, _, _, _, _, _, _, _, _, Nat.le_refl _, put_goes HP.out HKT.out HGR.out hgo hg0n HO2.out HB2.out rfl HOF.out HG3.out (rem_ne HP.out.cap.1 hg0n hcc (by omega))⟩
      · have hgo' : ¬ (g0 : Int) > 1 := by omega
        obtain ⟨y1, hy1⟩ : ∃ y1, y1 = restS k0 (d + 1) keep := ⟨_, rfl⟩
        have HRS := Lib.hid (show ∀ W : World, Calls Tryz.prog 176 #[.string k0, .int .i64 d1, .int .i64 keep] W fun e w' => e = .returned (.string y1) ∧ W = w' from fun W => by
          have hd2 : d1 = d + 1 := by omega
          rw [hy1, hd2]; exact restS_ok k0 (d + 1) keep W (by omega) (by omega))
        have HY1 := Lib.hid hy1
        clear hy1
        obtain ⟨q1, q2, q3, q4, q5, q6⟩ := put_ownF HP.out HB2.out nq (.string (L' ++ x1)) (.string (F' ++ f1)) (.string (M' ++ ⟨#[48]⟩)) _ rfl (.cells #[.string y1] 9 (0, 0))
        obtain ⟨qS, -⟩ := box_set HBS.out nq (L' ++ x1) (M' ++ ⟨#[48]⟩) (F' ++ f1) _ rfl
        obtain ⟨q7, q8, q9, q10⟩ := put_rest q2 hbase q4 q3
        have Q7 := Lib.hid q7
        have Q8 := Lib.hid q8
        have Q9 := Lib.hid q9
        have Q10 := Lib.hid q10
        have Q5 := Lib.hid q5
        have QS := Lib.hid qS
        have hrl : R'.length ≤ 4398046511104 := by omega
        have hwr : IntKind.i64.wrap (d1 : Int) = (d1 : Int) := IntWalk.i64_in _ ⟨by omega, by omega⟩
        have hs5 : ((((((w2.drewN nq).setCell ⟨w.heap.size, 0, none⟩ (.string (L' ++ x1))).setCell ⟨w.heap.size, 2, none⟩ (.string (F' ++ f1))).setCell ⟨w.heap.size, 1, none⟩ (.string (M' ++ ⟨#[48]⟩))).alloc (.cells #[.string y1] 9 (0, 0)))).cell? ⟨w.heap.size, 3, none⟩ = some v' := by
          have h5 := QS.out
          rw [← Below.heap_alloc _ (.cells #[.string y1] 9 (0, 0)) _ (Array.getElem?_eq_some_iff.1 h5).1] at h5
          rw [cell_of_row _ _ _ _ _ _ h5]; rfl
        clear q1 q2 q3 q4 q5 q6 q7 q8 q9 q10 qS
        go_wp2_with fail
        go_cut [] from 11 to 71 (fun wx => RestR w ((((((w2.drewN nq).setCell ⟨w.heap.size, 0, none⟩ (.string (L' ++ x1))).setCell ⟨w.heap.size, 2, none⟩ (.string (F' ++ f1))).setCell ⟨w.heap.size, 1, none⟩ (.string (M' ++ ⟨#[48]⟩))).alloc (.cells #[.string y1] 9 (0, 0))).drew) base v' R' y1 wx)
        case first =>
          go_region_law (first
            | (go_simp; go_at_call 176; refine (HRS.out _).mono ?_; rintro e w' ⟨rfl, rfl⟩)
            | (refine step_str2 rfl (.tmp 53) (.tmp 63) rfl _ base v' R' (by simp [Act.eval]) Q7.out w2.heap.size 1 y1 (by simp [Act.eval]) Q8.out hrl Q9.out ?_; intro gN capN w3 hown hg3; obtain ⟨hs3', hz3', hf0', hz4⟩ := put_boxes QS.out Q5.out Q10.out hg3 HP.out.row; have HOW := Lib.hid hown; have HG3 := Lib.hid hg3; clear hown hg3 hf0 hf1 hs0 hs1 hs2 hs3 hs4 hz0 hz1 hz2 hz3))
          all_goals
            go_wp2_with fail
            go_meet
            exact ⟨_, w3, rfl, HOW.out, HG3.out⟩
        case rest =>
          obtain ⟨v'', w3, rfl, hown, hg3⟩ := hcut
          obtain ⟨hs3', hz3', hf0', hz4⟩ := put_boxes QS.out Q5.out Q10.out hg3 HP.out.row
          have HOW := Lib.hid hown
          have HG3 := Lib.hid hg3
          clear hown hg3 hf0 hf1 hs0 hs1 hs2 hs3 hs4 hz0 hz1 hz2 hz3 hs5
          by_cases hcc : c' = g0
          · go_wp2
            go_roundg (l.length - (m + g0))
            case measure => omega
            case rel =>
              obtain rfl := HX1.out
              obtain rfl := HF1.out
              obtain rfl := HY1.out
              have hg0 := HG0.out
              subst hg0
              have hPn := put_leaf HP.out HKT.out HGR.out hgo hg0n HB2.out rfl Q10.out rfl rfl rfl HOW.out HG3.out (rem_eq HP.out.cap.1 hg0n hcc)
              rw [show c' - (r0.length + 1) = 0 by omega] at hPn
              exact ⟨_, m + (r0.length + 1), _, _, _, _, _, _, _, _, _, _, Nat.le_refl _, hPn⟩
          · go_wp2
            go_roundg (l.length - (m + g0))
            case measure => omega
            case rel =>
              obtain rfl := HX1.out
              obtain rfl := HF1.out
              obtain rfl := HY1.out
              have hg0 := HG0.out
              subst hg0
              have hPn := put_leaf HP.out HKT.out HGR.out hgo hg0n HB2.out rfl Q10.out rfl rfl rfl HOW.out HG3.out (rem_ne HP.out.cap.1 hg0n hcc (by omega))
              exact ⟨_, m + (r0.length + 1), _, _, _, _, _, _, _, _, _, _, Nat.le_refl _, hPn⟩
    · have hme : m = l.length := by omega
      have hpos : ¬ ((n' : Int) > 0) := by omega
      have hn0 : n' = 0 := by omega
      have hbR := HP.out.boxR
      have hr0 : wr.cell? ⟨w.heap.size + 2, 0, none⟩ = some (.string ⟨#[]⟩) := by rw [cell_of_row _ _ _ _ _ _ hbR]; rfl
      have hr1 : wr.cell? ⟨w.heap.size + 2, 1, none⟩ = some (.string ⟨#[]⟩) := by rw [cell_of_row _ _ _ _ _ _ hbR]; rfl
      have hr2 : wr.cell? ⟨w.heap.size + 2, 2, none⟩ = some (.string ⟨#[]⟩) := by rw [cell_of_row _ _ _ _ _ _ hbR]; rfl
      have hr3 : wr.cell? ⟨w.heap.size + 2, 3, none⟩ = some (.slice none 0 0) := by rw [cell_of_row _ _ _ _ _ _ hbR]; rfl
      have hr4 : wr.cell? ⟨w.heap.size + 2, 4, none⟩ = some (.int .i64 0) := by rw [cell_of_row _ _ _ _ _ _ hbR]; rfl
      have hz0 : wr.frozen? ⟨w.heap.size + 2, 0, none⟩ = false := by rw [frozen_of_row _ _ _ _ _ hbR]
      have hz1 : wr.frozen? ⟨w.heap.size + 2, 1, none⟩ = false := by rw [frozen_of_row _ _ _ _ _ hbR]
      have hz2 : wr.frozen? ⟨w.heap.size + 2, 2, none⟩ = false := by rw [frozen_of_row _ _ _ _ _ hbR]
      have hz3 : wr.frozen? ⟨w.heap.size + 2, 3, none⟩ = false := by rw [frozen_of_row _ _ _ _ _ hbR]
      have hz4 : wr.frozen? ⟨w.heap.size + 2, 4, none⟩ = false := by rw [frozen_of_row _ _ _ _ _ hbR]
      obtain ⟨A3, c3, hv3, hc3, hm3, -⟩ := HP.out.own.parts
      subst hv3
      have HBR := Lib.hid hbR
      clear hbR
      go_wp2
      (try simp only [Exit.inBlock, Exit.then])
      refine bodyPost_ret (v := .tuple #[.agg #[.string L', .string M', .string F', .slice A3 R'.length c3, .int .i64 keep], u6]) ?_ rfl (put_end HP.out hme _ _ _ _ _ _ rfl)
      exact ret_pair rfl _ _ (w.heap.size + 2) _ _ rfl rfl (load_sieve (box_five HBR.out _ _ _ _ _))

end Go.Proofs.YtfhpkcamigkmdaaGreatDoor.W
namespace Go.Proofs.YtfhpkcamigkmdaaGreatDoor.W
open Go.RowKit K

/-- no filter -/
def NoSv (w : World) (e : Ending) (w' : World) : Prop :=
  e = .returned (.tuple #[.agg #[.string ⟨#[]⟩, .string ⟨#[]⟩, .string ⟨#[]⟩, .slice none 0 0, .int .i64 0], .bool false]) ∧ Below w.heap.size w w'

set_option maxRecDepth 8000 in
set_option maxHeartbeats 4000000 in
theorem ofYes (w : World) (n c : Nat) (A : Option Addr) (l : List ByteArray) (kp : Nat) (hr : Strs w w.heap.size A n l) (hnc : n ≤ c) (hc : c ≤ maxLen) (hf : Fit l) (hk1 : keysB l = true) (hkp : kp ≤ 5) :
    Calls Tryz.prog 107 #[.slice A n c, .int .i64 kp] w (OfR w (ls l) kp) := by
  have hlen := hr.len
  subst hlen
  have HR := Lib.hid hr
  have hn : l.length ≤ maxLen := Nat.le_trans hnc hc
  have HKY := Lib.hid (show ∀ W : World, W.heap = (w.alloc (.cells #[.string ⟨#[]⟩, .string ⟨#[]⟩, .string ⟨#[]⟩, .slice none 0 0, .int .i64 0] 92)).heap → Calls Tryz.prog 144 #[.slice A l.length c] W fun e w' => e = .returned (.bool true) ∧ Same W w' from fun W hW => by
    have h1 := keysS W w.heap.size l.length c A l ((hr.below ((Below.refl _ _).alloc (Nat.le_refl _) _) (Nat.le_refl _)).heap hW) hn hf
    rw [hk1] at h1; exact h1)
  have HIN := Lib.hid (show ∀ W : World, Calls Tryz.prog 61 #[.int .i64 kp, .int .i64 0, .int .i64 5] W fun e w' => e = .returned (.bool true) ∧ W = w' from fun W => by
    have h1 := inS kp 0 5 W
    have h2 : inB kp 0 5 = true := by unfold inB; exact decide_eq_true ⟨by omega, by omega⟩
    rw [h2] at h1; exact h1)
  have HKL := Lib.hid (keyL_of hk1)
  have h24 := (keys_iff.mp hk1).1
  clear hr hf hk1
  go_enter Tryz.func107, Tryz.ntmps107
  go_wp2_with fail
  go_at_call 144
  refine Calls.mono (HKY.out _ (by rfl)) ?_
  rintro e w1 ⟨rfl, m1, rfl⟩
  go_wp2_with (go_at_call 61; refine (HIN.out _).mono ?_; rintro e w2 ⟨rfl, rfl⟩)
  go_loopg [7] (T.loads (fk [(l, 0)])) (fun g forks wr => ∃ N q es L M F v R A' c', T.loads (fk q) ≤ g ∧ OfP w (ls l) kp forks wr N q es L M F v R A' c')
  case atStart => exact ⟨[], [(l, 0)], [(.slice A l.length c, 0)], _, _, _, _, _, _, _, Nat.le_refl _, of_start HKL.out HR.out hnc hc m1 _ rfl rfl⟩
  case round =>
    obtain ⟨N, q, es, L, M, F, v, R, A', c', hg, P⟩ := hrel
    have hval := P.val
    subst hval
    have hcap := P.cap
    unfold maxLen at hcap
    have hbS := P.boxS
    have hbR := P.boxR
    have hs0 : wr.cell? ⟨w.heap.size + 2, 0, none⟩ = some (.string L) := by rw [cell_of_row _ _ _ _ _ _ hbS]; rfl
    have hs1 : wr.cell? ⟨w.heap.size + 2, 1, none⟩ = some (.string M) := by rw [cell_of_row _ _ _ _ _ _ hbS]; rfl
    have hs2 : wr.cell? ⟨w.heap.size + 2, 2, none⟩ = some (.string F) := by rw [cell_of_row _ _ _ _ _ _ hbS]; rfl
    have hs3 : wr.cell? ⟨w.heap.size + 2, 3, none⟩ = some v := by rw [cell_of_row _ _ _ _ _ _ hbS]; rfl
    have hs4 : wr.cell? ⟨w.heap.size + 2, 4, none⟩ = some (.int .i64 kp) := by rw [cell_of_row _ _ _ _ _ _ hbS]; rfl
    cases es with
    | nil =>
      have hq0 : q = [] := List.eq_nil_of_length_eq_zero P.held.1.symm
      subst hq0
      have hr0 : wr.cell? ⟨w.heap.size, 0, none⟩ = some (.string ⟨#[]⟩) := by rw [cell_of_row _ _ _ _ _ _ hbR]; rfl
      have hr1 : wr.cell? ⟨w.heap.size, 1, none⟩ = some (.string ⟨#[]⟩) := by rw [cell_of_row _ _ _ _ _ _ hbR]; rfl
      have hr2 : wr.cell? ⟨w.heap.size, 2, none⟩ = some (.string ⟨#[]⟩) := by rw [cell_of_row _ _ _ _ _ _ hbR]; rfl
      have hr3 : wr.cell? ⟨w.heap.size, 3, none⟩ = some (.slice none 0 0) := by rw [cell_of_row _ _ _ _ _ _ hbR]; rfl
      have hr4 : wr.cell? ⟨w.heap.size, 4, none⟩ = some (.int .i64 0) := by rw [cell_of_row _ _ _ _ _ _ hbR]; rfl
      have hz0 : wr.frozen? ⟨w.heap.size, 0, none⟩ = false := by rw [frozen_of_row _ _ _ _ _ hbR]
      have hz1 : wr.frozen? ⟨w.heap.size, 1, none⟩ = false := by rw [frozen_of_row _ _ _ _ _ hbR]
      have hz2 : wr.frozen? ⟨w.heap.size, 2, none⟩ = false := by rw [frozen_of_row _ _ _ _ _ hbR]
      have hz3 : wr.frozen? ⟨w.heap.size, 3, none⟩ = false := by rw [frozen_of_row _ _ _ _ _ hbR]
      have hz4 : wr.frozen? ⟨w.heap.size, 4, none⟩ = false := by rw [frozen_of_row _ _ _ _ _ hbR]
      obtain ⟨A3, c3, hv3, hc3, hm3, -⟩ := P.own.parts
      subst hv3
      have HP := Lib.hid P
      have HBR := Lib.hid hbR
      clear hbS hbR P
      go_wp2
      (try simp only [Exit.inBlock, Exit.then])
      refine bodyPost_ret (v := .tuple #[.agg #[.string L, .string M, .string F, .slice A3 R.length c3, .int .i64 kp], .bool true]) ?_ rfl (of_end HP.out _ _ _ _ _ _ rfl)
      exact ret_pair rfl _ _ w.heap.size _ _ rfl rfl (load_sieve (box_five HBR.out _ _ _ _ _))
    | cons e es =>
      obtain ⟨x, q', hq⟩ : ∃ x q', q = x :: q' := by
        cases q with
        | nil => have := P.held.1; simp at this
        | cons a b => exact ⟨a, b, rfl⟩
      subst hq
      obtain ⟨hd5, he2, hx24, hL, hM, hF, hR, hesl, Ax, nx, cx, he1, hc1, hc2, hnx, hput⟩ := of_put P HKL.out h24
      obtain ⟨b, off, hA1, hbb, hxb, hcell1, hcell2⟩ := P.fs.cell 0 (by simp)
      subst hA1
      simp only [List.getElem_cons_zero, Nat.mul_zero, Nat.add_zero] at hcell1 hcell2
      rw [he1] at hcell1
      rw [he2] at hcell2
      have HP := Lib.hid P
      have hlenp : (0 : Int) < ((e :: es).length : Int) := by simp only [List.length_cons]; omega
      obtain ⟨n1, hn1⟩ : ∃ n1, n1 = (e :: es).length := ⟨_, rfl⟩
      rw [← hn1] at hlenp hcap ⊢
      have HN1 := Lib.hid hn1
      have hn1p : 0 < n1 := by rw [hn1]; simp
      have HBS := Lib.hid hbS
      have HPUT := Lib.hid (show ∀ W : World, Agree wr W (fun _ => False) → Calls Tryz.prog 145 #[.agg #[.string L, .string M, .string F, v, .int .i64 kp], .agg #[.slice Ax nx cx, .int .i64 x.2]] W (PutR3 W (w.heap.size + 1) v L M F R x.1 kp x.2) from fun W hW => by
        have h1 := hput W hW
        have hsb := (Array.getElem?_eq_some_iff.1 HBS.out).1
        exact putF W (w.heap.size + 1) v L M F R x.1 kp x.2 Ax nx cx h1.2 (by have := hW.size; omega) h1.1 hc1 hc2 (by omega) (by omega) (by omega) (by omega) (by omega) (by omega) (by omega))
      clear hbS hbR P hput hn1 he1 he2
      have hsb := (Array.getElem?_eq_some_iff.1 HBS.out).1
      have hbS7 : (wr.alloc (.cells #[] 155)).heap[w.heap.size + 2]? = some (.cells #[.string L, .string M, .string F, v, .int .i64 kp] 92 (0, 0)) := by rw [Below.heap_alloc _ _ _ hsb]; exact HBS.out
      have k0 : (wr.alloc (.cells #[] 155)).cell? ⟨w.heap.size + 2, 0, none⟩ = some (.string L) := by rw [cell_of_row _ _ _ _ _ _ hbS7]; rfl
      have k1 : (wr.alloc (.cells #[] 155)).cell? ⟨w.heap.size + 2, 1, none⟩ = some (.string M) := by rw [cell_of_row _ _ _ _ _ _ hbS7]; rfl
      have k2 : (wr.alloc (.cells #[] 155)).cell? ⟨w.heap.size + 2, 2, none⟩ = some (.string F) := by rw [cell_of_row _ _ _ _ _ _ hbS7]; rfl
      have k3 : (wr.alloc (.cells #[] 155)).cell? ⟨w.heap.size + 2, 3, none⟩ = some v := by rw [cell_of_row _ _ _ _ _ _ hbS7]; rfl
      have k4 : (wr.alloc (.cells #[] 155)).cell? ⟨w.heap.size + 2, 4, none⟩ = some (.int .i64 kp) := by rw [cell_of_row _ _ _ _ _ _ hbS7]; rfl
      have k5 : (wr.alloc (.cells #[] 155)).cell? ⟨b, off, none⟩ = some (.slice Ax nx cx) := by rw [World.cell?_of_block (w := wr) (a := ⟨b, off, none⟩) (Below.heap_alloc _ _ _ hbb)]; exact hcell1
      have k6 : (wr.alloc (.cells #[] 155)).cell? ⟨b, off + 1, none⟩ = some (.int .i64 x.2) := by rw [World.cell?_of_block (w := wr) (a := ⟨b, off + 1, none⟩) (Below.heap_alloc _ _ _ hbb)]; exact hcell2
      have HAG := Lib.hid (agree7 wr (.cells #[] 155))
      clear hcell1 hcell2 hbS7
      go_wp2_with fail
      go_cut [8] from 24 to 41 (fun s8 wx => OfC w ((wr.alloc (.cells #[] 155)).drew) v L M F R x kp s8 wx)
      case first =>
        go_region_with (go_at_call 145; refine Calls.mono (HPUT.out _ (by exact HAG.out)) ?_; rintro e w8 ⟨L', M', F', v', R', vn, esn, qn, rfl, hsv, hown, hofn, hheld, hfk, hap, hg8⟩; obtain ⟨A3, c3, hv3, -, -, -⟩ := hown.parts; subst hv3; have h8 := of_box8 HP.out HAG.out hg8; have j0 : w8.cell? ⟨w.heap.size + 2, 0, none⟩ = some (.string L) := (by rw [cell_of_row _ _ _ _ _ _ h8]; rfl); have j1 : w8.cell? ⟨w.heap.size + 2, 1, none⟩ = some (.string M) := (by rw [cell_of_row _ _ _ _ _ _ h8]; rfl); have j2 : w8.cell? ⟨w.heap.size + 2, 2, none⟩ = some (.string F) := (by rw [cell_of_row _ _ _ _ _ _ h8]; rfl); have j3 : w8.cell? ⟨w.heap.size + 2, 3, none⟩ = some v := (by rw [cell_of_row _ _ _ _ _ _ h8]; rfl); have j4 : w8.cell? ⟨w.heap.size + 2, 4, none⟩ = some (.int .i64 kp) := (by rw [cell_of_row _ _ _ _ _ _ h8]; rfl); have z0 : w8.frozen? ⟨w.heap.size + 2, 0, none⟩ = false := (by rw [frozen_of_row _ _ _ _ _ h8]); have z1 : w8.frozen? ⟨w.heap.size + 2, 1, none⟩ = false := (by rw [frozen_of_row _ _ _ _ _ h8]); have z2 : w8.frozen? ⟨w.heap.size + 2, 2, none⟩ = false := (by rw [frozen_of_row _ _ _ _ _ h8]); have z3 : w8.frozen? ⟨w.heap.size + 2, 3, none⟩ = false := (by rw [frozen_of_row _ _ _ _ _ h8]); have z4 : w8.frozen? ⟨w.heap.size + 2, 4, none⟩ = false := (by rw [frozen_of_row _ _ _ _ _ h8]); have E1 := Lib.hid hsv; have E2 := Lib.hid hown; have E3 := Lib.hid hofn; have E4 := Lib.hid hheld; have E5 := Lib.hid hfk; have E6 := Lib.hid hg8; clear hsv hown hofn hheld hfk hap hg8 h8)
        all_goals
          go_wp2_with fail
          go_meet
          exact ⟨L', M', F', _, R', esn, qn, w8, E1.out, E2.out, E3.out, E4.out, E5.out, E6.out, rfl⟩
      case rest =>
        obtain ⟨L', M', F', v', R', esn, qn, w8, hsv, hown, hofn, hheld, hfk, hg8, hwc⟩ := hcut
        obtain ⟨An, cn, hvn, -, -⟩ := hofn.parts
        subst hvn
        have hsz9 : wc.heap.size = w8.heap.size := by rw [hwc]; simp
        obtain ⟨r1, r2, r3⟩ := of_rows HP.out HAG.out hofn hg8 (show Agree w8 wc (fun k => k = w.heap.size + 2) by rw [hwc]; exact agree89 _ _ _ _ _ _ _) hsz9
        rw [← hsz9] at r1 r3
        have hen : esn.length ≤ 24 := by
          have h1 := hheld.1
          have h2 := congrArg List.length hfk
          unfold fk at h2
          rw [List.length_map] at h2
          have h3 := leads_len x.2 (T.brs x.2 (ls x.1))
          have h4 := T.brs_len x.2 (ls x.1).length (ls x.1) (Nat.le_refl _)
          have h5 : (ls x.1).length = x.1.length := by unfold ls; rw [List.length_map]
          omega
        have hes : es.length = n1 - 1 := by have := HN1.out; simp only [List.length_cons] at this; omega
        rw [hes] at r2
        have R1 := Lib.hid r1
        have R2a := Lib.hid r2
        have R3 := Lib.hid r3
        have ONE1 := Lib.hid HP.out.held.tail.one
        have ONE2 := Lib.hid hheld.one
        have ESL := Lib.hid (show n1 - 1 ≤ 1000 by rw [← hes]; exact hesl)
        have ENL := Lib.hid hen
        have HES := Lib.hid hes
        have E1 := Lib.hid hsv
        have E2 := Lib.hid hown
        have E4 := Lib.hid hheld
        have E5 := Lib.hid hfk
        have E6 := Lib.hid hg8
        have EW := Lib.hid hwc
        have hgx := hg
        clear r1 r2 r3 hsv hown hofn hheld hfk hg8 hwc hsz9 hen hes hesl k0 k1 k2 k3 k4 k5 k6 hs0 hs1 hs2 hs3 hs4
        by_cases hcc : c' = 1
        · have R2 := Lib.hid (show FS (wc.alloc (.cells #[] 155)) (fun _ => False) (some ⟨b, off, none⟩) (n1 - 1) es by
            have h0 : n1 - 1 = 0 := by omega
            have h1 : es = [] := List.eq_nil_of_length_eq_zero (by rw [HES.out]; exact h0)
            rw [h0, h1]; exact FS.nil _ _ _)
          go_wp2_with (first
            | (at_builtin; refine app_forks rfl (.tmp 36) (.tmp 38) rfl _ wc.heap.size _ [] rfl R1.out (fun _ => False) (n1 - 1) _ _ es rfl R2.out ONE1.out (by have := ESL.out; simp only [List.length_nil]; omega) (by simp) ?_; intro v1 w11 ho1 hg11; have G11 := Lib.hid hg11; have O11 := Lib.hid ho1; have F11 := Lib.hid (R3.out w11 v1 hg11 An cn rfl); have hs11 := hg11.grown.size; simp only [World.size_alloc] at hs11; clear ho1 hg11)
            | (at_builtin; refine app_forks rfl (.tmp 39) (.tmp 40) rfl _ wc.heap.size _ ([] ++ es) rfl O11.out (fun _ => False) esn.length cn An esn rfl F11.out ONE2.out (by have := ESL.out; have := ENL.out; have := HES.out; simp only [List.nil_append]; omega) (by omega) ?_; intro v2 w12 ho2 hg12; have O12 := Lib.hid ho2; have G12 := Lib.hid hg12; clear ho2 hg12))
          have HST := Lib.hid (of_step HP.out HAG.out rfl rfl rfl E1.out E2.out E4.out E5.out E6.out EW.out (v0 := .slice (some ⟨wc.heap.size, 0, none⟩) 0 0) (fun k hk => Nat.le_of_eq (by simpa [Value.ownBlock] using hk)) G11.out (by have h := O12.out; rw [List.nil_append] at h; exact h) G12.out)
          go_roundg (T.loads (fk (q' ++ qn)))
          case measure =>
            obtain ⟨A2, c2, -, -, hlt⟩ := HST.out
            omega
          case rel =>
            obtain ⟨A2, c2, -, hP2, -⟩ := HST.out
            exact ⟨_, _, _, _, _, _, _, _, _, _, Nat.le_refl _, hP2⟩
        · have R2 := R2a
          go_wp2_with (first
            | (at_builtin; refine app_forks rfl (.tmp 36) (.tmp 38) rfl _ wc.heap.size _ [] rfl R1.out (fun _ => False) (n1 - 1) _ _ es rfl R2.out ONE1.out (by have := ESL.out; simp only [List.length_nil]; omega) (by simp) ?_; intro v1 w11 ho1 hg11; have G11 := Lib.hid hg11; have O11 := Lib.hid ho1; have F11 := Lib.hid (R3.out w11 v1 hg11 An cn rfl); have hs11 := hg11.grown.size; simp only [World.size_alloc] at hs11; clear ho1 hg11)
            | (at_builtin; refine app_forks rfl (.tmp 39) (.tmp 40) rfl _ wc.heap.size _ ([] ++ es) rfl O11.out (fun _ => False) esn.length cn An esn rfl F11.out ONE2.out (by have := ESL.out; have := ENL.out; have := HES.out; simp only [List.nil_append]; omega) (by omega) ?_; intro v2 w12 ho2 hg12; have O12 := Lib.hid ho2; have G12 := Lib.hid hg12; clear ho2 hg12))
          have HST := Lib.hid (of_step HP.out HAG.out rfl rfl rfl E1.out E2.out E4.out E5.out E6.out EW.out (v0 := .slice (some ⟨wc.heap.size, 0, none⟩) 0 0) (fun k hk => Nat.le_of_eq (by simpa [Value.ownBlock] using hk)) G11.out (by have h := O12.out; rw [List.nil_append] at h; exact h) G12.out)
          go_roundg (T.loads (fk (q' ++ qn)))
          case measure =>
            obtain ⟨A2, c2, -, -, hlt⟩ := HST.out
            omega
          case rel =>
            obtain ⟨A2, c2, -, hP2, -⟩ := HST.out
            exact ⟨_, _, _, _, _, _, _, _, _, _, Nat.le_refl _, hP2⟩

theorem no_box (w : World) (m : Nat) : ((w.alloc (.cells #[.string ⟨#[]⟩, .string ⟨#[]⟩, .string ⟨#[]⟩, .slice none 0 0, .int .i64 0] 92)).drewN m).heap[w.heap.size]? = some (.cells #[.string ⟨#[]⟩, .string ⟨#[]⟩, .string ⟨#[]⟩, .slice none 0 0, .int .i64 0] 92 (0, 0)) := heap_alloc_new w _
theorem no_below (w : World) (m : Nat) (x0 x1 x2 x3 x4 : Value) : Below w.heap.size w (((((((w.alloc (.cells #[.string ⟨#[]⟩, .string ⟨#[]⟩, .string ⟨#[]⟩, .slice none 0 0, .int .i64 0] 92)).drewN m).setCell ⟨w.heap.size, 0, none⟩ x0).setCell ⟨w.heap.size, 1, none⟩ x1).setCell ⟨w.heap.size, 2, none⟩ x2).setCell ⟨w.heap.size, 3, none⟩ x3).setCell ⟨w.heap.size, 4, none⟩ x4) :=
  (((((below_drewN ((Below.refl _ _).alloc (Nat.le_refl _) _) m).setCell (p := ⟨w.heap.size, 0, none⟩) (Nat.le_refl _) x0).setCell (p := ⟨w.heap.size, 1, none⟩) (Nat.le_refl _) x1).setCell (p := ⟨w.heap.size, 2, none⟩) (Nat.le_refl _) x2).setCell (p := ⟨w.heap.size, 3, none⟩) (Nat.le_refl _) x3).setCell (p := ⟨w.heap.size, 4, none⟩) (Nat.le_refl _) x4
theorem ofNo1 (w : World) (n c : Nat) (A : Option Addr) (l : List ByteArray) (keep : Int) (hr : Strs w w.heap.size A n l) (hnc : n ≤ c) (hc : c ≤ maxLen) (hf : Fit l) (hk : keysB l = false) :
    Calls Tryz.prog 107 #[.slice A n c, .int .i64 keep] w (NoSv w) := by
  have hlen := hr.len
  subst hlen
  have hn : l.length ≤ maxLen := Nat.le_trans hnc hc
  have HKY := Lib.hid (show ∀ W : World, W.heap = (w.alloc (.cells #[.string ⟨#[]⟩, .string ⟨#[]⟩, .string ⟨#[]⟩, .slice none 0 0, .int .i64 0] 92)).heap → Calls Tryz.prog 144 #[.slice A l.length c] W fun e w' => e = .returned (.bool false) ∧ Same W w' from fun W hW => by
    have h1 := keysS W w.heap.size l.length c A l ((hr.below ((Below.refl _ _).alloc (Nat.le_refl _) _) (Nat.le_refl _)).heap hW) hn hf
    rw [hk] at h1; exact h1)
  clear hr hf hk
  go_enter Tryz.func107, Tryz.ntmps107
  go_wp2_with (go_at_call 144; refine Calls.mono (HKY.out _ (by rfl)) ?_; rintro e w1 ⟨rfl, m1, rfl⟩)
  (try simp only [Exit.inBlock, Exit.then])
  refine bodyPost_ret (v := .tuple #[.agg #[.string ⟨#[]⟩, .string ⟨#[]⟩, .string ⟨#[]⟩, .slice none 0 0, .int .i64 0], .bool false]) ?_ rfl ⟨rfl, no_below w m1 _ _ _ _ _⟩
  exact ret_pair rfl _ _ w.heap.size _ _ rfl rfl (load_sieve (box_five (no_box w m1) _ _ _ _ _))

theorem ofNo2 (w : World) (n c : Nat) (A : Option Addr) (l : List ByteArray) (keep : Int) (hr : Strs w w.heap.size A n l) (hnc : n ≤ c) (hc : c ≤ maxLen) (hf : Fit l) (hk : keysB l = true) (hi : inB keep 0 5 = false) :
    Calls Tryz.prog 107 #[.slice A n c, .int .i64 keep] w (NoSv w) := by
  have hlen := hr.len
  subst hlen
  have hn : l.length ≤ maxLen := Nat.le_trans hnc hc
  have HKY := Lib.hid (show ∀ W : World, W.heap = (w.alloc (.cells #[.string ⟨#[]⟩, .string ⟨#[]⟩, .string ⟨#[]⟩, .slice none 0 0, .int .i64 0] 92)).heap → Calls Tryz.prog 144 #[.slice A l.length c] W fun e w' => e = .returned (.bool true) ∧ Same W w' from fun W hW => by
    have h1 := keysS W w.heap.size l.length c A l ((hr.below ((Below.refl _ _).alloc (Nat.le_refl _) _) (Nat.le_refl _)).heap hW) hn hf
    rw [hk] at h1; exact h1)
  have HIN := Lib.hid (show ∀ W : World, Calls Tryz.prog 61 #[.int .i64 keep, .int .i64 0, .int .i64 5] W fun e w' => e = .returned (.bool false) ∧ W = w' from fun W => by
    have h1 := inS keep 0 5 W
    rw [hi] at h1; exact h1)
  clear hr hf hk hi
  go_enter Tryz.func107, Tryz.ntmps107
  go_wp2_with (first
    | (go_at_call 144; refine Calls.mono (HKY.out _ (by rfl)) ?_; rintro e w1 ⟨rfl, m1, rfl⟩)
    | (go_at_call 61; refine (HIN.out _).mono ?_; rintro e w2 ⟨rfl, rfl⟩))
  (try simp only [Exit.inBlock, Exit.then])
  refine bodyPost_ret (v := .tuple #[.agg #[.string ⟨#[]⟩, .string ⟨#[]⟩, .string ⟨#[]⟩, .slice none 0 0, .int .i64 0], .bool false]) ?_ rfl ⟨rfl, no_below w m1 _ _ _ _ _⟩
  exact ret_pair rfl _ _ w.heap.size _ _ rfl rfl (load_sieve (box_five (no_box w m1) _ _ _ _ _))

/-- what SieveOf answers, at every slice of strings and every number -/
def OfA (w : World) (l : List ByteArray) (keep : Int) (e : Ending) (w' : World) : Prop :=
  (keysB l = true ∧ inB keep 0 5 = true ∧ OfR w (ls l) keep.toNat e w') ∨ ((keysB l = false ∨ inB keep 0 5 = false) ∧ NoSv w e w')
theorem ofS (w : World) (n c : Nat) (A : Option Addr) (l : List ByteArray) (keep : Int) (hr : Strs w w.heap.size A n l) (hnc : n ≤ c) (hc : c ≤ maxLen) (hf : Fit l) :
    Calls Tryz.prog 107 #[.slice A n c, .int .i64 keep] w (OfA w l keep) := by
  rcases Bool.eq_false_or_eq_true (keysB l) with hk | hk
  · rcases Bool.eq_false_or_eq_true (inB keep 0 5) with hi | hi
    · have h5 : 0 ≤ keep ∧ keep ≤ 5 := by unfold inB at hi; exact of_decide_eq_true hi
      obtain ⟨kp, rfl⟩ := Int.eq_ofNat_of_zero_le h5.1
      exact (ofYes w n c A l kp hr hnc hc hf hk (by omega)).mono fun e w' h => .inl ⟨hk, hi, by rw [Int.toNat_natCast]; exact h⟩
    · exact (ofNo2 w n c A l keep hr hnc hc hf hk hi).mono fun e w' h => .inr ⟨.inr hi, h⟩
  · exact (ofNo1 w n c A l keep hr hnc hc hf hk).mono fun e w' h => .inr ⟨.inl hk, h⟩

end Go.Proofs.YtfhpkcamigkmdaaGreatDoor.W
namespace Go.Proofs.YtfhpkcamigkmdaaGreatDoor.W
open Go.RowKit K

theorem going_all {keys : List T.Str} : T.Going keys (T.forks keys) [] := T.Going.mk (by rw [show T.nodes (T.loads []) [] = [] from rfl, List.append_nil]) (fun f hf => by cases hf) (fun f hf => by cases hf)
theorem tr_sum {keys : List T.Str} (hK : T.KeyL keys) (h24 : keys.length ≤ 24) (kp : Nat) : ((T.trN kp 1 (T.forks keys)).map List.length).sum ≤ 144 := by
  have h1 := (T.going_len hK h24 kp going_all).1
  have h2 := (T.layA_len (T.trN kp 1 (T.forks keys)) (T.svNil kp)).1
  rw [T.lay_sieve] at h2
  have h3 : (T.sieve kp keys).letters.length = (T.enc kp (T.forks keys)).letters.length := rfl
  have h4 : (T.svNil kp).letters.length = 0 := rfl
  omega

set_option maxHeartbeats 2000000 in
set_option maxRecDepth 100000 in
theorem ofYesI (w : World) (n c : Nat) (A : Option Addr) (l : List ByteArray) (kp : Nat) (hr : Strs w w.heap.size A n l) (hnc : n ≤ c) (hc : c ≤ maxLen) (hf : Fit l) (hk1 : keysB l = true) (hkp : kp ≤ 5) :
    Calls Tryz.prog 147 #[.slice A n c, .int .i64 kp] w (OfR w (ls l) kp) := by
  have hlen := hr.len
  subst hlen
  have hn : l.length ≤ maxLen := Nat.le_trans hnc hc
  have hb0 : Below w.heap.size w (w.alloc zeroSv) := (Below.refl _ _).alloc (Nat.le_refl _) _
  have hs0 : (w.alloc zeroSv).heap.size = w.heap.size + 1 := World.size_alloc _ _
  have hr1 : Strs (w.alloc zeroSv) (w.alloc zeroSv).heap.size A l.length l := (hr.below hb0 (Nat.le_refl _)).more (by omega)
  have HKY := Lib.hid (show Calls Tryz.prog 177 #[.slice A l.length c] (w.alloc zeroSv) fun e w' => e = .returned (.bool true) ∧ w.alloc zeroSv = w' by
    have h1 := keysI (w.alloc zeroSv) _ l.length c A l hr1 hn hf
    rw [hk1] at h1; exact h1)
  have HIN := Lib.hid (show ∀ W : World, Calls Tryz.prog 178 #[.int .i64 kp] W fun e w' => e = .returned (.bool true) ∧ W = w' from fun W => by
    have h1 := keepI kp W
    have h2 : inB kp 0 5 = true := by unfold inB; exact decide_eq_true ⟨by omega, by omega⟩
    rw [h2] at h1; exact h1)
  have h24 : (ls l).length ≤ 24 := by rw [ls_len]; exact (keys_iff.mp hk1).1
  have HKL := Lib.hid (keyL_of hk1)
  have HTR := Lib.hid (trieI (w.alloc zeroSv) l.length c A l kp hr1 hnc hc hk1 hkp)
  have HSUM := Lib.hid (tr_sum HKL.out h24 kp)
  have HLEN := Lib.hid (show (T.trN kp 1 (T.forks (ls l))).length ≤ 145 by rw [T.trN_len]; exact forks_le HKL.out h24)
  clear hr hf hk1 hr1
  go_enter Tryz.func147, Tryz.ntmps147
  go_wp2_with fail
  go_at_call 177
  refine HKY.out.mono ?_
  rintro e w1 ⟨rfl, hw1⟩
  subst hw1
  go_wp2_with fail
  go_at_call 178
  refine (HIN.out _).mono ?_
  rintro e w1 ⟨rfl, hw1⟩
  subst hw1
  go_wp2_with fail
  go_at_call 179
  refine HTR.out.mono ?_
  rintro e w1 ⟨At, nt, ct, rfl, htr, hnt, hct, hb1⟩
  have HSV := Lib.hid (sieveI _ At nt ct kp w1 htr (by have h1 := htr.len; have := HLEN.out; omega) (by have := HSUM.out; omega))
  have HB1 := Lib.hid hb1
  have hsz1 := hb1.size
  clear htr hb1
  go_wp2_with fail
  go_at_call 180
  refine HSV.out.mono ?_
  rw [T.lay_sieve]
  rintro e w2 ⟨v, rfl, hown, hb2⟩
  have hbx : w2.heap[w.heap.size]? = some zeroSv := by
    rw [hb2.block _ (by omega), HB1.out.block _ (by omega)]
    exact heap_alloc_new _ _
  have hr0 : w2.cell? ⟨w.heap.size, 0, none⟩ = some (.string ⟨#[]⟩) := by rw [cell_of_row _ _ _ _ _ _ hbx]; rfl
  have hr1 : w2.cell? ⟨w.heap.size, 1, none⟩ = some (.string ⟨#[]⟩) := by rw [cell_of_row _ _ _ _ _ _ hbx]; rfl
  have hr2 : w2.cell? ⟨w.heap.size, 2, none⟩ = some (.string ⟨#[]⟩) := by rw [cell_of_row _ _ _ _ _ _ hbx]; rfl
  have hr3 : w2.cell? ⟨w.heap.size, 3, none⟩ = some (.slice none 0 0) := by rw [cell_of_row _ _ _ _ _ _ hbx]; rfl
  have hr4 : w2.cell? ⟨w.heap.size, 4, none⟩ = some (.int .i64 0) := by rw [cell_of_row _ _ _ _ _ _ hbx]; rfl
  have hz0 : w2.frozen? ⟨w.heap.size, 0, none⟩ = false := by rw [frozen_of_row _ _ _ _ _ hbx]
  have hz1 : w2.frozen? ⟨w.heap.size, 1, none⟩ = false := by rw [frozen_of_row _ _ _ _ _ hbx]
  have hz2 : w2.frozen? ⟨w.heap.size, 2, none⟩ = false := by rw [frozen_of_row _ _ _ _ _ hbx]
  have hz3 : w2.frozen? ⟨w.heap.size, 3, none⟩ = false := by rw [frozen_of_row _ _ _ _ _ hbx]
  have hz4 : w2.frozen? ⟨w.heap.size, 4, none⟩ = false := by rw [frozen_of_row _ _ _ _ _ hbx]
  have HBX := Lib.hid hbx
  obtain ⟨A3, c3, hv3, -, -, -⟩ := hown.parts
  obtain ⟨nR, hnR⟩ : ∃ n, n = ((T.sieve kp (ls l)).rests.map ba).length := ⟨_, rfl⟩
  rw [← hnR] at hv3
  subst hv3
  have HOW := Lib.hid hown
  have HBB := Lib.hid (hb0.trans ((HB1.out.mono (by omega)).trans (hb2.mono (by omega))))
  have hkk : (T.sieve kp (ls l)).keep = kp := rfl
  rw [hkk]
  obtain ⟨z1, hz1e⟩ : ∃ z, z = ba (T.sieve kp (ls l)).letters := ⟨_, rfl⟩
  obtain ⟨z2, hz2e⟩ : ∃ z, z = ba (T.sieve kp (ls l)).more := ⟨_, rfl⟩
  obtain ⟨z3, hz3e⟩ : ∃ z, z = ba (T.sieve kp (ls l)).first := ⟨_, rfl⟩
  rw [← hz1e, ← hz2e, ← hz3e]
  have Z1 := Lib.hid hz1e
  have Z2 := Lib.hid hz2e
  have Z3 := Lib.hid hz3e
  clear hbx hown hb2 hnR hz1e hz2e hz3e hkk
  go_wp2
  (try simp only [Exit.inBlock, Exit.then])
  have h5 := agree89 w2 w.heap.size (.string z1) (.string z2) (.string z3) (.slice A3 nR c3) (.int .i64 kp)
  refine bodyPost_ret (v := .tuple #[.agg #[.string z1, .string z2, .string z3, .slice A3 nR c3, .int .i64 kp], .bool true]) ?_ rfl ⟨.slice A3 nR c3, by rw [Z1.out, Z2.out, Z3.out], ?_, ?_⟩
  · exact ret_pair rfl _ _ w.heap.size _ _ rfl rfl (load_sieve (box_five HBX.out _ _ _ _ _))
  · exact (HOW.out.agree h5 (fun k hk e => by have := (HOW.out.lt hk).1; have e' : k = w.heap.size := e; omega)).base (by omega)
  · have hb := HBB.out
    refine ⟨by rw [os_set, os_set, os_set, os_set, os_set]; exact hb.os, by rw [tape_set, tape_set, tape_set, tape_set, tape_set]; exact hb.tape, by rw [out_set, out_set, out_set, out_set, out_set]; exact hb.output, Nat.le_trans hb.size h5.size, fun k hk => ?_⟩
    rw [h5.block k (by have := hb.size; omega) (fun e => by have e' : k = w.heap.size := e; omega)]
    exact hb.block k hk

set_option maxHeartbeats 1000000 in
theorem ofNoI (w : World) (n c : Nat) (A : Option Addr) (l : List ByteArray) (keep : Int) (hr : Strs w w.heap.size A n l) (hnc : n ≤ c) (hc : c ≤ maxLen) (hf : Fit l) (hk : keysB l = false ∨ (keysB l = true ∧ inB keep 0 5 = false)) :
    Calls Tryz.prog 147 #[.slice A n c, .int .i64 keep] w (NoSv w) := by
  have hlen := hr.len
  subst hlen
  have hn : l.length ≤ maxLen := Nat.le_trans hnc hc
  have hb0 : Below w.heap.size w (w.alloc zeroSv) := (Below.refl _ _).alloc (Nat.le_refl _) _
  have hs0 : (w.alloc zeroSv).heap.size = w.heap.size + 1 := World.size_alloc _ _
  have hr1 : Strs (w.alloc zeroSv) (w.alloc zeroSv).heap.size A l.length l := (hr.below hb0 (Nat.le_refl _)).more (by omega)
  have HKY := Lib.hid (keysI (w.alloc zeroSv) _ l.length c A l hr1 hn hf)
  have HIN := Lib.hid (fun W : World => keepI keep W)
  clear hr hf hr1 hb0 hs0
  rcases hk with hk | ⟨hk, hi⟩
  · rw [hk] at HKY
    go_enter Tryz.func147, Tryz.ntmps147
    go_wp2_with (go_at_call 177; refine HKY.out.mono ?_; rintro e w1 ⟨rfl, hw1⟩; subst hw1)
    (try simp only [Exit.inBlock, Exit.then])
    refine bodyPost_ret (v := .tuple #[.agg #[.string ⟨#[]⟩, .string ⟨#[]⟩, .string ⟨#[]⟩, .slice none 0 0, .int .i64 0], .bool false]) ?_ rfl ⟨rfl, ?_⟩
    · exact ret_pair rfl _ _ w.heap.size _ _ rfl rfl (load_sieve (heap_alloc_new w _))
    · exact (Below.refl _ _).alloc (Nat.le_refl _) _
  · rw [hk] at HKY
    rw [hi] at HIN
    go_enter Tryz.func147, Tryz.ntmps147
    go_wp2_with (first
      | (go_at_call 177; refine HKY.out.mono ?_; rintro e w1 ⟨rfl, hw1⟩; subst hw1)
      | (go_at_call 178; refine (HIN.out _).mono ?_; rintro e w2 ⟨rfl, hw2⟩; subst hw2))
    (try simp only [Exit.inBlock, Exit.then])
    refine bodyPost_ret (v := .tuple #[.agg #[.string ⟨#[]⟩, .string ⟨#[]⟩, .string ⟨#[]⟩, .slice none 0 0, .int .i64 0], .bool false]) ?_ rfl ⟨rfl, ?_⟩
    · exact ret_pair rfl _ _ w.heap.size _ _ rfl rfl (load_sieve (heap_alloc_new w _))
    · exact (Below.refl _ _).alloc (Nat.le_refl _) _
theorem ofI (w : World) (n c : Nat) (A : Option Addr) (l : List ByteArray) (keep : Int) (hr : Strs w w.heap.size A n l) (hnc : n ≤ c) (hc : c ≤ maxLen) (hf : Fit l) :
    Calls Tryz.prog 147 #[.slice A n c, .int .i64 keep] w (OfA w l keep) := by
  rcases Bool.eq_false_or_eq_true (keysB l) with hk | hk
  · rcases Bool.eq_false_or_eq_true (inB keep 0 5) with hi | hi
    · have h5 : 0 ≤ keep ∧ keep ≤ 5 := by unfold inB at hi; exact of_decide_eq_true hi
      obtain ⟨kp, rfl⟩ := Int.eq_ofNat_of_zero_le h5.1
      exact (ofYesI w n c A l kp hr hnc hc hf hk (by omega)).mono fun e w' h => .inl ⟨hk, hi, by rw [Int.toNat_natCast]; exact h⟩
    · exact (ofNoI w n c A l keep hr hnc hc hf (.inr ⟨hk, hi⟩)).mono fun e w' h => .inr ⟨.inr hi, h⟩
  · exact (ofNoI w n c A l keep hr hnc hc hf (.inl hk)).mono fun e w' h => .inr ⟨.inl hk, h⟩

end Go.Proofs.YtfhpkcamigkmdaaGreatDoor.W
namespace Go.Proofs.YtfhpkcamigkmdaaGreatDoor.T
open M

end Go.Proofs.YtfhpkcamigkmdaaGreatDoor.T
namespace Go.Proofs.YtfhpkcamigkmdaaGreatDoor.W
open Go.RowKit K

theorem all_small {keys : List T.Str} (hK : T.KeyL keys) (h24 : keys.length ≤ 24) (kp : Nat) : (T.sieve kp keys).letters.length ≤ 144 ∧ (T.sieve kp keys).more.length ≤ 144 ∧ (T.sieve kp keys).first.length ≤ 144 ∧ (T.sieve kp keys).rests.length ≤ 144 := T.going_len hK h24 kp going_all

end Go.Proofs.YtfhpkcamigkmdaaGreatDoor.W
namespace Go.Proofs.YtfhpkcamigkmdaaGreatDoor.W
open Go.RowKit K

/-- what both SieveOf answer: the filter, field by field -/
def svYes (l : List ByteArray) (keep : Int) : Bool := keysB l && inB keep 0 5
def svL (l : List ByteArray) (keep : Int) : ByteArray := if svYes l keep = true then ba (T.sieve keep.toNat (ls l)).letters else ⟨#[]⟩
def svM (l : List ByteArray) (keep : Int) : ByteArray := if svYes l keep = true then ba (T.sieve keep.toNat (ls l)).more else ⟨#[]⟩
def svF (l : List ByteArray) (keep : Int) : ByteArray := if svYes l keep = true then ba (T.sieve keep.toNat (ls l)).first else ⟨#[]⟩
def svR (l : List ByteArray) (keep : Int) : List ByteArray := if svYes l keep = true then (T.sieve keep.toNat (ls l)).rests.map ba else []
def svK (l : List ByteArray) (keep : Int) : Int := if svYes l keep = true then keep else 0
/-- an answer of SieveOf: these fields, in memory of its own -/
def OfF (w : World) (L M_ F : ByteArray) (R : List ByteArray) (k : Int) (b : Bool) (e : Ending) (w' : World) : Prop :=
  ∃ A c, e = .returned (.tuple #[.agg #[.string L, .string M_, .string F, .slice A R.length c, .int .i64 k], .bool b]) ∧ Own w' w.heap.size (.slice A R.length c) R ∧ Below w.heap.size w w'
theorem of_fields {w w' : World} {l : List ByteArray} {keep : Int} {e : Ending} (h : OfA w l keep e w') : OfF w (svL l keep) (svM l keep) (svF l keep) (svR l keep) (svK l keep) (svYes l keep) e w' := by
  rcases h with ⟨h1, h2, v, rfl, ho, hb⟩ | ⟨h1, rfl, hb⟩
  · have hy : svYes l keep = true := by unfold svYes; rw [h1, h2]; rfl
    have h5 : 0 ≤ keep ∧ keep ≤ 5 := by unfold inB at h2; exact of_decide_eq_true h2
    obtain ⟨kp, rfl⟩ := Int.eq_ofNat_of_zero_le h5.1
    unfold svL svM svF svR svK
    rw [hy]
    simp only [if_true]
    obtain ⟨A, c, hv, hc, hm, -⟩ := ho.parts
    subst hv
    exact ⟨A, c, rfl, ho, hb⟩
  · have hy : svYes l keep = false := by
      unfold svYes
      rcases h1 with h | h
      · rw [h]; rfl
      · rw [h, Bool.and_false]
    unfold svL svM svF svR svK
    rw [hy]
    simp only [Bool.false_eq_true, if_false]
    exact ⟨none, 0, rfl, Own.none_ _ _, hb⟩
theorem svR_len (l : List ByteArray) (keep : Int) : (svR l keep).length ≤ 144 := by
  unfold svR
  split
  · next h =>
    unfold svYes at h
    rw [Bool.and_eq_true] at h
    rw [List.length_map]
    exact (all_small (keyL_of h.1) (by rw [ls_len]; exact (keys_iff.mp h.1).1) _).2.2.2
  · simp

end Go.Proofs.YtfhpkcamigkmdaaGreatDoor.W
namespace Go.Proofs.YtfhpkcamigkmdaaGreatDoor.W
open Go.RowKit K R

/-- block bx is a box with a filter; its rests lie in new memory; all below is as it was -/
structure SvBox (W0 wx : World) (bx : Nat) (v : Value) (L M_ F : ByteArray) (R : List ByteArray) (K : Int) : Prop where
  row : wx.heap[bx]? = some (.cells #[.string L, .string M_, .string F, v, .int .i64 K] 92 (0, 0))
  own : Own wx W0.heap.size v R
  new : W0.heap.size ≤ bx
  bel : Below W0.heap.size W0 wx
theorem sv_row {W : World} {g : Nat} {v0 v1 v2 v3 v4 : Value} {t : TypeId} {x : Nat × Nat} (h : W.heap[g]? = some (.cells #[v0, v1, v2, v3, v4] t x)) :
    W.cell? ⟨g, 0, none⟩ = some v0 ∧ W.cell? ⟨g, 1, none⟩ = some v1 ∧ W.cell? ⟨g, 2, none⟩ = some v2 ∧ W.cell? ⟨g, 3, none⟩ = some v3 ∧ W.cell? ⟨g, 4, none⟩ = some v4 := by
  refine ⟨?_, ?_, ?_, ?_, ?_⟩ <;> rw [cell_of_row _ _ _ _ _ _ h] <;> rfl
theorem svbox_new {W0 w8 : World} {v : Value} {R : List ByteArray} (hb : Below W0.heap.size W0 w8) (ho : Own w8 W0.heap.size v R) (L M_ F : ByteArray) (K : Int) :
    SvBox W0 (w8.alloc (.cells #[.string L, .string M_, .string F, v, .int .i64 K] 92)) w8.heap.size v L M_ F R K :=
  ⟨heap_alloc_new _ _, ho.alloc _, hb.size, hb.alloc hb.size _⟩
theorem svbox_set {W0 w8 : World} {v : Value} {R : List ByteArray} {bx base : Nat} {y0 y1 y2 y3 y4 : Value} (hb : Below W0.heap.size W0 w8) (ho : Own w8 base v R) (hx : w8.heap[bx]? = some (.cells #[y0, y1, y2, y3, y4] 92 (0, 0))) (h1 : W0.heap.size ≤ bx) (h2 : bx < base) (L M_ F : ByteArray) (K : Int) :
    SvBox W0 (((((w8.setCell ⟨bx, 0, none⟩ (.string L)).setCell ⟨bx, 1, none⟩ (.string M_)).setCell ⟨bx, 2, none⟩ (.string F)).setCell ⟨bx, 3, none⟩ v).setCell ⟨bx, 4, none⟩ (.int .i64 K)) bx v L M_ F R K :=
  ⟨box_five hx _ _ _ _ _, (own_setFar (own_setFar (own_setFar (own_setFar (own_setFar ho _ _ _ h2) _ _ _ h2) _ _ _ h2) _ _ _ h2) _ _ _ h2).base (by omega), h1, ((((hb.setCell (p := ⟨bx, 0, none⟩) h1 _).setCell (p := ⟨bx, 1, none⟩) h1 _).setCell (p := ⟨bx, 2, none⟩) h1 _).setCell (p := ⟨bx, 3, none⟩) h1 _).setCell (p := ⟨bx, 4, none⟩) h1 _⟩
theorem strs_alloc {w : World} {n : Nat} {A : Option Addr} {l : List ByteArray} (h : Strs w w.heap.size A n l) (o : Obj) : Strs (w.alloc o) (w.alloc o).heap.size A n l :=
  (h.below ((Below.refl _ _).alloc (Nat.le_refl _) o) (Nat.le_refl _)).more (by simp)
/-- what SieveOf answers of keys: these fields, in memory of its own -/
def SvOf (keep : Int) (ks : List ByteArray) (L M_ F : ByteArray) (R : List ByteArray) (K : Int) (y : Bool) : Prop := L = svL ks keep ∧ M_ = svM ks keep ∧ F = svF ks keep ∧ R = svR ks keep ∧ K = svK ks keep ∧ y = svYes ks keep

end Go.Proofs.YtfhpkcamigkmdaaGreatDoor.W
namespace Go.Proofs.YtfhpkcamigkmdaaGreatDoor.W
open Go.RowKit K R

def keysO (l : List En) : List ByteArray := if runB l = true then keysL l else []

set_option maxHeartbeats 8000000 in
set_option maxRecDepth 100000 in
theorem runKeysI (w : World) (B n c : Nat) (A : Option Addr) (l : List En) (hr : Ents w B A n l) (hB : B ≤ w.heap.size) (hn : n ≤ 1073741824) (hf : ∀ e ∈ l, e.key.size ≤ maxLen) :
    Calls Tryz.prog 148 #[.slice A n c] w (New w (keysO l)) := by
  have hlen := hr.len
  subst hlen
  have HR := Lib.hid hr
  have HF := Lib.hid hf
  clear hr hf
  obtain ⟨b, hb⟩ : ∃ b, b = runB l := ⟨_, rfl⟩
  have HS := Lib.hid (show Calls Tryz.prog 115 #[.slice A l.length c] w fun e w' => e = .returned (.bool b) ∧ Below w.heap.size w w' from by rw [hb]; exact runI w B l.length c A l HR.out hB (by unfold maxLen; omega) HF.out)
  unfold keysO
  rw [← hb]
  clear hb
  cases b with
  | false =>
    go_enter Tryz.func148, Tryz.ntmps148
    go_wp2_with fail
    go_at_call 115
    refine HS.out.mono ?_
    rintro e w1 ⟨rfl, b1⟩
    have HB1 := Lib.hid b1
    clear b1
    go_wp2
    go_ret
    exact ⟨_, rfl, Own.none_ _ _, HB1.out⟩
  | true =>
    go_enter Tryz.func148, Tryz.ntmps148
    go_wp2_with fail
    go_at_call 115
    refine HS.out.mono ?_
    rintro e w1 ⟨rfl, b1⟩
    have HB1 := Lib.hid b1
    clear b1
    go_wp2_with fail
    go_loopw [3, 11] (fun s i wr => ∃ (k : Nat) (v : Value), k ≤ l.length ∧ i = .int .i64 (k : Nat) ∧ s = v ∧ Own wr w.heap.size v (keysUp l k) ∧ Below w.heap.size w wr) (fun _ i _ => l.length - (intOf i).toNat)
    case atStart => exact ⟨0, _, Nat.zero_le _, rfl, rfl, Own.none_ _ _, HB1.out⟩
    case round =>
      obtain ⟨k, s0, hk, rfl, hs0, ho, hbl⟩ := hrel
      have hs1 := hs0.symm
      clear hs0
      subst hs1
      have HO := Lib.hid ho
      have HBL := Lib.hid hbl
      clear ho hbl HB1
      by_cases hlt : k < l.length
      · obtain ⟨kb, ko, hA, hkb, c0, c1, c2, c3⟩ := HR.out.cell k hlt
        have hkb' : kb < w.heap.size := Nat.lt_of_lt_of_le hkb hB
        have r0 := (HBL.out.cell (p := ⟨kb, ko + k * 4, none⟩) hkb').trans c0
        have r1 := (HBL.out.cell (p := ⟨kb, ko + k * 4 + 1, none⟩) hkb').trans c1
        have r2 := (HBL.out.cell (p := ⟨kb, ko + k * 4 + 2, none⟩) hkb').trans c2
        have r3 := (HBL.out.cell (p := ⟨kb, ko + k * 4 + 3, none⟩) hkb').trans c3
        obtain ⟨x0, h0⟩ : ∃ y, y = l[k].key := ⟨_, rfl⟩
        obtain ⟨x1, h1⟩ : ∃ y, y = l[k].val := ⟨_, rfl⟩
        obtain ⟨x2, h2⟩ : ∃ y, y = l[k].gone := ⟨_, rfl⟩
        obtain ⟨x3, h3⟩ : ∃ y, y = l[k].time := ⟨_, rfl⟩
        rw [← h0] at r0
        rw [← h1] at r1
        rw [← h2] at r2
        rw [← h3] at r3
        have HKE := Lib.hid (show (en l k).key = x0 by rw [key_at hlt, h0])
        have z0 : (0 : Int) ≤ (k : Int) := by omega
        have z1 : (k : Int) < (l.length : Int) := by omega
        obtain ⟨WX, hWX⟩ : ∃ W, W = wr.alloc (.cells #[.string x0, .int .i64 x1, .bool x2, .int .i64 x3] 83) := ⟨_, rfl⟩
        have HBX := Lib.hid (show Below w.heap.size w WX by rw [hWX]; exact HBL.out.alloc HBL.out.size _)
        have HOX := Lib.hid (show Own WX w.heap.size s0 (keysUp l k) by rw [hWX]; exact HO.out.alloc _)
        have HYX := Lib.hid (show WX.heap[wr.heap.size]? = some (.cells #[.string x0, .int .i64 x1, .bool x2, .int .i64 x3] 83 (0, 0)) by rw [hWX]; exact heap_alloc_new _ _)
        obtain ⟨q, hq⟩ : ∃ q, newAt l k = q := ⟨_, rfl⟩
        have HFO := Lib.hid (show Calls Tryz.prog 181 #[.slice A l.length c, .int .i64 k] WX fun e w' => e = .returned (.bool (!q)) ∧ Same WX w' from by rw [← hq]; exact followsI WX B l.length c k A l (HR.out.below HBX.out hB) (by unfold maxLen; omega) hlt)
        have HWX := Lib.hid hWX
        have HQ := Lib.hid hq
        subst hA
        clear h0 h1 h2 h3 c0 c1 c2 c3 hWX hq
        go_upto_region 7 with fail
        rw [← HWX.out]
        go_wp2_with fail
        go_at_call 181
        refine HFO.out.mono ?_
        rintro e w5 ⟨rfl, m5⟩
        have hb5 := m5.below WX.heap.size
        have HB5 := Lib.hid (HBX.out.trans (hb5.mono HBX.out.size))
        have HO5 := Lib.hid (HOX.out.below hb5)
        have hs5 := hb5.size
        have HY5 := Lib.hid (show w5.heap[wr.heap.size]? = some (.cells #[.string x0, .int .i64 x1, .bool x2, .int .i64 x3] 83 (0, 0)) by rw [hb5.block _ (Array.getElem?_eq_some_iff.1 HYX.out).1]; exact HYX.out)
        have y0 : w5.cell? ⟨wr.heap.size, 0, none⟩ = some (.string x0) := by rw [cell_of_row _ _ _ _ _ _ HY5.out]; rfl
        clear m5 hb5 r0 r1 r2 r3
        cases q with
        | false =>
          go_wp2
          go_roundw
          case rel => exact ⟨k + 1, _, by omega, by go_num, rfl, by rw [keysUp_old HQ.out]; exact HO5.out, HB5.out⟩
          case measure => simp [intOf]; omega
        | true =>
          go_wp2_with (at_builtin; refine app_own rfl (.tmp 20) (.tmp 23) rfl _ w.heap.size _ (keysUp l k) rfl (HO5.out.alloc _) (w5.heap.size + 1) 1 1 _ [x0] rfl (one_strs w5 x0) (by have := keysUp_len l k; omega) (by have := HB5.out.size; simp; omega) ?_; intro vb wb ob gb; have OB := Lib.hid ob; have BB := Lib.hid (Below.app (HB5.out.alloc HB5.out.size _) (HO5.out.alloc _) (Nat.le_refl _) gb (by have := HB5.out.size; simp; omega)); clear ob gb)
          go_roundw
          case rel => exact ⟨k + 1, _, by omega, by go_num, rfl, by rw [keysUp_new HQ.out, HKE.out]; exact OB.out, BB.out⟩
          case measure => simp [intOf]; omega
      · have hke : k = l.length := by omega
        subst hke
        go_wp2
        go_ret
        exact ⟨_, rfl, HO.out, HBL.out⟩

end Go.Proofs.YtfhpkcamigkmdaaGreatDoor.W
