/-
  Contract of the program's readTrie: what is read of a filter.
-/
import Derived.Test.YtfhpkcamigkmdaaGreatDoorZAA
import Derived.Test.YtfhpkcamigkmdaaGreatDoorZAW
import Derived.Deep.RegionLaw
import Derived.Deep.RegionHeld
import Derived.Deep.CutRange
namespace Go.Proofs.YtfhpkcamigkmdaaGreatDoor.W
open Go.RowKit K

/-- what readTrie answers -/
def ReadR (w : World) (s : T.Sv) (e : Ending) (w' : World) : Prop :=
  (s.rdOk ∧ ∃ A c, e = .returned (.tuple #[.slice A s.top c, .bool true]) ∧ Trs w' (fun k => w'.heap.size ≤ k) A s.top s.rd ∧ s.top ≤ c ∧ c ≤ maxLen ∧ Below w.heap.size w w') ∨
  (¬ s.rdOk ∧ e = .returned (.tuple #[.slice none 0 0, .bool false]) ∧ Below w.heap.size w w')

theorem mk_cells (k : Nat) : madeCells #[.slice none 0 0] k = (List.replicate k (Value.slice none 0 0)).toArray := by
  unfold madeCells
  apply Array.ext
  · simp
  · intro i h1 h2
    simp [Nat.mod_one]
theorem mkI (k : Nat) (hk : k ≤ 1000) (W : World) : (Instr.makeSlice 133 (.int .i64 (k : Int)) (.int .i64 (k : Int))).run Tryz.prog W = .ok (.slice (some ⟨W.heap.size, 0, none⟩) k k) (W.alloc (.cells (List.replicate k (Value.slice none 0 0)).toArray 197)) := by
  obtain ⟨i0, hi, hz0, hz1, hz2⟩ := info_parts node_info
  have h := run_makeSlice (P := Tryz.prog) W 133 197 i0 _ Tryz.underlying133 hi hz0 .i64 .i64 (k : Int) (k : Int) (by omega) (by omega) (by rw [hz1]; simp; omega) (by rw [hz2]; omega) (by omega)
  have e : (Value.slice none 0 0).cells = #[.slice none 0 0] := rfl
  rw [hz1, e, Int.toNat_natCast, Nat.mul_one, mk_cells] at h
  exact h

/-- behind the append of a branch -/
theorem fill_after {w wr W w1 : World} {g K m : Nat} {D : T.Tr} {ds : List Value} {nv nv' : Value} {cur : List T.TB} {v : Value} (P : Fill w wr g K D ds nv cur m) (hA : Agree wr W (fun _ => False)) (hO : W.os = wr.os ∧ W.tape = wr.tape ∧ W.output = wr.output)
    (ho : Row 165 1 w1 (g + 1) nv' (cur.length + 1) (cur.map brV ++ [v])) (hg : Grew W w1 nv nv') :
    w1.cell? ⟨g, D.length, none⟩ = some nv ∧ w1.frozen? ⟨g, D.length, none⟩ = false ∧ (∀ b off, b < w.heap.size → w1.cell? ⟨b, off, none⟩ = wr.cell? ⟨b, off, none⟩) ∧ (∀ b : T.TB, brV b = v → Fill w (w1.setCell ⟨g, D.length, none⟩ nv') g K D ds nv' (cur ++ [b]) m) := by
  have Q := P.quiet hA hO
  have hn : ∀ k, nv.ownBlock = some k → g + 1 ≤ k := fun k hk => (Row.lt_ P.own hk).1
  have hrow1 : w1.heap[g]? = some (.cells (ds ++ nv :: List.replicate m (.slice none 0 0)).toArray 197 (0, 0)) := by
    rw [hg.agree.block g Q.gl (fun h => by have := hn g h; omega)]; exact Q.row
  refine ⟨?_, ?_, ?_, ?_⟩
  · rw [cell_of_row _ _ _ _ _ _ hrow1, List.getElem?_toArray, List.getElem?_append_right (by rw [P.dlen]; exact Nat.le_refl _), P.dlen, Nat.sub_self]; rfl
  · rw [frozen_of_row _ _ _ _ _ hrow1]
  · intro b off hb
    have hbg := P.gw
    have h1 : b < wr.heap.size := by have := P.below.size; omega
    rw [hg.agree.cell (p := ⟨b, off, none⟩) (Nat.lt_of_lt_of_le h1 hA.size) (fun h => by have := hn _ h; have h' : g + 1 ≤ b := this; omega), hA.cell (p := ⟨b, off, none⟩) h1 (fun h => h)]
  · rintro b rfl
    exact Q.more ho hg

set_option maxHeartbeats 60000000 in
set_option maxRecDepth 100000 in
theorem readYes (L M_ F : ByteArray) (A : Option Addr) (n c : Nat) (l : List ByteArray) (kp : Nat) (w : World) (hr : Strs w w.heap.size A n l) (hfo : formB L M_ F n kp = true) :
    Calls Tryz.prog 153 #[.agg #[.string L, .string M_, .string F, .slice A n c, .int .i64 kp]] w (ReadR w (svOf L M_ F l kp)) := by
  obtain ⟨p1, p2, p3, p4, -, p6⟩ := form_parts hfo
  have HMA := Lib.hid (show ∀ W, Calls Tryz.prog 184 #[.agg #[.string L, .string M_, .string F, .slice A n c, .int .i64 kp]] W fun e w' => e = .returned (.bool true) ∧ Below W.heap.size W w' from fun W => by
    have h := matchI L M_ F A n c kp W (by unfold maxLen; omega) (by unfold maxLen; omega)
    rw [hfo] at h; exact h)
  obtain ⟨on, hon⟩ : ∃ on, on = M.ones F.toList := ⟨_, rfl⟩
  have HCT := Lib.hid (show ∀ W, Calls Tryz.prog 185 #[.string F, .string ⟨#[49]⟩] W fun e w' => e = .returned (.int .i64 (on : Nat)) ∧ W = w' from fun W => by
    have h := countI F 49 W
    rw [count_ones, ← hon] at h; exact h)
  have HON := Lib.hid hon
  have hon2 : on ≤ 400 := by rw [hon]; have := M.ones_le F.toList; rw [len_L] at this; omega
  clear hon
  go_enter Tryz.func153, Tryz.ntmps153
  go_wp2_with fail
  go_at_call 184
  refine (HMA.out _).mono ?_
  rintro e w1 ⟨rfl, hb1⟩
  have hbx : w1.heap[w.heap.size]? = some (.cells #[.string L, .string M_, .string F, .slice A n c, .int .i64 kp] 92 (0, 0)) := by rw [hb1.block _ (by simp)]; exact heap_alloc_new _ _
  have b0 : w1.cell? ⟨w.heap.size, 0, none⟩ = some (.string L) := by rw [cell_of_row _ _ _ _ _ _ hbx]; rfl
  have b2 : w1.cell? ⟨w.heap.size, 2, none⟩ = some (.string F) := by rw [cell_of_row _ _ _ _ _ _ hbx]; rfl
  obtain ⟨K, hKe⟩ : ∃ K, K = max 1 on := ⟨_, rfl⟩
  have hmk1 : ∀ W, (Instr.makeSlice 133 (.int .i64 1) (.int .i64 1)).run Tryz.prog W = .ok (.slice (some ⟨W.heap.size, 0, none⟩) 1 1) (W.alloc (.cells (List.replicate 1 (Value.slice none 0 0)).toArray 197)) := fun W => mkI 1 (by omega) W
  have hmk2 := fun W => mkI on (by omega) W
  go_upto_region 3 with fail
  go_cut [4] from 12 to 16 (fun s4 wx => s4 = .slice (some ⟨w1.heap.size, 0, none⟩) K K ∧ Hid (wx = w1.alloc (.cells (List.replicate K (Value.slice none 0 0)).toArray 197)))
  case first =>
    go_wp2_with (go_at_call 185; refine (HCT.out _).mono ?_; rintro e w2 ⟨rfl, hw2⟩; subst hw2)
    all_goals
      go_meet
      first
        | (obtain rfl : K = on := by omega
           exact ⟨rfl, Lib.hid (by simp)⟩)
        | (obtain rfl : K = 1 := by omega
           exact ⟨rfl, Lib.hid (by simp)⟩)
  case rest =>
    obtain ⟨rfl, hwc⟩ := hcut
    have hK1 : 0 < K := by omega
    have hK4 : K ≤ 401 := by omega
    have HFS := Lib.hid (fill_start _ w1 K hK1 hb1)
    rw [← hwc.out] at HFS
    have HKT := Lib.hid (show K = (svOf L M_ F l kp).top by rw [hKe, HON.out]; rfl)
    have hgw : w.heap.size < w1.heap.size := by have := hb1.size; simp at this; omega
    have k0 : wc.cell? ⟨w.heap.size, 0, none⟩ = some (.string L) := by rw [hwc.out, World.cell?_of_block (w := w1) (a := ⟨w.heap.size, 0, none⟩) (Below.heap_alloc _ _ _ hgw)]; exact b0
    obtain ⟨g, hg⟩ : ∃ g, g = w1.heap.size := ⟨_, rfl⟩
    rw [← hg] at HFS hgw ⊢
    have HMB := Lib.hid (bits_of (s := M_) (by unfold formB at hfo; simp only [Bool.and_eq_true] at hfo; exact hfo.1)).2
    have HFB := Lib.hid (bits_of (s := F) (by unfold formB at hfo; simp only [Bool.and_eq_true] at hfo; exact hfo.2.1)).2
    have HN := Lib.hid (show (svOf L M_ F l kp).rests.length + M.ones (svOf L M_ F l kp).more = (svOf L M_ F l kp).letters.length by
      unfold formB at hfo
      simp only [Bool.and_eq_true, decide_eq_true_eq] at hfo
      have h1 := hfo.2.2.2.2.1
      have h2 : cntI M_ L.size = M.ones M_.toList := by
        unfold cntI
        rw [← p1, List.take_of_length_le (by simp), ByteArray.toList_eq]
      have h3 := ones_le_len M_.toList
      rw [len_L] at h3
      show (l.map _).length + M.ones M_.toList = L.toList.length
      rw [List.length_map, len_L, hr.len]
      omega)
    have HR0 := Lib.hid hr
    obtain ⟨W0, hW0⟩ : ∃ W0, W0 = w.alloc (.cells #[.string L, .string M_, .string F, .slice A n c, .int .i64 kp] 92) := ⟨_, rfl⟩
    rw [← hW0] at HFS
    have HW0 := Lib.hid hW0
    obtain ⟨s, hse⟩ : ∃ s, s = svOf L M_ F l kp := ⟨_, rfl⟩
    rw [← hse] at HKT HN
    have HSE := Lib.hid hse
    have HLL := Lib.hid (show s.letters.length = L.size ∧ s.more.length = s.letters.length ∧ s.first.length = s.letters.length by
      rw [hse]
      refine ⟨len_L L, ?_, ?_⟩
      · show M_.toList.length = L.toList.length; rw [len_L, len_L, p1]
      · show F.toList.length = L.toList.length; rw [len_L, len_L, p2])
    clear hr hfo hb1 hbx hKe hmk1 hmk2 b0 b2 hg hW0 hse HMA HCT
    go_wp2
    go_loopw [5, 6, 7, 20] (fun av ov ev iv wr => ∃ (i : Nat) (D : T.Tr) (ds : List Value) (nv : Value) (cur : List T.TB) (m : Nat) (a : Int), i ≤ L.size ∧ iv = .int .i64 (i : Nat) ∧ av = .int .i64 a ∧ ov = .int .i64 (s.rank i : Nat) ∧ ev = .int .i64 (i - s.rank i : Nat) ∧ Fill W0 wr g K D ds nv cur m ∧ RStep s i D cur a ∧ (∀ k, k < i → ¬ s.bad k)) (fun _ _ _ iv _ => L.size - (intOf iv).toNat)
    case atStart => exact ⟨0, [], [], _, [], _, -1, Nat.zero_le _, rfl, rfl, rfl, rfl, HFS.out, .inl ⟨rfl, rfl, rfl, rfl⟩, fun k hk => by omega⟩
    case round =>
      obtain ⟨i, D, ds, nv, cur, m, a, hi, rfl, rfl, rfl, rfl, P, hst, hbad⟩ := hrel
      have HP := Lib.hid P
      have HST := Lib.hid hst
      have HBD := Lib.hid hbad
      clear P hst hbad
      by_cases hlt : i < L.size
      · have hW0 := HW0.out
        have hbox : wr.heap[w.heap.size]? = some (.cells #[.string L, .string M_, .string F, .slice A n c, .int .i64 kp] 92 (0, 0)) := by
          rw [HP.out.below.block _ (by rw [hW0]; simp), hW0]; exact heap_alloc_new _ _
        have b0 : wr.cell? ⟨w.heap.size, 0, none⟩ = some (.string L) := by rw [cell_of_row _ _ _ _ _ _ hbox]; rfl
        have b1 : wr.cell? ⟨w.heap.size, 1, none⟩ = some (.string M_) := by rw [cell_of_row _ _ _ _ _ _ hbox]; rfl
        have b2 : wr.cell? ⟨w.heap.size, 2, none⟩ = some (.string F) := by rw [cell_of_row _ _ _ _ _ _ hbox]; rfl
        have b3 : wr.cell? ⟨w.heap.size, 3, none⟩ = some (.slice A n c) := by rw [cell_of_row _ _ _ _ _ _ hbox]; rfl
        have b4 : wr.cell? ⟨w.heap.size, 4, none⟩ = some (.int .i64 kp) := by rw [cell_of_row _ _ _ _ _ _ hbox]; rfl
        have hFl : i < F.size := by omega
        have hMl : i < M_.size := by omega
        have HFG := Lib.hid (show s.first.getD i 0 = F[i] by rw [HSE.out]; exact at_L F i hFl)
        have HMG := Lib.hid (show s.more.getD i 0 = M_[i] by rw [HSE.out]; exact at_L M_ i hMl)
        have HLG := Lib.hid (show s.letters.getD i 0 = L[i] by rw [HSE.out]; exact at_L L i hlt)
        have hil : i < s.letters.length := by rw [HLL.out.1]; exact hlt
        have x0 : (0 : Int) ≤ (i : Int) := by omega
        have x1 : (i : Int) < (L.size : Int) := by omega
        have x2 : (i : Int) < (M_.size : Int) := by omega
        have x3 : (i : Int) < (F.size : Int) := by omega
        have hne1 : ¬ w.heap.size = g := by omega
        have HWS := Lib.hid (show w.heap.size < W0.heap.size by rw [hW0]; simp)
        clear hbox hW0
        go_upto_if 27 with fail
        go_cut [5] from 28 to 29 (fun s5 wx => wx = wr ∧ ((∃ D1 ds1 nv1 cur1 m1, s5 = .int .i64 (D1.length : Nat) ∧ Fill W0 wr g K D1 ds1 nv1 cur1 m1 ∧ s.grp (i + 1) = D1 ++ [cur1 ++ [s.br i]] ∧ s.nds (i + 1) = D1.length + 1) ∨ (s5 = .int .i64 (-1) ∧ s.bad i)))
        case first =>
          by_cases hF49 : F[i] = 49
          · have heF : ((F[i].toNat : Int) == 49) = true := by rw [hF49]; rfl
            obtain ⟨D1, ds1, nv1, cur1, m1, Q, ha1, hgr1, hnd1⟩ := rt_new HLL.out.2.2 HKT.out hil HBD.out (by rw [HFG.out]; exact hF49) HST.out HP.out
            have HALL := Lib.hid (show (∃ D1 ds1 nv1 cur1 m1, Value.int .i64 (a + 1) = .int .i64 (D1.length : Nat) ∧ Fill W0 wr g K D1 ds1 nv1 cur1 m1 ∧ s.grp (i + 1) = D1 ++ [cur1 ++ [s.br i]] ∧ s.nds (i + 1) = D1.length + 1) from ⟨D1, ds1, nv1, cur1, m1, by rw [ha1], Q, hgr1, hnd1⟩)
            have hal : a + 1 ≤ 402 := by have := Q.len; omega
            have hal2 : 0 ≤ a + 1 := by omega
            clear hF49 Q ha1 hgr1 hnd1
            go_wp2
            go_meet
            exact ⟨rfl, .inl HALL.out⟩
          · have heF : ((F[i].toNat : Int) == 49) = false := by
              rcases HFB.out F[i] (List.mem_of_getElem? (at_k F i hFl)) with e | e
              · rw [e]; rfl
              · exact absurd e hF49
            have HALL := Lib.hid (show (∃ D1 ds1 nv1 cur1 m1, Value.int .i64 a = .int .i64 (D1.length : Nat) ∧ Fill W0 wr g K D1 ds1 nv1 cur1 m1 ∧ s.grp (i + 1) = D1 ++ [cur1 ++ [s.br i]] ∧ s.nds (i + 1) = D1.length + 1) ∨ (Value.int .i64 a = .int .i64 (-1) ∧ s.bad i) by
              by_cases h0 : 0 < i
              · obtain ⟨h1, h2, h3⟩ := rt_same HLL.out.2.2 hil HBD.out (by rw [HFG.out]; exact hF49) h0 HST.out
                exact .inl ⟨D, ds, nv, cur, m, by rw [h1], HP.out, h2, h3⟩
              · obtain rfl : i = 0 := by omega
                right
                refine ⟨?_, rt_bad HLL.out.2.2 hil (by rw [HFG.out]; exact hF49)⟩
                rcases HST.out with ⟨-, h, -⟩ | ⟨h, -⟩
                · rw [h]
                · omega)
            clear hF49
            go_wp2
            go_meet
            exact ⟨rfl, HALL.out⟩
        case rest =>
          obtain ⟨hwx, hall⟩ := hcut
          subst hwx
          have HBB := Lib.hid (show Below w.heap.size w wc by
            have hsz := HP.out.below
            rw [HW0.out] at hsz
            exact ((Below.refl _ _).alloc (Nat.le_refl _) _).trans (hsz.mono (by simp)))
          rcases hall with ⟨D1, ds1, nv1, cur1, m1, rfl, Q, hgr1, hnd1⟩ | ⟨rfl, hbad⟩
          · have HGR := Lib.hid hgr1
            have HND := Lib.hid hnd1
            have HCB := Lib.hid (show cur1.length ≤ 1000 by have h := cur_le hgr1; omega)
            clear hgr1 hnd1
            obtain ⟨An, cn, hnv, -, -⟩ := Q.own.parts_
            obtain ⟨ncur, hncur⟩ : ∃ x, x = cur1.length := ⟨_, rfl⟩
            rw [← hncur] at hnv
            subst hnv
            have HQ := Lib.hid Q
            have HGL := Lib.hid Q.gl
            obtain ⟨tc0, tz0⟩ := Q.cell
            obtain ⟨q, hq⟩ : ∃ q, q = D1.length := ⟨_, rfl⟩
            rw [← hq] at tc0 tz0 ⊢
            have tcA : ∀ o, (wc.alloc o).cell? ⟨g, q, none⟩ = some (.slice An ncur cn) := fun o => by rw [World.cell?_of_block (w := wc) (a := ⟨g, q, none⟩) (Below.heap_alloc _ _ _ Q.gl)]; exact tc0
            have tcB : ∀ o, (wc.alloc o).drew.cell? ⟨g, q, none⟩ = some (.slice An ncur cn) := tcA
            have hqK : (q : Int) < (K : Int) := by have := Q.len; omega
            have hq0 : ¬ (q : Int) < 0 := by omega
            have hq1 : (0 : Int) ≤ (q : Int) := by omega
            have hq4 : q ≤ 401 := by omega
            have HQE := Lib.hid hq
            have HCU := Lib.hid hncur
            clear Q hq hncur
            by_cases hM49 : M_[i] = 49
            · have hmg : s.more.getD i 0 = 49 := by rw [HMG.out]; exact hM49
              have heM : ((M_[i].toNat : Int) == 48) = false := by rw [hM49]; rfl
              have hrk : s.rank (i + 1) = s.rank i + 1 := by have := T.ones_next s.more i (by rw [HLL.out.2.1, HLL.out.1]; exact hlt); rw [if_pos hmg] at this; exact this
              obtain ⟨r, hre⟩ : ∃ r, r = s.rank i := ⟨_, rfl⟩
              have hrl : r ≤ i := by rw [hre]; have := ones_le_len (s.more.take i); rw [List.length_take] at this; show M.ones _ ≤ i; omega
              rw [← hre]
              have HRE := Lib.hid hre
              have HRK := Lib.hid hrk
              by_cases hgood : q < r + 1 ∧ r + 1 < K
              · have hg1 : ¬ ((r : Int) + 1 ≤ (q : Int)) := by omega
                have hg2 : ¬ ((r : Int) + 1 ≥ (K : Int)) := by omega
                have HNB := Lib.hid (show ¬ s.bad i by
                  rintro (h | ⟨-, h⟩)
                  · have := HND.out; omega
                  · have h1 := HND.out; have h2 := HQE.out; have h3 := HKT.out; omega)
                have HBR := Lib.hid (show brV (s.br i) = .iface 169 (.agg #[.int .u8 L[i].toNat, .int .i64 ((r : Int) + 1)]) by
                  unfold T.Sv.br
                  rw [if_neg (by rw [hmg]; decide), HLG.out, hrk, ← hre]
                  show Value.iface _ (.agg #[_, .int .i64 ((r + 1 : Nat) : Int)]) = _
                  rw [show ((r + 1 : Nat) : Int) = (r : Int) + 1 by omega])
                clear hgood hre hrk hmg hM49
                go_wp2_with fail
                go_region_law (refine step_row rfl (.tmp 77) (.tmp 85) 197 165 1 _ _ rfl Tryz.underlying197 branch_info rfl (by decide) _ (g + 1) _ _ _ (by simp [Act.eval]) (Row.agree HQ.out.own (agree7 wc _) (fun _ _ h => h)) 1 1 wc.heap.size [.iface 169 (.agg #[.int .u8 L[i].toNat, .int .i64 ((r : Int) + 1)])] (by simp [Act.eval]) rfl (cell_one (w := (wc.alloc _).drew) (by exact heap_alloc_new wc _)) (fun u hu => by simp at hu; subst hu; rfl) (by decide) (by have := HCB.out; omega) (by decide) (by have := HQ.out.gl; simp; omega) ?_; intro nv' w3 hrow hg3; obtain ⟨A3, c3, hv3, -, -⟩ := Row.parts_ hrow; subst hv3; have T3 := Lib.hid (fill_after HQ.out (agree7 wc _) ⟨rfl, rfl, rfl⟩ hrow hg3); have tc3 := T3.out.1; have tz3 := T3.out.2.1; rw [← HQE.out] at tc3 tz3; clear hrow hg3)
                all_goals
                  go_wp2
                  go_roundw
                  case rel =>
                    refine ⟨i + 1, D1, ds1, .slice A3 (cur1.length + 1) c3, cur1 ++ [s.br i], m1, (q : Int), by omega, by go_num, rfl, ?_, ?_, ?_, .inr ⟨by omega, by rw [HQE.out], HGR.out⟩, ?_⟩
                    · rw [HRK.out, ← HRE.out]; go_num
                    · rw [HRK.out, ← HRE.out]; congr 2; omega
                    · have h := T3.out.2.2.2 (s.br i) HBR.out
                      rw [← HQE.out] at h
                      exact h
                    · intro k hk
                      by_cases hki : k < i
                      · exact HBD.out k hki
                      · obtain rfl : k = i := by omega
                        exact HNB.out
                  case measure => simp [intOf]; omega
              · have HBI := Lib.hid (show s.bad i by
                  refine .inr ⟨by rw [hmg]; decide, ?_⟩
                  have h1 := HND.out; have h2 := HQE.out; have h3 := HKT.out
                  omega)
                have HNO := Lib.hid (show ¬ s.rdOk from fun h => h i (by rw [HLL.out.1]; exact hlt) HBI.out)
                by_cases hb1 : r + 1 ≤ q
                · have hb2 : (r : Int) + 1 ≤ (q : Int) := by omega
                  clear hgood hre hrk hmg hM49
                  go_wp2
                  go_ret2
                  rw [← HSE.out]
                  exact .inr ⟨HNO.out, rfl, HBB.out⟩
                · have hb2 : ¬ ((r : Int) + 1 ≤ (q : Int)) := by omega
                  have hb3 : (r : Int) + 1 ≥ (K : Int) := by omega
                  clear hgood hre hrk hmg hM49
                  go_wp2
                  go_ret2
                  rw [← HSE.out]
                  exact .inr ⟨HNO.out, rfl, HBB.out⟩
            · have hM48 : M_[i] = 48 := by
                rcases HMB.out M_[i] (List.mem_of_getElem? (at_k M_ i hMl)) with e | e
                · exact e
                · exact absurd e hM49
              have hmg : s.more.getD i 0 = 48 := by rw [HMG.out]; exact hM48
              have heM : ((M_[i].toNat : Int) == 48) = true := by rw [hM48]; rfl
              obtain ⟨hri, hrl, hrk⟩ := rest_in HLL.out.2.1 HN.out (i := i) (by rw [HLL.out.1]; exact hlt) (by rw [hmg]; decide)
              obtain ⟨r, hre⟩ : ∃ r, r = s.rank i := ⟨_, rfl⟩
              rw [← hre] at hri hrl ⊢
              obtain ⟨x, hx⟩ : ∃ x, x = i - r := ⟨_, rfl⟩
              rw [← hx] at hri ⊢
              have hxl : x < l.length := by have h1 : s.rests.length = l.length := by rw [HSE.out]; show (l.map _).length = _; rw [List.length_map]
                                            omega
              obtain ⟨rb, ro, hA, hrb, hrc⟩ := HR0.out.cell x hxl
              subst hA
              have hnl := HR0.out.len
              have hrc2 : wc.cell? ⟨rb, ro + x, none⟩ = some (.string l[x]) := by rw [HBB.out.cell (p := ⟨rb, ro + x, none⟩) hrb]; exact hrc
              have hy0 : (0 : Int) ≤ (x : Int) := by omega
              have hy1 : (x : Int) < (n : Int) := by omega
              have HNB := Lib.hid (show ¬ s.bad i by
                rintro (h | ⟨h, -⟩)
                · have := HND.out; omega
                · exact h hmg)
              have HBR := Lib.hid (show brV (s.br i) = .iface 171 (.agg #[.int .u8 L[i].toNat, .string l[x], .bool (endW L[i] l[x] kp)]) by
                unfold T.Sv.br
                rw [if_pos hmg, HLG.out, ← hre, ← hx]
                have e1 : s.rests.getD x [] = l[x].toList := by
                  rw [HSE.out]
                  show (l.map _).getD x [] = _
                  rw [List.getD_eq_getElem?_getD, List.getElem?_map, List.getElem?_eq_getElem hxl]; rfl
                have e2 : s.keep = kp := by rw [HSE.out]; rfl
                rw [e1, e2]
                show Value.iface _ (.agg #[_, .string (ba l[x].toList), _]) = _
                rw [ba_of]; rfl)
              obtain ⟨y, hy⟩ : ∃ y, y = l[x] := ⟨_, rfl⟩
              rw [← hy] at hrc2 HBR
              obtain ⟨lc, hlc⟩ : ∃ lc : UInt8, lc = L[i] := ⟨_, rfl⟩
              have HLC := Lib.hid hlc
              have HNE := Lib.hid (show ∀ (W : World), W.heap = wc.heap → W.os = wc.os ∧ W.tape = wc.tape ∧ W.output = wc.output → Calls Tryz.prog 186 #[.int .u8 L[i].toNat, .string y, .int .i64 kp] W fun e w' => e = .returned (.agg #[.int .u8 L[i].toNat, .string y, .bool (endW L[i] y kp)]) ∧ Agree wc w' (fun _ => False) ∧ (w'.os = wc.os ∧ w'.tape = wc.tape ∧ w'.output = wc.output) from fun W hW hO =>
                (newE L[i] y kp W).mono fun e w' ⟨he, hb⟩ => ⟨he, (agree_heap _ hW).trans (Agree.of_below hb _), hb.os.trans hO.1, hb.tape.trans hO.2.1, hb.output.trans hO.2.2⟩)
              have HX := Lib.hid hx
              have HRE := Lib.hid hre
              have HRK := Lib.hid hrk
              have hx4 : x ≤ 400 := by omega
              clear hM49 hM48 hmg hri hrl hrk hre hx hy hrc hnl hlc hxl
              go_upto_region 13 with fail
              go_cut [] from 37 to 58 (fun wx => ∃ nv2, Fill W0 wx g K D1 ds1 nv2 (cur1 ++ [s.br i]) m1)
              case first =>
                have HWC := Lib.hid (show W0.heap.size ≤ wc.heap.size from HP.out.below.size)
                have HRB := Lib.hid (show rb < W0.heap.size from Nat.lt_trans hrb HWS.out)
                have HGW := Lib.hid (show W0.heap.size ≤ g from HQ.out.gw)
                refine wp_region_held_drew (S := fun w' => ∀ b off, b < W0.heap.size → w'.cell? ⟨b, off, none⟩ = wc.cell? ⟨b, off, none⟩) (by kernel_rfl) (fun _ _ _ => rfl) (fun hHeld => ?_)
                refine wpAnyH_takes (a' := ?a1_) [0, 1, 2, 3, 4, 6, 7, 8, 9, 10, 11, 12, 13, 14, 15, 16] (k := 16) rfl (by kernel_rfl) (by kernel_rfl) (fun _ _ _ _ _ h => h) ?t1_ (by assumption) ?r1_
                case t1_ =>
                  iterate 16
                    apply takes_cons rfl
                    · first | (refine Or.inl ⟨by rfl, fun w9 hSw => ?_⟩; have f0 := (hSw _ 0 HWS.out).trans b0; have f3 := (hSw _ 3 HWS.out).trans b3; have f4 := (hSw _ 4 HWS.out).trans b4; have f5 := (hSw _ (ro + x) HRB.out).trans hrc2; clear hSw; go_simp; (first | done | with_reducible rfl))
                    (try simp only [Act.put]); (try simp only [List.setIfInBounds_toArray]); (try simp only [List.set_cons_succ]); (try simp only [List.set_cons_zero])
                  exact takes_nil
                refine wpAnyH_ready (rs := [5, 17]) (by kernel_rfl) (by simp) ?_
                refine AllReadyH.cons rfl (fun K hK => ?_) (AllReadyH.cons rfl (fun K hK => ?_) AllReadyH.nil)
                · go_simp
                  refine hK.out _ _ (by assumption) (fun hHeld => ?_)
                  clear hK K
                  (try simp only [Act.put]); (try simp only [List.setIfInBounds_toArray]); (try simp only [List.set_cons_succ]); (try simp only [List.set_cons_zero])
                  refine wpAnyH_ready (rs := [17]) (by kernel_rfl) (by simp) ?_
                  refine AllReadyH.cons rfl (fun K hK => ?_) AllReadyH.nil
                  go_simp
                  go_at_call 186; refine Calls.mono (HNE.out _ (by rfl) ⟨by rfl, by rfl, by rfl⟩) ?_; rintro e w2 ⟨rfl, ha2, ho2⟩; have HA2 := Lib.hid ha2; have HO2 := Lib.hid ho2; have tc2 : w2.cell? ⟨g, q, none⟩ = some (.slice An ncur cn) := (by rw [ha2.cell (p := ⟨g, q, none⟩) HGL.out (fun h => h)]; exact tc0); have tc2A : ∀ o, (w2.alloc o).cell? ⟨g, q, none⟩ = some (.slice An ncur cn) := (fun o => by rw [World.cell?_of_block (w := w2) (a := ⟨g, q, none⟩) (Below.heap_alloc _ _ _ (Nat.lt_of_lt_of_le HGL.out ha2.size))]; exact tc2); have hsz2 := ha2.size; have HSC := Lib.hid (show ∀ b off, b < W0.heap.size → w2.cell? ⟨b, off, none⟩ = wc.cell? ⟨b, off, none⟩ from fun b off hb => ha2.cell (p := ⟨b, off, none⟩) (Nat.lt_of_lt_of_le hb HWC.out) (fun h => h)); clear ha2 ho2
                  (try go_wp2_with fail)
                  refine hK.out _ _ (HSC.out) (fun hHeld => ?_)
                  clear hK K
                  (try simp only [Act.put]); (try simp only [List.setIfInBounds_toArray]); (try simp only [List.set_cons_succ]); (try simp only [List.set_cons_zero])
                  refine wpAnyH_takes (a' := ?a2_) [18] (k := 1) rfl (by kernel_rfl) (by kernel_rfl) (fun _ _ _ _ _ h => h) ?t2_ (by assumption) ?r2_
                  case t2_ =>
                    iterate 1
                      apply takes_cons rfl
                      · first | (refine Or.inl ⟨by rfl, fun w9 hSw => ?_⟩; clear hSw; go_simp; (first | done | with_reducible rfl))
                      (try simp only [Act.put]); (try simp only [List.setIfInBounds_toArray]); (try simp only [List.set_cons_succ]); (try simp only [List.set_cons_zero])
                    exact takes_nil
                  refine wpAnyH_ready (rs := [19]) (by kernel_rfl) (by simp) ?_
                  refine AllReadyH.cons rfl (fun K hK => ?_) AllReadyH.nil
                  go_simp
                  refine hK.out _ _ (fun b off hb => (World.cell?_of_block (w := w2) (a := ⟨b, off, none⟩) (Below.heap_alloc _ _ _ (Nat.lt_of_lt_of_le (Nat.lt_of_lt_of_le hb HWC.out) hsz2))).trans (HSC.out b off hb)) (fun hHeld => ?_)
                  clear hK K
                  (try simp only [Act.put]); (try simp only [List.setIfInBounds_toArray]); (try simp only [List.set_cons_succ]); (try simp only [List.set_cons_zero])
                  refine wpAnyH_ready (rs := [20]) (by kernel_rfl) (by simp) ?_
                  refine AllReadyH.cons rfl (fun K hK => ?_) AllReadyH.nil
                  refine step_row rfl (.tmp 42) (.tmp 56) 197 165 1 _ _ rfl Tryz.underlying197 branch_info rfl (by decide) _ (g + 1) _ _ _ (by simp [Act.eval]) (Row.agree HQ.out.own (HA2.out.alloc _) (fun _ _ h => h)) 1 1 w2.heap.size [.iface 171 (.agg #[.int .u8 L[i].toNat, .string y, .bool (endW L[i] y kp)])] (by simp [Act.eval]) rfl (cell_one (heap_alloc_new w2 _)) (fun u hu => by simp at hu; subst hu; rfl) (by decide) (by have := HCB.out; omega) (by decide) (by have := HGL.out; simp; omega) ?_; intro nv' w3 hrow hg3; obtain ⟨A3, c3, hv3, -, -⟩ := Row.parts_ hrow; subst hv3; have T3 := Lib.hid (fill_after HQ.out (HA2.out.alloc _) HO2.out hrow hg3); have tc3 := T3.out.1; have tz3 := T3.out.2.1; rw [← HQE.out] at tc3 tz3; clear hrow hg3
                  refine hK.out _ _ (T3.out.2.2.1) (fun hHeld => ?_)
                  clear hK K
                  (try simp only [Act.put]); (try simp only [List.setIfInBounds_toArray]); (try simp only [List.set_cons_succ]); (try simp only [List.set_cons_zero])
                  refine wpAnyH_takes (a' := ?a3_) [21] (k := 1) rfl (by kernel_rfl) (by kernel_rfl) (fun _ _ _ _ _ h => h) ?t3_ (by assumption) ?r3_
                  case t3_ =>
                    iterate 1
                      apply takes_cons rfl
                      · first | (refine Or.inl ⟨by rfl, fun w9 hSw => ?_⟩; clear hSw; go_simp; (first | done | with_reducible rfl))
                      (try simp only [Act.put]); (try simp only [List.setIfInBounds_toArray]); (try simp only [List.set_cons_succ]); (try simp only [List.set_cons_zero])
                    exact takes_nil
                  refine wpAnyH_ready (rs := [22]) (by kernel_rfl) (by simp) ?_
                  refine AllReadyH.cons rfl (fun K hK => ?_) AllReadyH.nil
                  go_simp
                  refine hK.out _ _ (fun b off hb => (World.cell?_of_block (w := w3) (a := ⟨b, off, none⟩) (heap_setCell_other _ _ _ _ (by show b ≠ g; have := HGW.out; omega))).trans (T3.out.2.2.1 b off hb)) (fun hHeld => ?_)
                  clear hK K
                  (try simp only [Act.put]); (try simp only [List.setIfInBounds_toArray]); (try simp only [List.set_cons_succ]); (try simp only [List.set_cons_zero])
                  refine wpAnyH_done (by kernel_rfl) ?_ _
                  go_wp2_with fail
                  go_meet
                  have h := T3.out.2.2.2 (s.br i) HBR.out
                  rw [← HQE.out] at h
                  exact ⟨_, h⟩
                · go_simp
                  go_at_call 186; refine Calls.mono (HNE.out _ (by rfl) ⟨by rfl, by rfl, by rfl⟩) ?_; rintro e w2 ⟨rfl, ha2, ho2⟩; have HA2 := Lib.hid ha2; have HO2 := Lib.hid ho2; have tc2 : w2.cell? ⟨g, q, none⟩ = some (.slice An ncur cn) := (by rw [ha2.cell (p := ⟨g, q, none⟩) HGL.out (fun h => h)]; exact tc0); have tc2A : ∀ o, (w2.alloc o).cell? ⟨g, q, none⟩ = some (.slice An ncur cn) := (fun o => by rw [World.cell?_of_block (w := w2) (a := ⟨g, q, none⟩) (Below.heap_alloc _ _ _ (Nat.lt_of_lt_of_le HGL.out ha2.size))]; exact tc2); have hsz2 := ha2.size; have HSC := Lib.hid (show ∀ b off, b < W0.heap.size → w2.cell? ⟨b, off, none⟩ = wc.cell? ⟨b, off, none⟩ from fun b off hb => ha2.cell (p := ⟨b, off, none⟩) (Nat.lt_of_lt_of_le hb HWC.out) (fun h => h)); clear ha2 ho2
                  (try go_wp2_with fail)
                  refine hK.out _ _ (HSC.out) (fun hHeld => ?_)
                  clear hK K
                  (try simp only [Act.put]); (try simp only [List.setIfInBounds_toArray]); (try simp only [List.set_cons_succ]); (try simp only [List.set_cons_zero])
                  refine wpAnyH_takes (a' := ?a4_) [18] (k := 1) rfl (by kernel_rfl) (by kernel_rfl) (fun _ _ _ _ _ h => h) ?t4_ (by assumption) ?r4_
                  case t4_ =>
                    iterate 1
                      apply takes_cons rfl
                      · first | (refine Or.inl ⟨by rfl, fun w9 hSw => ?_⟩; clear hSw; go_simp; (first | done | with_reducible rfl))
                      (try simp only [Act.put]); (try simp only [List.setIfInBounds_toArray]); (try simp only [List.set_cons_succ]); (try simp only [List.set_cons_zero])
                    exact takes_nil
                  refine wpAnyH_ready (rs := [5, 19]) (by kernel_rfl) (by simp) ?_
                  refine AllReadyH.cons rfl (fun K hK => ?_) (AllReadyH.cons rfl (fun K hK => ?_) AllReadyH.nil)
                  · go_simp
                    refine hK.out _ _ (by assumption) (fun hHeld => ?_)
                    clear hK K
                    (try simp only [Act.put]); (try simp only [List.setIfInBounds_toArray]); (try simp only [List.set_cons_succ]); (try simp only [List.set_cons_zero])
                    refine wpAnyH_ready (rs := [19]) (by kernel_rfl) (by simp) ?_
                    refine AllReadyH.cons rfl (fun K hK => ?_) AllReadyH.nil
                    go_simp
                    refine hK.out _ _ (fun b off hb => (World.cell?_of_block (w := w2) (a := ⟨b, off, none⟩) (Below.heap_alloc _ _ _ (Nat.lt_of_lt_of_le (Nat.lt_of_lt_of_le hb HWC.out) hsz2))).trans (HSC.out b off hb)) (fun hHeld => ?_)
                    clear hK K
                    (try simp only [Act.put]); (try simp only [List.setIfInBounds_toArray]); (try simp only [List.set_cons_succ]); (try simp only [List.set_cons_zero])
                    refine wpAnyH_ready (rs := [20]) (by kernel_rfl) (by simp) ?_
                    refine AllReadyH.cons rfl (fun K hK => ?_) AllReadyH.nil
                    refine step_row rfl (.tmp 42) (.tmp 56) 197 165 1 _ _ rfl Tryz.underlying197 branch_info rfl (by decide) _ (g + 1) _ _ _ (by simp [Act.eval]) (Row.agree HQ.out.own (HA2.out.alloc _) (fun _ _ h => h)) 1 1 w2.heap.size [.iface 171 (.agg #[.int .u8 L[i].toNat, .string y, .bool (endW L[i] y kp)])] (by simp [Act.eval]) rfl (cell_one (heap_alloc_new w2 _)) (fun u hu => by simp at hu; subst hu; rfl) (by decide) (by have := HCB.out; omega) (by decide) (by have := HGL.out; simp; omega) ?_; intro nv' w3 hrow hg3; obtain ⟨A3, c3, hv3, -, -⟩ := Row.parts_ hrow; subst hv3; have T3 := Lib.hid (fill_after HQ.out (HA2.out.alloc _) HO2.out hrow hg3); have tc3 := T3.out.1; have tz3 := T3.out.2.1; rw [← HQE.out] at tc3 tz3; clear hrow hg3
                    refine hK.out _ _ (T3.out.2.2.1) (fun hHeld => ?_)
                    clear hK K
                    (try simp only [Act.put]); (try simp only [List.setIfInBounds_toArray]); (try simp only [List.set_cons_succ]); (try simp only [List.set_cons_zero])
                    refine wpAnyH_takes (a' := ?a5_) [21] (k := 1) rfl (by kernel_rfl) (by kernel_rfl) (fun _ _ _ _ _ h => h) ?t5_ (by assumption) ?r5_
                    case t5_ =>
                      iterate 1
                        apply takes_cons rfl
                        · first | (refine Or.inl ⟨by rfl, fun w9 hSw => ?_⟩; clear hSw; go_simp; (first | done | with_reducible rfl))
                        (try simp only [Act.put]); (try simp only [List.setIfInBounds_toArray]); (try simp only [List.set_cons_succ]); (try simp only [List.set_cons_zero])
                      exact takes_nil
                    refine wpAnyH_ready (rs := [22]) (by kernel_rfl) (by simp) ?_
                    refine AllReadyH.cons rfl (fun K hK => ?_) AllReadyH.nil
                    go_simp
                    refine hK.out _ _ (fun b off hb => (World.cell?_of_block (w := w3) (a := ⟨b, off, none⟩) (heap_setCell_other _ _ _ _ (by show b ≠ g; have := HGW.out; omega))).trans (T3.out.2.2.1 b off hb)) (fun hHeld => ?_)
                    clear hK K
                    (try simp only [Act.put]); (try simp only [List.setIfInBounds_toArray]); (try simp only [List.set_cons_succ]); (try simp only [List.set_cons_zero])
                    refine wpAnyH_done (by kernel_rfl) ?_ _
                    go_wp2_with fail
                    go_meet
                    have h := T3.out.2.2.2 (s.br i) HBR.out
                    rw [← HQE.out] at h
                    exact ⟨_, h⟩
                  · go_simp
                    refine hK.out _ _ (fun b off hb => (World.cell?_of_block (w := w2) (a := ⟨b, off, none⟩) (Below.heap_alloc _ _ _ (Nat.lt_of_lt_of_le (Nat.lt_of_lt_of_le hb HWC.out) hsz2))).trans (HSC.out b off hb)) (fun hHeld => ?_)
                    clear hK K
                    (try simp only [Act.put]); (try simp only [List.setIfInBounds_toArray]); (try simp only [List.set_cons_succ]); (try simp only [List.set_cons_zero])
                    refine wpAnyH_ready (rs := [5]) (by kernel_rfl) (by simp) ?_
                    refine AllReadyH.cons rfl (fun K hK => ?_) AllReadyH.nil
                    go_simp
                    refine hK.out _ _ (by assumption) (fun hHeld => ?_)
                    clear hK K
                    (try simp only [Act.put]); (try simp only [List.setIfInBounds_toArray]); (try simp only [List.set_cons_succ]); (try simp only [List.set_cons_zero])
                    refine wpAnyH_ready (rs := [20]) (by kernel_rfl) (by simp) ?_
                    refine AllReadyH.cons rfl (fun K hK => ?_) AllReadyH.nil
                    refine step_row rfl (.tmp 42) (.tmp 56) 197 165 1 _ _ rfl Tryz.underlying197 branch_info rfl (by decide) _ (g + 1) _ _ _ (by simp [Act.eval]) (Row.agree HQ.out.own (HA2.out.alloc _) (fun _ _ h => h)) 1 1 w2.heap.size [.iface 171 (.agg #[.int .u8 L[i].toNat, .string y, .bool (endW L[i] y kp)])] (by simp [Act.eval]) rfl (cell_one (heap_alloc_new w2 _)) (fun u hu => by simp at hu; subst hu; rfl) (by decide) (by have := HCB.out; omega) (by decide) (by have := HGL.out; simp; omega) ?_; intro nv' w3 hrow hg3; obtain ⟨A3, c3, hv3, -, -⟩ := Row.parts_ hrow; subst hv3; have T3 := Lib.hid (fill_after HQ.out (HA2.out.alloc _) HO2.out hrow hg3); have tc3 := T3.out.1; have tz3 := T3.out.2.1; rw [← HQE.out] at tc3 tz3; clear hrow hg3
                    refine hK.out _ _ (T3.out.2.2.1) (fun hHeld => ?_)
                    clear hK K
                    (try simp only [Act.put]); (try simp only [List.setIfInBounds_toArray]); (try simp only [List.set_cons_succ]); (try simp only [List.set_cons_zero])
                    refine wpAnyH_takes (a' := ?a6_) [21] (k := 1) rfl (by kernel_rfl) (by kernel_rfl) (fun _ _ _ _ _ h => h) ?t6_ (by assumption) ?r6_
                    case t6_ =>
                      iterate 1
                        apply takes_cons rfl
                        · first | (refine Or.inl ⟨by rfl, fun w9 hSw => ?_⟩; clear hSw; go_simp; (first | done | with_reducible rfl))
                        (try simp only [Act.put]); (try simp only [List.setIfInBounds_toArray]); (try simp only [List.set_cons_succ]); (try simp only [List.set_cons_zero])
                      exact takes_nil
                    refine wpAnyH_ready (rs := [22]) (by kernel_rfl) (by simp) ?_
                    refine AllReadyH.cons rfl (fun K hK => ?_) AllReadyH.nil
                    go_simp
                    refine hK.out _ _ (fun b off hb => (World.cell?_of_block (w := w3) (a := ⟨b, off, none⟩) (heap_setCell_other _ _ _ _ (by show b ≠ g; have := HGW.out; omega))).trans (T3.out.2.2.1 b off hb)) (fun hHeld => ?_)
                    clear hK K
                    (try simp only [Act.put]); (try simp only [List.setIfInBounds_toArray]); (try simp only [List.set_cons_succ]); (try simp only [List.set_cons_zero])
                    refine wpAnyH_done (by kernel_rfl) ?_ _
                    go_wp2_with fail
                    go_meet
                    have h := T3.out.2.2.2 (s.br i) HBR.out
                    rw [← HQE.out] at h
                    exact ⟨_, h⟩
              case rest =>
                obtain ⟨nv2, hfill⟩ := hcut
                have HFI := Lib.hid hfill
                clear hfill
                go_wp2
                go_roundw
                case rel =>
                  refine ⟨i + 1, D1, ds1, nv2, cur1 ++ [s.br i], m1, (q : Int), by omega, by go_num, rfl, ?_, ?_, HFI.out, .inr ⟨by omega, by rw [HQE.out], HGR.out⟩, ?_⟩
                  · rw [HRK.out, ← HRE.out]
                  · rw [HRK.out, ← HRE.out]
                    have h1 := HX.out
                    have h2 : r ≤ i := by rw [HRE.out]; have := ones_le_len (s.more.take i); rw [List.length_take] at this; show M.ones _ ≤ i; omega
                    congr 1
                    omega
                  · intro k hk
                    by_cases hki : k < i
                    · exact HBD.out k hki
                    · obtain rfl : k = i := by omega
                      exact HNB.out
                case measure => simp [intOf]; omega
          · have HNO := Lib.hid (show ¬ s.rdOk from fun h => h i (by rw [HLL.out.1]; exact hlt) hbad)
            clear hbad
            go_wp2
            go_ret2
            rw [← HSE.out]
            exact .inr ⟨HNO.out, rfl, HBB.out⟩
      · have hie : i = L.size := by omega
        subst hie
        have hm0 : m = 0 ∧ s.rd = D ++ [cur] := rt_end HLL.out.2.2 HKT.out (by rw [HLL.out.1]; exact HBD.out) (by rw [HLL.out.1]; exact HST.out) HP.out
        obtain ⟨rfl, hrd⟩ := hm0
        have HRD := Lib.hid hrd
        clear hrd
        obtain ⟨An, cn, hnv, -, -⟩ := HP.out.own.parts_
        subst hnv
        go_wp2
        go_ret2
        have hk := HKT.out
        have hsz := HP.out.below
        have hW0 := HW0.out
        have hs0 : W0.heap.size = w.heap.size + 1 := by rw [hW0]; exact World.size_alloc _ _
        rw [← HSE.out]
        refine .inl ⟨by intro k hk2; rw [HLL.out.1] at hk2; exact HBD.out k hk2, some ⟨g, 0, none⟩, K, by rw [← hk]; rfl, ?_, by omega, by unfold maxLen; omega, ?_⟩
        · rw [← hk, HRD.out]
          exact HP.out.trs
        · rw [hW0] at hsz
          exact ((Below.refl _ _).alloc (Nat.le_refl _) _).trans (hsz.mono (by simp))

end Go.Proofs.YtfhpkcamigkmdaaGreatDoor.W
