/-
  The program's partsMatch, and the memory of readTrie: a trie that is filled node by node.
  Contract of the program's partsMatch: it answers as the model's form does.
  The steps of the program's readTrie: branch by branch; no walk.
-/
import Derived.Test.YtakadkhgcjndmaaJB
import Derived.Test.YtakadkhgcjndmaaJ4
namespace Go.Proofs.Ytakadkhgcjndmaa.W
open Go.RowKit K

theorem count_ones (l : List UInt8) : l.count 49 = M.ones l := by
  induction l with
  | nil => rfl
  | cons c t ih =>
    rw [List.count_cons, ih, show M.ones (c :: t) = (if c = 49 then 1 else 0) + M.ones t from rfl]
    by_cases h : c = 49
    · subst h; simp; omega
    · rw [if_neg h, if_neg (by simpa using h)]; omega
theorem count_zeros : ∀ (l : List UInt8), (∀ c ∈ l, c = 48 ∨ c = 49) → l.count 48 + M.ones l = l.length
  | [], _ => rfl
  | c :: t, h => by
    have ih := count_zeros t fun x hx => h x (by simp [hx])
    rw [List.count_cons, List.length_cons, show M.ones (c :: t) = (if c = 49 then 1 else 0) + M.ones t from rfl]
    rcases h c (by simp) with e | e
    · subst e; simp; omega
    · subst e; simp; omega

/-- a trie that is filled: nodes that are done, one that grows, and nodes that are to come -/
structure Fill (w wr : World) (g K : Nat) (D : T.Tr) (ds : List Value) (nv : Value) (cur : List T.TB) (m : Nat) : Prop where
  gl : g < wr.heap.size
  gw : w.heap.size ≤ g
  len : D.length + 1 + m = K
  row : wr.heap[g]? = some (.cells (ds ++ nv :: List.replicate m (.slice none 0 0)).toArray 117 (0, 0))
  held : HeldT wr (fun k => k = g ∨ nv.ownBlock = some k) ds D
  own : Row 129 1 wr (g + 1) nv cur.length (cur.map brV)
  below : Below w.heap.size w wr
section
variable {w wr : World} {g K m : Nat} {D : T.Tr} {ds : List Value} {nv : Value} {cur : List T.TB}
theorem Fill.dlen (P : Fill w wr g K D ds nv cur m) : ds.length = D.length := P.held.1
theorem Fill.quiet (P : Fill w wr g K D ds nv cur m) {W : World} (hA : Agree wr W (fun _ => False)) (hO : W.os = wr.os ∧ W.tape = wr.tape ∧ W.output = wr.output) : Fill w W g K D ds nv cur m :=
  ⟨Nat.lt_of_lt_of_le P.gl hA.size, P.gw, P.len, by rw [hA.block g P.gl (fun h => h)]; exact P.row, P.held.step fun _ _ _ h => h.step hA (fun _ _ h => h.elim) (fun _ _ h => h), Row.agree P.own hA (fun _ _ h => h),
   ⟨by rw [hO.1]; exact P.below.os, by rw [hO.2.1]; exact P.below.tape, by rw [hO.2.2]; exact P.below.output, Nat.le_trans P.below.size hA.size, fun k hk => by rw [hA.block k (by have := P.below.size; omega) (fun h => h)]; exact P.below.block k hk⟩⟩
/-- the cell of the node that grows -/
theorem Fill.cell (P : Fill w wr g K D ds nv cur m) : wr.cell? ⟨g, D.length, none⟩ = some nv ∧ wr.frozen? ⟨g, D.length, none⟩ = false := by
  constructor
  · rw [cell_of_row _ _ _ _ _ _ P.row]
    rw [List.getElem?_toArray, List.getElem?_append_right (by rw [P.dlen]; exact Nat.le_refl _), P.dlen, Nat.sub_self]; rfl
  · rw [frozen_of_row _ _ _ _ _ P.row]
/-- a branch more -/
theorem Fill.more (P : Fill w wr g K D ds nv cur m) {w1 : World} {nv' : Value} {b : T.TB} (ho : Row 129 1 w1 (g + 1) nv' (cur.length + 1) (cur.map brV ++ [brV b])) (hg : Grew wr w1 nv nv') : Fill w (w1.setCell ⟨g, D.length, none⟩ nv') g K D ds nv' (cur ++ [b]) m := by
  have hn : ∀ k, nv.ownBlock = some k → g + 1 ≤ k ∧ k < wr.heap.size := fun k hk => Row.lt_ P.own hk
  have hn' : ∀ k, nv'.ownBlock = some k → g + 1 ≤ k := fun k hk => (Row.lt_ ho hk).1
  have hgl1 : g < w1.heap.size := Nat.lt_of_lt_of_le P.gl hg.grown.size
  have hrow1 : w1.heap[g]? = some (.cells (ds ++ nv :: List.replicate m (.slice none 0 0)).toArray 117 (0, 0)) := by
    rw [hg.agree.block g P.gl (fun h => by have := (hn g h).1; omega)]; exact P.row
  have hset : Agree w1 (w1.setCell ⟨g, D.length, none⟩ nv') (fun k => k = g) := (Agree.refl w1 (fun k => k = g)).setCell (p := ⟨g, D.length, none⟩) (show g = g from rfl) _
  have hall : Agree wr (w1.setCell ⟨g, D.length, none⟩ nv') (fun k => k = g ∨ nv.ownBlock = some k) := (hg.agree.more fun _ _ h => .inr h).trans (hset.more fun _ _ h => .inl h)
  refine ⟨by simpa using hgl1, P.gw, P.len, ?_, ?_, ?_, ?_⟩
  · have := heap_setCell_same w1 g D.length _ _ nv' hrow1
    rw [this]
    congr 1
    rw [← P.dlen]
    simp
  · refine P.held.step fun _ _ _ h => h.step hall (fun _ _ h => h) (fun k hk h => ?_)
    rcases h with h | h
    · exact .inl h
    · rcases hg.row k h with h1 | h1
      · omega
      · exact .inr h1
  · have h1 : Row 129 1 w1 (g + 1) nv' (cur ++ [b]).length ((cur ++ [b]).map brV) := by
      rw [List.length_append, List.map_append]; exact ho
    exact Row.agree h1 hset (fun k hk e => by have := hn' k hk; have e' : k = g := e; omega)
  · have hb1 := below_grew P.below hg (fun k hk => by have := (hn k hk).1; have := P.gw; omega) P.below.size
    exact hb1.setCell (p := ⟨g, D.length, none⟩) P.gw _
/-- the next node -/
theorem Fill.next {A : Option Addr} {n c : Nat} (P : Fill w wr g K D ds (.slice A n c) cur (m + 1)) : Fill w wr g K (D ++ [cur]) (ds ++ [.slice A n c]) (.slice none 0 0) [] m := by
  obtain ⟨A', c', hv, hc1, hc2⟩ := P.own.parts_
  injection hv with e1 e2 e3
  subst e1 e2 e3
  refine ⟨P.gl, P.gw, by rw [List.length_append]; have := P.len; simp; omega, ?_, ?_, World.ownsRow_nil _ _ _ _, P.below⟩
  · rw [P.row]; simp [List.replicate_succ]
  · refine HeldT.snoc (P.held.step fun _ _ _ h => h.step (Agree.refl _ (fun _ => False)) (fun _ _ h => h.elim) (fun k _ h => ?_)) (Brs.of_row P.own rfl (fun k hk h => ?_)) hc1 hc2
    · rcases h with h | h
      · exact .inl h
      · cases h
    · rcases h with h | h
      · have := (Row.lt_ P.own hk).1; omega
      · cases h
/-- all is filled -/
theorem Fill.trs {A : Option Addr} {n c : Nat} (P : Fill w wr g K D ds (.slice A n c) cur 0) : Trs wr (fun k => wr.heap.size ≤ k) (some ⟨g, 0, none⟩) K (D ++ [cur]) := by
  obtain ⟨A', c', hv, hc1, hc2⟩ := P.own.parts_
  injection hv with e1 e2 e3
  subst e1 e2 e3
  have hh : HeldT wr (fun k => wr.heap.size ≤ k) (ds ++ [.slice A cur.length c]) (D ++ [cur]) :=
    HeldT.snoc (P.held.step fun _ _ _ h => h.step (Agree.refl _ (fun _ => False)) (fun _ _ h => h.elim) (fun k hk h => by have h' : wr.heap.size ≤ k := h; omega)) (Brs.of_row P.own rfl (fun k hk h => by have h' : wr.heap.size ≤ k := h; have := (Row.lt_ P.own hk).2; omega)) hc1 hc2
  refine ⟨by rw [List.length_append]; have := P.len; simp; omega, fun i hi => ?_⟩
  have hi2 : i < (ds ++ [Value.slice A cur.length c]).length := by rw [hh.1]; exact hi
  obtain ⟨Ai, ci, hti, h1, h2, hbr⟩ := hh.2 i hi2 hi
  refine ⟨g, 0, rfl, P.gl, by have := P.gl; omega, Ai, ci, ?_, h1, h2, hbr⟩
  rw [Nat.zero_add, cell_of_row _ _ _ _ _ _ P.row, List.getElem?_toArray, ← hti]
  rw [show ds ++ Value.slice A cur.length c :: List.replicate 0 (.slice none 0 0) = ds ++ [.slice A cur.length c] from rfl, List.getElem?_eq_getElem hi2]
end

end Go.Proofs.Ytakadkhgcjndmaa.W

namespace Go.Proofs.Ytakadkhgcjndmaa.W
open Go.RowKit K

theorem bits_of {s : ByteArray} (h : M.okB s.data.toList = true) : s.size ≤ 400 ∧ ∀ c ∈ s.data.toList, c = 48 ∨ c = 49 := by
  unfold M.okB at h
  simp only [Bool.and_eq_true, decide_eq_true_eq, len_l, List.all_eq_true] at h
  refine ⟨by omega, fun c hc => ?_⟩
  first
    | (have := h.1 c hc; unfold M.bitC at this; simpa using this)
    | (have := h.2 c hc; unfold M.bitC at this; simpa using this)
theorem zeros_of {s : ByteArray} (h : M.okB s.data.toList = true) : ((s.toList.count 48 : Nat) : Int) = s.size - cntI s s.size := by
  have h1 := count_zeros s.data.toList (bits_of h).2
  unfold cntI
  rw [List.take_of_length_le (by simp)]
  have h2 : s.data.toList.length = s.size := by simp
  rw [ByteArray.toList_eq]
  omega

set_option maxHeartbeats 2000000 in
set_option maxRecDepth 100000 in
theorem matchI (L M_ F : ByteArray) (A : Option Addr) (n c : Nat) (keep : Int) (w : World) (hM : M_.size ≤ maxLen) (hF : F.size ≤ maxLen) :
    Calls Try.prog 133 #[.agg #[.string L, .string M_, .string F, .slice A n c, .int .i64 keep]] w fun e w' => e = .returned (.bool (formB L M_ F n keep)) ∧ Below w.heap.size w w' := by
  have HM := Lib.hid (fun W => okI M_ W hM)
  have HF := Lib.hid (fun W => okI F W hF)
  have HK := Lib.hid (fun W => keepI keep W)
  have HC := Lib.hid (fun W => countI M_ 48 W)
  have hbl : ∀ o m, Below w.heap.size w ((w.alloc o).drewN m) := fun o m => below_drewN ((Below.refl _ _).alloc (Nat.le_refl _) _) m
  have HBL := Lib.hid hbl
  clear hbl
  by_cases h1 : M_.size = L.size
  · have e1 : ((M_.size : Int) != (L.size : Int)) = false := by rw [h1]; simp
    by_cases h2 : F.size = L.size
    · have e2 : ((F.size : Int) != (L.size : Int)) = false := by rw [h2]; simp
      rcases Bool.eq_false_or_eq_true (M.okB M_.data.toList) with h3 | h3
      · rcases Bool.eq_false_or_eq_true (M.okB F.data.toList) with h4 | h4
        · rcases Bool.eq_false_or_eq_true (inB keep 0 5) with h5 | h5
          · rw [h3] at HM
            rw [h4] at HF
            rw [h5] at HK
            have HZ := Lib.hid (zeros_of h3)
            have HFB := Lib.hid (show formB L M_ F n keep = decide ((n : Int) = L.size - cntI M_ L.size) by unfold formB; rw [h3, h4, h5]; simp [h1, h2])
            have H1 := Lib.hid h1
            obtain ⟨z, hz⟩ : ∃ z : Nat, z = M_.toList.count 48 := ⟨_, rfl⟩
            rw [← hz] at HC HZ
            clear h1 h2 h3 h4 h5 hz
            go_enter Try.func133, Try.ntmps133
            go_wp2_with (first
              | (go_at_call 89; with_reducible refine (HM.out _).mono ?_; rintro e w1 ⟨rfl, hw⟩; subst hw)
              | (go_at_call 89; with_reducible refine (HF.out _).mono ?_; rintro e w1 ⟨rfl, hw⟩; subst hw)
              | (go_at_call 76; refine (HK.out _).mono ?_; rintro e w1 ⟨rfl, hw⟩; subst hw)
              | fail)
            go_quiet ((go_at_call 134; exact quiet_mine (HC.out _)))
            go_wp2
            go_ret
            refine ⟨ret_bool ?_, HBL.out _ _⟩
            rw [HFB.out, Bool.eq_iff_iff, decide_eq_true_eq]
            have h6 := HZ.out
            rw [H1.out] at h6
            simp only [beq_iff_eq]
            omega
          · rw [h3] at HM
            rw [h4] at HF
            rw [h5] at HK
            have HFB := Lib.hid (show formB L M_ F n keep = false by unfold formB; rw [h5]; simp)
            clear h1
            go_enter Try.func133, Try.ntmps133
            go_wp2_with (first | (go_at_call 89; with_reducible refine (HM.out _).mono ?_; rintro e w1 ⟨rfl, hw⟩; subst hw) | (go_at_call 89; with_reducible refine (HF.out _).mono ?_; rintro e w1 ⟨rfl, hw⟩; subst hw) | (go_at_call 76; with_reducible refine (HK.out _).mono ?_; rintro e w1 ⟨rfl, hw⟩; subst hw))
            go_ret
            exact ⟨ret_bool HFB.out.symm, (Below.refl _ _).alloc (Nat.le_refl _) _⟩
        · rw [h3] at HM
          rw [h4] at HF
          have HFB := Lib.hid (show formB L M_ F n keep = false by unfold formB; rw [h4]; simp)
          clear h1
          go_enter Try.func133, Try.ntmps133
          go_wp2_with (first | (go_at_call 89; with_reducible refine (HM.out _).mono ?_; rintro e w1 ⟨rfl, hw⟩; subst hw) | (go_at_call 89; with_reducible refine (HF.out _).mono ?_; rintro e w1 ⟨rfl, hw⟩; subst hw))
          go_ret
          exact ⟨ret_bool HFB.out.symm, (Below.refl _ _).alloc (Nat.le_refl _) _⟩
      · rw [h3] at HM
        have HFB := Lib.hid (show formB L M_ F n keep = false by unfold formB; rw [h3]; simp)
        clear h1
        go_enter Try.func133, Try.ntmps133
        go_wp2_with (first | (go_at_call 89; with_reducible refine (HM.out _).mono ?_; rintro e w1 ⟨rfl, hw⟩; subst hw))
        go_ret
        exact ⟨ret_bool HFB.out.symm, (Below.refl _ _).alloc (Nat.le_refl _) _⟩
    · have e2 : ((F.size : Int) != (L.size : Int)) = true := by simp; omega
      have HFB := Lib.hid (show formB L M_ F n keep = false by unfold formB; rw [decide_eq_false (p := (F.size : Int) = L.size) (by omega)]; simp)
      clear h1
      go_enter Try.func133, Try.ntmps133
      go_wp2
      go_ret
      exact ⟨ret_bool HFB.out.symm, (Below.refl _ _).alloc (Nat.le_refl _) _⟩
  · have e1 : ((M_.size : Int) != (L.size : Int)) = true := by simp; omega
    have HFB := Lib.hid (show formB L M_ F n keep = false by unfold formB; rw [decide_eq_false (p := (M_.size : Int) = L.size) (by omega)]; simp)
    clear h1
    go_enter Try.func133, Try.ntmps133
    go_wp2
    go_ret
    exact ⟨ret_bool HFB.out.symm, (Below.refl _ _).alloc (Nat.le_refl _) _⟩

end Go.Proofs.Ytakadkhgcjndmaa.W

namespace Go.Proofs.Ytakadkhgcjndmaa.W
open Go.RowKit K

/-- which nodes are there, behind so many branches -/
def RStep (s : T.Sv) (i : Nat) (D : T.Tr) (cur : List T.TB) (a : Int) : Prop := (i = 0 ∧ a = -1 ∧ D = [] ∧ cur = []) ∨ (0 < i ∧ a = D.length ∧ s.grp i = D ++ [cur])
section
variable {s : T.Sv} {w wr : World} {g K m i : Nat} {D : T.Tr} {ds : List Value} {nv : Value} {cur : List T.TB} {a : Int}
/-- a node begins -/
theorem rt_new (hf : s.first.length = s.letters.length) (hK : K = s.top) (hi : i < s.letters.length) (hb : ∀ k, k < i → ¬ s.bad k) (h49 : s.first.getD i 0 = 49) (hs : RStep s i D cur a) (P : Fill w wr g K D ds nv cur m) :
    ∃ D' ds' nv' cur' m', Fill w wr g K D' ds' nv' cur' m' ∧ a + 1 = (D'.length : Int) ∧ s.grp (i + 1) = D' ++ [cur' ++ [s.br i]] ∧ s.nds (i + 1) = D'.length + 1 := by
  have hn : s.nds (i + 1) = s.nds i + 1 := by have := T.ones_next s.first i (by omega); rw [if_pos h49] at this; exact this
  have hg : s.grp (i + 1) = s.grp i ++ [[s.br i]] := by have := T.grp_add s (i := i) rfl _ rfl; rw [if_pos h49] at this; exact this
  rcases hs with ⟨rfl, rfl, rfl, rfl⟩ | ⟨h0, ha, hgr⟩
  · exact ⟨[], ds, nv, [], m, P, rfl, by rw [hg]; rfl, by rw [hn]; rfl⟩
  · have hl := T.grp_len s hf i (by omega) hb
    rw [hgr, List.length_append] at hl
    have htop : s.nds (i + 1) ≤ T.Sv.top s := by
      have h1 : s.nds (i + 1) ≤ M.ones s.first := by
        have h2 := T.ones_take_mono s.first (i := i + 1) (j := s.first.length) (by omega)
        rw [List.take_length] at h2; exact h2
      unfold T.Sv.top; omega
    have hpl := P.len
    obtain ⟨m', rfl⟩ : ∃ m', m = m' + 1 := ⟨m - 1, by simp at hl; omega⟩
    obtain ⟨A, c, hv, -, -⟩ := P.own.parts_
    subst hv
    refine ⟨D ++ [cur], _, _, [], m', P.next, by rw [ha, List.length_append]; simp, by rw [hg, hgr]; rfl, ?_⟩
    rw [hn, ← hl]; simp
/-- the node goes on -/
theorem rt_same (hf : s.first.length = s.letters.length) (hi : i < s.letters.length) (hb : ∀ k, k < i → ¬ s.bad k) (h48 : ¬ s.first.getD i 0 = 49) (h0 : 0 < i) (hs : RStep s i D cur a) :
    a = (D.length : Int) ∧ s.grp (i + 1) = D ++ [cur ++ [s.br i]] ∧ s.nds (i + 1) = D.length + 1 := by
  rcases hs with ⟨rfl, -⟩ | ⟨-, ha, hgr⟩
  · omega
  · have hn : s.nds (i + 1) = s.nds i := by have := T.ones_next s.first i (by omega); rw [if_neg h48] at this; exact this
    have hg : s.grp (i + 1) = T.snocL (s.grp i) (s.br i) := by have := T.grp_add s (i := i) rfl _ rfl; rw [if_neg h48] at this; exact this
    have hl := T.grp_len s hf i (by omega) hb
    refine ⟨ha, by rw [hg, hgr, T.snocL_eq], ?_⟩
    rw [hn, ← hl, hgr]; simp
/-- the first branch begins no node -/
theorem rt_bad (hf : s.first.length = s.letters.length) (hi : 0 < s.letters.length) (h48 : ¬ s.first.getD 0 0 = 49) : s.bad 0 := by
  left
  have := T.ones_next s.first 0 (by omega)
  rw [if_neg h48] at this
  exact this
/-- all branches are read -/
theorem rt_end (hf : s.first.length = s.letters.length) (hK : K = s.top) (hb : ∀ k, k < s.letters.length → ¬ s.bad k) (hs : RStep s s.letters.length D cur a) (P : Fill w wr g K D ds nv cur m) : m = 0 ∧ s.rd = D ++ [cur] := by
  rcases hs with ⟨h0, -, rfl, rfl⟩ | ⟨h0, -, hgr⟩
  · have hff : s.first = [] := List.eq_nil_of_length_eq_zero (by omega)
    have ht : s.top = 1 := by unfold T.Sv.top; rw [hff]; rfl
    have := P.len
    refine ⟨by simp at this; omega, by unfold T.Sv.rd; rw [if_pos h0]; rfl⟩
  · have hl := T.grp_len s hf _ (Nat.le_refl _) hb
    rw [hgr, List.length_append] at hl
    have e : s.nds s.letters.length = M.ones s.first := by unfold T.Sv.nds; rw [← hf, List.take_length]
    have := P.len
    refine ⟨?_, by unfold T.Sv.rd; rw [if_neg (by omega)]; exact hgr⟩
    unfold T.Sv.top at hK
    simp at hl
    omega
end
theorem grp_sum (s : T.Sv) : ∀ i, ((s.grp i).map List.length).sum = i
  | 0 => rfl
  | i + 1 => by
    have ih := grp_sum s i
    unfold T.Sv.grp
    split
    · rw [List.map_append, List.sum_append, ih]; rfl
    · by_cases h : s.grp i = []
      · rw [h] at ih ⊢
        have : i = 0 := ih.symm
        subst this
        rfl
      · rw [T.snocL_sum h, ih]
theorem cur_le {s : T.Sv} {i : Nat} {D : T.Tr} {cur : List T.TB} {b : T.TB} (h : s.grp (i + 1) = D ++ [cur ++ [b]]) : cur.length ≤ i := by
  have h1 := grp_sum s (i + 1)
  rw [h, List.map_append, List.sum_append] at h1
  simp at h1
  omega
theorem cell_one {w : World} {b : Nat} {x : Value} {t : TypeId} (h : w.heap[b]? = some (.cells #[x] t (0, 0))) : ∀ (j : Nat) (u : Value), [x][j]? = some u → w.cell? ⟨b, j, none⟩ = some u := by
  intro j u hj
  rw [cell_of_row _ _ _ _ _ _ h]
  match j, hj with
  | 0, hj => simpa using hj
theorem ones_le_len (l : List UInt8) : M.ones l ≤ l.length := M.ones_le l
/-- a rest is there for a branch that ends -/
theorem rest_in {s : T.Sv} (hm : s.more.length = s.letters.length) (hr : s.rests.length + M.ones s.more = s.letters.length) {i : Nat} (hi : i < s.letters.length) (h48 : ¬ s.more.getD i 0 = 49) : i - s.rank i < s.rests.length ∧ s.rank i ≤ i ∧ s.rank (i + 1) = s.rank i := by
  have h1 : s.rank (i + 1) = s.rank i := by have := T.ones_next s.more i (by omega); rw [if_neg h48] at this; exact this
  have h2 : M.ones s.more = s.rank (i + 1) + M.ones (s.more.drop (i + 1)) := by
    conv => lhs; rw [← List.take_append_drop (i + 1) s.more]
    rw [M.ones_append]; rfl
  have h3 := ones_le_len (s.more.drop (i + 1))
  rw [List.length_drop] at h3
  have h4 : s.rank i ≤ i := by have := ones_le_len (s.more.take i); rw [List.length_take] at this; show M.ones _ ≤ i; omega
  exact ⟨by omega, h4, h1⟩
theorem fill_start (w w1 : World) (K : Nat) (h1 : 0 < K) (hb : Below w.heap.size w w1) : Fill w (w1.alloc (.cells (List.replicate K (Value.slice none 0 0)).toArray 117)) w1.heap.size K [] [] (.slice none 0 0) [] (K - 1) := by
  refine ⟨by simp, hb.size, by simp; omega, ?_, HeldT.nil _ _, World.ownsRow_nil _ _ _ _, hb.alloc hb.size _⟩
  rw [heap_alloc_new]
  obtain ⟨k, rfl⟩ : ∃ k, K = k + 1 := ⟨K - 1, by omega⟩
  rw [List.replicate_succ]
  rfl

end Go.Proofs.Ytakadkhgcjndmaa.W

