/-
  What the laws of runs draw, further: entries alone, two runs, a run with a range.
-/
import Derived.Test.YtfpgjkanmanajaaEP
namespace Go.Proofs.Ytfpgjkanmanajaa.W
open Go.RowKit K R

theorem results_tmp4 {fn : Func} {t u v x : Tmp} (h : fn.results = #[.tmp t, .tmp u, .tmp v, .tmp x]) (tmps : Array Value) (P : Program) (w : World) :
    (results fn tmps).run P w = .ok (.tuple #[tmps.getD t undef, tmps.getD u undef, tmps.getD v undef, tmps.getD x undef]) w := by
  simp [results, h]

/-- entries are drawn -/
def EnD (w : World) (e : Ending) (w' : World) : Prop :=
  ∃ (A : Option Addr) (c : Nat) (l : List En), e = .returned (.slice A l.length c) ∧ Few w' A c l ∧ Below w.heap.size w w'

set_option maxHeartbeats 1000000 in
theorem drawRunKeys (w : World) (A : Option Addr) (n c : Nat) (hb : Bytes w w.heap.size A n) (hnc : n ≤ c) (hc : c ≤ maxLen) :
    Calls Try.prog 38 #[.slice A n c] w (EnD w) := by
  go_enter Try.func38, Try.ntmps38
  go_wp2_with fail
  go_at_call 59
  refine Calls.mono (openR w A n c hb hnc hc) ?_
  rintro e w1 ⟨A1, n1, c1, rfl, hr1, hb1⟩
  have hg1 : w.heap.size < w1.heap.size := (Array.getElem?_eq_some_iff.1 hr1.blk).1
  have HB1 := Lib.hid hb1
  have HR1 := Lib.hid hr1
  clear hb hr1 hb1
  go_wp2_with fail
  go_at_call 60
  refine Calls.mono (offDr w1 w.heap.size 0 n1 c1 A1 HR1.out (by omega)) ?_
  rintro e w2 ⟨v, l, p2, hll, hsh, hp2, rfl, ho2, hr2, hg2⟩
  have HSH := Lib.hid hsh
  have HB2 := Lib.hid (below_g HB1.out hg2 (Nat.le_refl _))
  have HO2 := Lib.hid ho2
  have HR2 := Lib.hid hr2
  have hs2 := hg2.size
  clear hsh ho2 hr2 hg2 HB1 HR1
  obtain ⟨A5, c5, hv5, HF5⟩ := few_of HO2.out (by omega) HSH.out
  subst hv5
  have HF := Lib.hid HF5
  clear HF5
  go_wp2
  go_ret
  exact ⟨A5, c5, l, rfl, HF.out, HB2.out⟩

/-- two runs are drawn -/
def TwoD (w : World) (e : Ending) (w' : World) : Prop :=
  ∃ (A A2 : Option Addr) (c c2 : Nat) (l l2 : List En), e = .returned (.tuple #[.slice A l.length c, .slice A2 l2.length c2]) ∧ Few w' A c l ∧ Few w' A2 c2 l2 ∧ Below w.heap.size w w'

set_option maxHeartbeats 1000000 in
theorem drawRunJoin (w : World) (A : Option Addr) (n c : Nat) (hb : Bytes w w.heap.size A n) (hnc : n ≤ c) (hc : c ≤ maxLen) :
    Calls Try.prog 31 #[.slice A n c] w (TwoD w) := by
  go_enter Try.func31, Try.ntmps31
  go_wp2_with fail
  go_at_call 59
  refine Calls.mono (openR w A n c hb hnc hc) ?_
  rintro e w1 ⟨A1, n1, c1, rfl, hr1, hb1⟩
  have hg1 : w.heap.size < w1.heap.size := (Array.getElem?_eq_some_iff.1 hr1.blk).1
  have HB1 := Lib.hid hb1
  have HR1 := Lib.hid hr1
  clear hb hr1 hb1
  go_wp2_with fail
  go_at_call 60
  refine Calls.mono (offDr w1 w.heap.size 0 n1 c1 A1 HR1.out (by omega)) ?_
  rintro e w2 ⟨v, l, p2, hll, hsh, hp2, rfl, ho2, hr2, hg2⟩
  have HSH := Lib.hid hsh
  have HB2 := Lib.hid (below_g HB1.out hg2 (Nat.le_refl _))
  have HO2 := Lib.hid ho2
  have HR2 := Lib.hid hr2
  have hs2 := hg2.size
  clear hsh ho2 hr2 hg2 HB1 HR1
  go_wp2_with fail
  go_at_call 60
  refine Calls.mono (offDr w2 w.heap.size p2 n1 c1 A1 HR2.out (by omega)) ?_
  rintro e w3 ⟨v3, l3, p3, hll3, hsh3, hp3, rfl, ho3, hr3, hg3⟩
  obtain ⟨A5, c5, hv5, HF5⟩ := few_of (rowGrown HO2.out hg3 hg1) (by omega) HSH.out
  subst hv5
  obtain ⟨A6, c6, hv6, HF6⟩ := few_of ho3 (by omega) hsh3
  subst hv6
  have HF := Lib.hid HF5
  have HG := Lib.hid HF6
  have HB3 := Lib.hid (below_g HB2.out hg3 (Nat.le_refl _))
  clear HF5 HF6 hsh3 ho3 hr3 hg3 HO2 HR2 HB2
  go_wp2
  go_ret2
  exact ⟨A5, A6, c5, c6, l, l3, rfl, HF.out, HG.out, HB3.out⟩

theorem ownE_ents {w : World} {base n c : Nat} {A : Option Addr} {l : List En} (h : OwnE w base (.slice A n c) l) : Ents w w.heap.size A n l := by
  obtain ⟨A', c', hv, -, -, hs⟩ := ownE_parts h
  injection hv with e1 e2 e3
  subst e1 e2
  exact hs
/-- a run, two keys and a time -/
def ListR (w : World) (e : Ending) (w' : World) : Prop :=
  ∃ (A : Option Addr) (c : Nat) (l : List En) (a b : ByteArray) (t : Nat), a.size ≤ 6 ∧ b.size ≤ 6 ∧ t ≤ 70 ∧ e = .returned (.tuple #[.slice A l.length c, .string a, .string b, .int .i64 (t : Nat)]) ∧ Few w' A c l ∧ Below w.heap.size w w'

set_option maxHeartbeats 2000000 in
theorem drawRunList (w : World) (A : Option Addr) (n c : Nat) (hb : Bytes w w.heap.size A n) (hnc : n ≤ c) (hc : c ≤ maxLen) :
    Calls Try.prog 41 #[.slice A n c] w (ListR w) := by
  go_enter Try.func41, Try.ntmps41
  go_wp2_with fail
  go_at_call 59
  refine Calls.mono (openR w A n c hb hnc hc) ?_
  rintro e w1 ⟨A1, n1, c1, rfl, hr1, hb1⟩
  have hg1 : w.heap.size < w1.heap.size := (Array.getElem?_eq_some_iff.1 hr1.blk).1
  have HB1 := Lib.hid hb1
  have HR1 := Lib.hid hr1
  clear hb hr1 hb1
  go_wp2_with fail
  go_at_call 60
  refine Calls.mono (offDr w1 w.heap.size 0 n1 c1 A1 HR1.out (by omega)) ?_
  rintro e w2 ⟨v, l, p2, hll, hsh, hp2, rfl, ho2, hr2, hg2⟩
  have HSH := Lib.hid hsh
  have HB2 := Lib.hid (below_g HB1.out hg2 (Nat.le_refl _))
  have HO2 := Lib.hid ho2
  have HR2 := Lib.hid hr2
  have hs2 := hg2.size
  clear hsh ho2 hr2 hg2 HB1 HR1
  obtain ⟨A2, c2, hv, hc2, hm2, -⟩ := ownE_parts HO2.out
  subst hv
  have hkl := keysL_len l
  go_wp2_with fail
  go_at_call 68
  refine Calls.mono (keysOfS w2 w2.heap.size l.length c2 A2 l (ownE_ents HO2.out) (Nat.le_refl _) (by omega)) ?_
  rintro e w3 ⟨kv, rfl, ho3, hb3⟩
  obtain ⟨A3, c3, hkv, -, -, hs3⟩ := ho3.parts
  subst hkv
  have HK3 := Lib.hid hs3
  have HF3 := Lib.hid (ho3.far (g := w.heap.size) (by omega))
  replace HO2 := Lib.hid (rowBelow HO2.out hb3)
  replace HR2 := Lib.hid (HR2.out.below hb3 (by omega))
  replace HB2 := Lib.hid (HB2.out.trans (hb3.mono HB2.out.size))
  have hs_w3 := hb3.size
  clear ho3 hb3 hs3
  go_wp2_with fail
  go_at_call 67
  refine Calls.mono (nearD w3 w.heap.size p2 n1 c1 A1 w3.heap.size _ c3 A3 (keysL l) HR2.out (by omega) HK3.out (Nat.le_refl _) HF3.out (short_keys HSH.out) (by omega)) ?_
  rintro e w4 ⟨s, p4, hs6, hp4, rfl, hr4, hg4⟩
  replace HO2 := Lib.hid (rowGrown HO2.out hg4 hg1)
  replace HR2 := Lib.hid hr4
  replace HB2 := Lib.hid (below_g HB2.out hg4 (Nat.le_refl _))
  have hs_w4 := hg4.size
  clear hr4 hg4 HK3 HF3
  go_wp2_with fail
  go_at_call 68
  refine Calls.mono (keysOfS w4 w4.heap.size l.length c2 A2 l (ownE_ents HO2.out) (Nat.le_refl _) (by omega)) ?_
  rintro e w5 ⟨kv, rfl, ho3, hb3⟩
  obtain ⟨A3, c3, hkv, -, -, hs3⟩ := ho3.parts
  subst hkv
  have HK3 := Lib.hid hs3
  have HF3 := Lib.hid (ho3.far (g := w.heap.size) (by omega))
  replace HO2 := Lib.hid (rowBelow HO2.out hb3)
  replace HR2 := Lib.hid (HR2.out.below hb3 (by omega))
  replace HB2 := Lib.hid (HB2.out.trans (hb3.mono HB2.out.size))
  have hs_w5 := hb3.size
  clear ho3 hb3 hs3
  go_wp2_with fail
  go_at_call 67
  refine Calls.mono (nearD w5 w.heap.size p4 n1 c1 A1 w5.heap.size _ c3 A3 (keysL l) HR2.out (by omega) HK3.out (Nat.le_refl _) HF3.out (short_keys HSH.out) (by omega)) ?_
  rintro e w6 ⟨u, p6, hu6, hp6, rfl, hr4, hg4⟩
  replace HO2 := Lib.hid (rowGrown HO2.out hg4 hg1)
  replace HR2 := Lib.hid hr4
  replace HB2 := Lib.hid (below_g HB2.out hg4 (Nat.le_refl _))
  have hs_w6 := hg4.size
  clear hr4 hg4 HK3 HF3
  rcases tri s u with ⟨t1, t2⟩ | ⟨t1, t2⟩ | ⟨t1, t2⟩
  · skip
    go_wp2_with fail
    go_at_call 61
    refine Calls.mono (pick w6 w.heap.size p6 n1 c1 A1 70 HR2.out (by omega) (by omega)) ?_
    rintro e w7 ⟨x, rfl, hx0, hx1, hr5, hg5⟩
    obtain ⟨X, rfl⟩ := Int.eq_ofNat_of_zero_le hx0
    obtain ⟨A5, c5, hv5, HF5⟩ := few_of (rowGrown HO2.out hg5 hg1) (by omega) HSH.out
    injection hv5 with q1 q2 q3
    subst q1 q3
    have HF := Lib.hid HF5
    have HB5 := Lib.hid (below_g HB2.out hg5 (Nat.le_refl _))
    clear hr5 hg5 HF5
    go_wp2
    (try simp only [Exit.inBlock, Exit.then])
    refine bodyPost_ret (results_tmp4 rfl _ _ _) rfl ?_
    exact ⟨A2, c2, l, s, u, X, hs6, hu6, by omega, rfl, HF.out, HB5.out⟩
  · have t3 : (s.toList == u.toList) = true := by rw [t2]; simp
    clear t2
    go_wp2_with fail
    go_at_call 61
    refine Calls.mono (pick w6 w.heap.size p6 n1 c1 A1 70 HR2.out (by omega) (by omega)) ?_
    rintro e w7 ⟨x, rfl, hx0, hx1, hr5, hg5⟩
    obtain ⟨X, rfl⟩ := Int.eq_ofNat_of_zero_le hx0
    obtain ⟨A5, c5, hv5, HF5⟩ := few_of (rowGrown HO2.out hg5 hg1) (by omega) HSH.out
    injection hv5 with q1 q2 q3
    subst q1 q3
    have HF := Lib.hid HF5
    have HB5 := Lib.hid (below_g HB2.out hg5 (Nat.le_refl _))
    clear hr5 hg5 HF5
    go_wp2
    (try simp only [Exit.inBlock, Exit.then])
    refine bodyPost_ret (results_tmp4 rfl _ _ _) rfl ?_
    exact ⟨A2, c2, l, s, u, X, hs6, hu6, by omega, rfl, HF.out, HB5.out⟩
  · go_wp2_with fail
    go_at_call 61
    refine Calls.mono (pick w6 w.heap.size p6 n1 c1 A1 6 HR2.out (by omega) (by omega)) ?_
    rintro e w7 ⟨z, rfl, hz0, hz1, hr4, hg4⟩
    obtain ⟨Z, rfl⟩ := Int.eq_ofNat_of_zero_le hz0
    replace HO2 := Lib.hid (rowGrown HO2.out hg4 hg1)
    replace HR2 := Lib.hid hr4
    replace HB2 := Lib.hid (below_g HB2.out hg4 (Nat.le_refl _))
    clear hr4 hg4
    by_cases hZ : 0 < Z
    · have hZ' : (0 : Int) < (Z : Int) := by omega
      go_wp2_with fail
      go_at_call 61
      refine Calls.mono (pick w7 w.heap.size (p6 + 1) n1 c1 A1 70 HR2.out (by omega) (by omega)) ?_
      rintro e w8 ⟨x, rfl, hx0, hx1, hr5, hg5⟩
      obtain ⟨X, rfl⟩ := Int.eq_ofNat_of_zero_le hx0
      obtain ⟨A5, c5, hv5, HF5⟩ := few_of (rowGrown HO2.out hg5 hg1) (by omega) HSH.out
      injection hv5 with q1 q2 q3
      subst q1 q3
      have HF := Lib.hid HF5
      have HB5 := Lib.hid (below_g HB2.out hg5 (Nat.le_refl _))
      clear hr5 hg5 HF5
      go_wp2
      (try simp only [Exit.inBlock, Exit.then])
      refine bodyPost_ret (results_tmp4 rfl _ _ _) rfl ?_
      exact ⟨A2, c2, l, u, s, X, hu6, hs6, by omega, rfl, HF.out, HB5.out⟩
    · have hZ0 : Z = 0 := by omega
      subst hZ0
      go_wp2_with fail
      go_at_call 61
      refine Calls.mono (pick w7 w.heap.size (p6 + 1) n1 c1 A1 70 HR2.out (by omega) (by omega)) ?_
      rintro e w8 ⟨x, rfl, hx0, hx1, hr5, hg5⟩
      obtain ⟨X, rfl⟩ := Int.eq_ofNat_of_zero_le hx0
      obtain ⟨A5, c5, hv5, HF5⟩ := few_of (rowGrown HO2.out hg5 hg1) (by omega) HSH.out
      injection hv5 with q1 q2 q3
      subst q1 q3
      have HF := Lib.hid HF5
      have HB5 := Lib.hid (below_g HB2.out hg5 (Nat.le_refl _))
      clear hr5 hg5 HF5
      go_wp2
      (try simp only [Exit.inBlock, Exit.then])
      refine bodyPost_ret (results_tmp4 rfl _ _ _) rfl ?_
      exact ⟨A2, c2, l, s, u, X, hs6, hu6, by omega, rfl, HF.out, HB5.out⟩

set_option maxHeartbeats 2000000 in
theorem drawRunOk (w : World) (A : Option Addr) (n c : Nat) (hb : Bytes w w.heap.size A n) (hnc : n ≤ c) (hc : c ≤ maxLen) :
    Calls Try.prog 23 #[.slice A n c] w (EnD w) := by
  go_enter Try.func23, Try.ntmps23
  go_wp2_with fail
  go_at_call 59
  refine Calls.mono (openR w A n c hb hnc hc) ?_
  rintro e w1 ⟨A1, n1, c1, rfl, hr1, hb1⟩
  have hg1 : w.heap.size < w1.heap.size := (Array.getElem?_eq_some_iff.1 hr1.blk).1
  have HB1 := Lib.hid hb1
  have HR1 := Lib.hid hr1
  clear hb hr1 hb1
  go_wp2_with fail
  go_at_call 60
  refine Calls.mono (offDr w1 w.heap.size 0 n1 c1 A1 HR1.out (by omega)) ?_
  rintro e w2 ⟨v, l, p2, hll, hsh, hp2, rfl, ho2, hr2, hg2⟩
  have HSH := Lib.hid hsh
  have HB2 := Lib.hid (below_g HB1.out hg2 (Nat.le_refl _))
  have HO2 := Lib.hid ho2
  have HR2 := Lib.hid hr2
  have hs2 := hg2.size
  clear hsh ho2 hr2 hg2 HB1 HR1
  obtain ⟨A2, c2, hv, hc2, hm2, -⟩ := ownE_parts HO2.out
  subst hv
  go_wp2_with fail
  go_at_call 61
  refine Calls.mono (pick w2 w.heap.size p2 n1 c1 A1 3 HR2.out (by omega) (by omega)) ?_
  rintro e w3 ⟨z, rfl, hz0, hz1, hr4, hg4⟩
  obtain ⟨Z, rfl⟩ := Int.eq_ofNat_of_zero_le hz0
  replace HO2 := Lib.hid (rowGrown HO2.out hg4 hg1)
  replace HR2 := Lib.hid hr4
  replace HB2 := Lib.hid (below_g HB2.out hg4 (Nat.le_refl _))
  have hs3 := hg4.size
  clear hr4 hg4
  have HEND := Lib.hid (few_of HO2.out (by omega) HSH.out)
  by_cases hZ : Z = 0
  · subst hZ
    by_cases hl0 : 0 < l.length
    · have hl1 : (0 : Int) < (l.length : Int) := by omega
      go_wp2_with fail
      go_at_call 61
      refine Calls.mono (pick w3 w.heap.size (p2 + 1) n1 c1 A1 (l.length : Int) HR2.out (by omega) (by omega)) ?_
      rintro e w4 ⟨y, rfl, hy0, hy1, hr4, hg4⟩
      obtain ⟨Y, rfl⟩ := Int.eq_ofNat_of_zero_le hy0
      replace HO2 := Lib.hid (rowGrown HO2.out hg4 hg1)
      replace HB2 := Lib.hid (below_g HB2.out hg4 (Nat.le_refl _))
      have hs4 := hg4.size
      clear hr4 hg4 HR2 HEND
      have hY : Y < l.length := by omega
      have y1 : (Y : Int) < (l.length : Int) := by omega
      have y0 : (0 : Int) ≤ (Y : Int) := by omega
      obtain ⟨kb, ko, hA, hkb, d0, d1, d2, d3⟩ := (ownE_ents HO2.out).cell Y hY
      subst hA
      have hx6 := HSH.out _ (List.getElem_mem hY)
      obtain ⟨x0, h0⟩ : ∃ y, y = l[Y].key := ⟨_, rfl⟩
      obtain ⟨x1, h1⟩ : ∃ y, y = l[Y].val := ⟨_, rfl⟩
      obtain ⟨x2, h2⟩ : ∃ y, y = l[Y].gone := ⟨_, rfl⟩
      obtain ⟨x3, h3⟩ : ∃ y, y = l[Y].time := ⟨_, rfl⟩
      rw [← h0] at d0 hx6
      rw [← h1] at d1
      rw [← h2] at d2
      rw [← h3] at d3
      clear h0 h1 h2 h3
      have HOA := Lib.hid (show OwnE (w4.alloc (.cells #[.string x0, .int .i64 x1, .bool x2, .int .i64 x3] 33)) w1.heap.size (.slice (some ⟨kb, ko, none⟩) l.length c2) l from World.ownsRow.alloc HO2.out _)
      have HBA := Lib.hid (HB2.out.alloc HB2.out.size (.cells #[.string x0, .int .i64 x1, .bool x2, .int .i64 x3] 33))
      have hc0 : (w4.alloc (.cells #[.string x0, .int .i64 x1, .bool x2, .int .i64 x3] 33)).cell? ⟨w4.heap.size, 0, none⟩ = some (.string x0) := by rw [cell_of_row _ _ _ _ _ _ (heap_alloc_new _ _)]; rfl
      have hc1 : (w4.alloc (.cells #[.string x0, .int .i64 x1, .bool x2, .int .i64 x3] 33)).cell? ⟨w4.heap.size, 1, none⟩ = some (.int .i64 x1) := by rw [cell_of_row _ _ _ _ _ _ (heap_alloc_new _ _)]; rfl
      have hc2' : (w4.alloc (.cells #[.string x0, .int .i64 x1, .bool x2, .int .i64 x3] 33)).cell? ⟨w4.heap.size, 2, none⟩ = some (.bool x2) := by rw [cell_of_row _ _ _ _ _ _ (heap_alloc_new _ _)]; rfl
      have hc3 : (w4.alloc (.cells #[.string x0, .int .i64 x1, .bool x2, .int .i64 x3] 33)).cell? ⟨w4.heap.size, 3, none⟩ = some (.int .i64 x3) := by rw [cell_of_row _ _ _ _ _ _ (heap_alloc_new _ _)]; rfl
      go_wp2_with (at_builtin; refine app_en rfl (.tmp 17) (.tmp 25) rfl (w4.alloc (.cells #[.string x0, .int .i64 x1, .bool x2, .int .i64 x3] 33)) w1.heap.size (.slice (some ⟨kb, ko, none⟩) l.length c2) l rfl HOA.out w4.heap.size 1 ⟨x0, x1, x2, x3⟩ rfl hc0 hc1 hc2' hc3 (by omega) (by simp; omega) ?_; intro vb wb ob gb; have OB := Lib.hid ob; have BB := Lib.hid (HBA.out.grown gb HBA.out.size fun k hk => Nat.le_trans (Nat.le_of_lt hg1) (World.ownsRow.lt HOA.out k hk).1); clear ob gb)
      obtain ⟨A5, c5, hv5, HF5⟩ := few_of OB.out (by rw [List.length_append, List.length_singleton]; omega) (short_snoc HSH.out hx6)
      subst hv5
      go_ret
      exact ⟨A5, c5, _, rfl, HF5, BB.out⟩
    · have hl0' : l.length = 0 := by omega
      have hl1 : ¬ (0 : Int) < (l.length : Int) := by omega
      obtain ⟨A5, c5, hv5, HF5⟩ := HEND.out
      injection hv5 with q1 q2 q3
      subst q1 q3
      have HF := Lib.hid HF5
      clear HF5 hl0' HEND
      go_wp2
      go_ret
      exact ⟨A2, c2, l, rfl, HF.out, HB2.out⟩
  · have hZ' : ((Z : Int) == 0) = false := by simp; omega
    obtain ⟨A5, c5, hv5, HF5⟩ := HEND.out
    injection hv5 with q1 q2 q3
    subst q1 q3
    have HF := Lib.hid HF5
    clear HF5 HEND
    go_wp2
    go_ret
    exact ⟨A2, c2, l, rfl, HF.out, HB2.out⟩

end Go.Proofs.Ytfpgjkanmanajaa.W
