/-
  Appending a slice of strings to one of the call's own, and the contracts of the drawing functions of the key laws.
-/
import Derived.Test.YtipkhpijanhfiaaDK3
namespace Go.Proofs.Ytipkhpijanhfiaa.W
open Go.RowKit K

/-- appending nothing changes nothing -/
theorem run_app_none (w : World) (base : Nat) (v : Value) (l : List ByteArray) (hown : Own w base v l) (A2 : Option Addr) (c2 : Nat) (ty : TypeId) :
    (Builtin.append_ #[23, 23] ty #[v, .slice A2 0 c2]).run Try.prog w = .ok v w := by
  obtain ⟨i0, hi, hz0, hz1, hz2⟩ := info_parts str_info
  rcases hown.2 with ⟨rfl, _⟩ | ⟨g, cap, cur, rfl, _, _, hnc, _⟩
  · cases A2 <;> simp [Builtin.append_, run_underlying Try.underlying23, sizeOf, typeInfo, hi, Builtin.lenOf, Builtin.firstCells, loadCells, loadCellsFrom]
  · cases A2 <;> simp [Builtin.append_, run_underlying Try.underlying23, sizeOf, typeInfo, hi, Builtin.lenOf, Builtin.firstCells, hnc, storeCells, loadCells, loadCellsFrom]

/-- append of a slice that can be read, under a guard that says yes -/
theorem app_own_g {ops : Array Oper} {rest : List Oper} {o : Oper} {a : Act} {Q : Exit → Act → World → Prop} (hw : Region.wanted o (yielded ops a.tmps) = true) (s x : Operand)
    (ho : o.op = .call { callee := .builtin .append, args := #[s, x], argTypes := #[23, 23] })
    (w : World) (base : Nat) (v : Value) (l : List ByteArray) (hs : a.eval s = v) (hown : Own w base v l) (B m cc : Nat) (A2 : Option Addr) (l2 : List ByteArray)
    (hx : a.eval x = .slice A2 m cc) (hr : Strs w B A2 m l2) (hl : l.length + m ≤ 4398046511104) (hbase : base ≤ w.heap.size)
    (h : ∀ v' w', Own w' base v' (l ++ l2) → w.grownBy w' v.ownBlock → wpList Try.prog ops Q rest (a.put o.dst v') w') : wpList Try.prog ops Q (o :: rest) a w := by
  have hlen := hr.len
  refine wpList_step fun K hK => ?_
  rw [if_pos hw]
  by_cases hm : m = 0
  · subst hm
    have : l2 = [] := List.eq_nil_of_length_eq_zero hlen
    subst this
    have hrun := run_app_none w base v l hown A2 cc o.type
    unfold Oper.wp execOp
    simp only [ho, resolve, invoke, builtin, Sem.run_bind, Sem.run_pure, Result.andThen_ok, List.map_toArray, List.map_cons, List.map_nil, hs, hx, hrun]
    exact hK _ _ (h v w (by rw [List.append_nil]; exact hown) (World.grownBy.refl w _))
  · obtain ⟨b, off, hA, _, _⟩ := hr.cell 0 (by omega)
    subst hA
    obtain ⟨i0, hi, hz0, hz1, hz2⟩ := info_parts str_info
    refine wp_append_lies w s x _ ho base _ i0 (.string ⟨#[]⟩) 1 16 Try.underlying23 hi hz0 hz1 hz2 rfl (by decide) v l.length (l.map Value.string) hs hown ⟨b, off, none⟩ m cc (l2.map Value.string) hx (by simp [hlen]) ?_ ?_ (by omega) ?_ ?_ hbase _ rfl ?_
    · intro j u hj
      rw [List.getElem?_map] at hj
      rcases Nat.lt_or_ge j l2.length with hlt | hge
      · rw [List.getElem?_eq_getElem hlt] at hj
        simp at hj
        subst hj
        obtain ⟨b', off', hA', _, hc⟩ := hr.cell j hlt
        simp only [Option.some.injEq, Addr.mk.injEq, and_true] at hA'
        obtain ⟨rfl, rfl⟩ := hA'
        have hadd : (⟨b, off, none⟩ : Addr).add j = ⟨b, off + j, none⟩ := by unfold Addr.add; split <;> simp_all
        rw [hadd]
        exact hc
      · rw [List.getElem?_eq_none hge] at hj; simp at hj
    · intro u hu
      obtain ⟨x, _, rfl⟩ := List.mem_map.mp hu
      rfl
    · unfold maxLen; omega
    · omega
    · intro g cap w' h2 h3 _ _
      refine hK _ _ (h _ w' ?_ h3)
      unfold Own
      rw [List.length_append, List.map_append, hlen]
      exact h2
/-- append of a slice that can be read -/
theorem app_own {ops : Array Oper} {rest : List Oper} {o : Oper} {a : Act} {Q : Exit → Act → World → Prop} (hgd : o.guard = none) (s x : Operand)
    (ho : o.op = .call { callee := .builtin .append, args := #[s, x], argTypes := #[23, 23] })
    (w : World) (base : Nat) (v : Value) (l : List ByteArray) (hs : a.eval s = v) (hown : Own w base v l) (B m cc : Nat) (A2 : Option Addr) (l2 : List ByteArray)
    (hx : a.eval x = .slice A2 m cc) (hr : Strs w B A2 m l2) (hl : l.length + m ≤ 4398046511104) (hbase : base ≤ w.heap.size)
    (h : ∀ v' w', Own w' base v' (l ++ l2) → w.grownBy w' v.ownBlock → wpList Try.prog ops Q rest (a.put o.dst v') w') : wpList Try.prog ops Q (o :: rest) a w :=
  app_own_g (by simp [Region.wanted, hgd]) s x ho w base v l hs hown B m cc A2 l2 hx hr hl hbase h

/-- a slice of short strings is drawn for a law: in new memory -/
def ListL (w : World) (e : Ending) (w' : World) : Prop :=
  ∃ (A : Option Addr) (c : Nat) (l : List ByteArray), l.length ≤ 100 ∧ Short l ∧ e = .returned (.slice A l.length c) ∧ Own w' w.heap.size (.slice A l.length c) l ∧ Below w.heap.size w w'

theorem listL_of {w w1 w' : World} {L d g p n c : Nat} {A : Option Addr} {e : Ending} (h : ListD L d w1.heap.size g p n c A w1 e w') (hb : Below w.heap.size w w1) (hg : w.heap.size ≤ g) (hL : L ≤ 100) : ListL w e w' := by
  obtain ⟨v, l, p', h1, h2, _, h4, h5, _, h7⟩ := h
  obtain ⟨A1, c1, rfl, _⟩ := h5.parts
  exact ⟨A1, c1, l, by omega, h2, h4, h5.base hb.size, hb.grown h7 hb.size (fun k e => by injection e; omega)⟩

set_option maxHeartbeats 400000 in
theorem drawKeysOk (w : World) (A : Option Addr) (n c : Nat) (hb : Bytes w w.heap.size A n) (hnc : n ≤ c) (hc : c ≤ maxLen) :
    Calls Try.prog 13 #[.slice A n c] w (ListL w) := by
  go_enter Try.func13, Try.ntmps13
  go_wp2_with fail
  go_at_call 34
  refine (openR w A n c hb hnc hc).mono ?_
  rintro e w1 ⟨A1, n1, c1, rfl, hr1, hb1⟩
  have HB1 := Lib.hid hb1
  have HR1 := Lib.hid hr1
  clear hb hr1 hb1
  go_wp2_with fail
  go_at_call 35
  refine (pick w1 w.heap.size 0 n1 c1 A1 2 HR1.out (by omega) (by omega)).mono ?_
  rintro e w2 ⟨x, rfl, hx0, hx1, hr2, hg2⟩
  have HB2 := Lib.hid (HB1.out.grown hg2 HB1.out.size (fun k e => by injection e; omega))
  have HR2 := Lib.hid hr2
  clear hr2 hg2 hx1
  by_cases hx : x = 0
  · subst hx
    go_wp2_with fail
    go_at_call 36
    refine (keysD w2 w.heap.size 1 n1 c1 10 A1 HR2.out (by omega) (by omega)).mono ?_
    intro e w3 hl
    obtain ⟨A3, c3, l, h1, h2, rfl, h4, h5⟩ := listL_of hl HB2.out (Nat.le_refl _) (by omega)
    have H4 := Lib.hid h4
    have H5 := Lib.hid h5
    clear hl h4 h5
    go_wp2
    go_ret
    exact ⟨A3, c3, l, h1, h2, rfl, H4.out, H5.out⟩
  · have hx' : (x == 0) = false := by rw [beq_eq_false_iff_ne]; exact hx
    go_wp2_with fail
    go_at_call 37
    refine (messD w2 w.heap.size 1 n1 c1 A1 HR2.out (by omega)).mono ?_
    intro e w3 hl
    obtain ⟨A3, c3, l, h1, h2, rfl, h4, h5⟩ := listL_of hl HB2.out (Nat.le_refl _) (by omega)
    have H4 := Lib.hid h4
    have H5 := Lib.hid h5
    clear hl h4 h5
    go_wp2
    go_ret
    exact ⟨A3, c3, l, h1, h2, rfl, H4.out, H5.out⟩

/-- at the loop's head: so many texts are to come -/
def LoopS (w w1 : World) (n c : Nat) (A : Option Addr) (out nv : Value) (wr : World) : Prop :=
  ∃ (l : List ByteArray) (k q : Nat), nv = .int .i64 (k : Nat) ∧ k ≤ 10 ∧ l.length + k ≤ 10 ∧ q + 20 * k ≤ 300 ∧ Short l ∧ Own wr w1.heap.size out l ∧ Rd wr w.heap.size q A n c ∧ w1.grownBy wr (some w.heap.size)

set_option maxHeartbeats 1000000 in
theorem drawKeysSort (w : World) (A : Option Addr) (n c : Nat) (hb : Bytes w w.heap.size A n) (hnc : n ≤ c) (hc : c ≤ maxLen) :
    Calls Try.prog 18 #[.slice A n c] w (ListL w) := by
  go_enter Try.func18, Try.ntmps18
  go_wp2_with fail
  go_at_call 34
  refine (openR w A n c hb hnc hc).mono ?_
  rintro e w1 ⟨A1, n1, c1, rfl, hr1, hb1⟩
  have HB1 := Lib.hid hb1
  have HR1 := Lib.hid hr1
  have hgl : w.heap.size < w1.heap.size := (Array.getElem?_eq_some_iff.1 hr1.blk).1
  clear hb hr1 hb1
  go_wp2_with fail
  go_at_call 35
  refine (pick _ w.heap.size 0 n1 c1 A1 10 (HR1.out.alloc _) (by omega) (by omega)).mono ?_
  rintro e w2 ⟨x, rfl, hx0, hx1, hr2, hg2⟩
  obtain ⟨X, rfl⟩ := Int.eq_ofNat_of_zero_le hx0
  have hX : X < 10 := by omega
  have HO2 := Lib.hid ((Own.empty w1 w1.heap.size (Nat.le_refl _)).grown hg2 hgl)
  have HG2 := Lib.hid ((World.grownBy_alloc w1 (.cells #[] 9) (some w.heap.size)).trans hg2)
  have HR2 := Lib.hid hr2
  clear hr2 hg2 hx1 hx0 HR1
  go_wp2_with fail
  go_loopw [4, 5] (fun out nv wr => LoopS w w1 n1 c1 A1 out nv wr) (fun _ nv _ => (intOf nv).toNat)
  case atStart => exact ⟨[], X, 1, rfl, by omega, by simp; omega, by omega, Short.nil, HO2.out, HR2.out, HG2.out⟩
  case round =>
    obtain ⟨l, k, q, rfl, hk10, hl, hq, hsh, ho, hr3, hg3⟩ := hrel
    have HSH := Lib.hid hsh
    have HO := Lib.hid ho
    have HR3 := Lib.hid hr3
    have HG3 := Lib.hid hg3
    have hsz := hg3.size
    clear hsh ho hr3 hg3 HO2 HR2 HG2
    by_cases hk : 0 < k
    · obtain ⟨V, cc, hv, hc1, hm1, hs1⟩ := HO.out.parts
      subst hv
      go_wp2_with fail
      go_at_call 40
      refine (nearD wr w.heap.size q n1 c1 A1 wr.heap.size l.length cc V l HR3.out (by omega) hs1 (Nat.le_refl _) (HO.out.far hgl) HSH.out (by omega)).mono ?_
      rintro e w4 ⟨s, q2, hs6, hq2, rfl, hr4, hg4⟩
      have HO4 := Lib.hid (HO.out.grown hg4 hgl)
      have HR4 := Lib.hid hr4
      have HG4 := Lib.hid (HG3.out.trans hg4)
      have hsz4 := HG4.out.size
      clear hs1 hr4 hg4 hc1 hm1
      go_wp2_with (at_builtin; refine app_str rfl (.tmp 15) (.tmp 19) rfl _ w1.heap.size _ l rfl (HO4.out.alloc _) w4.heap.size 1 _ rfl (cell_new _ _ _) (by omega) (le_alloc hsz4 _) ?_; intro g5 cap w5 ho5 hg5)
      have HO5 := Lib.hid ho5
      have HG5 := Lib.hid (grown_own (HG4.out.trans (World.grownBy_alloc _ _ _)) (HO4.out.alloc _) (Nat.le_refl _) hg5)
      have HR5 := Lib.hid (own_row_below (HO4.out.alloc _) hg5 hgl (HR4.out.alloc _))
      clear ho5 hg5
      go_wp2
      go_roundw
      case rel => exact ⟨l ++ [s], k - 1, q2, by go_num, by omega, by simp; omega, by omega, HSH.out.snoc hs6, HO5.out, HR5.out, HG5.out⟩
      case measure => simp [intOf]; omega
    · have hk0 : k = 0 := by omega
      subst hk0
      go_wp2_with fail
      go_at_call 37
      refine (messD wr w.heap.size q n1 c1 A1 HR3.out (by omega)).mono ?_
      rintro e w4 ⟨v4, l4, q4, hl4, hsh4, hq4, rfl, ho4, hr4, hg4⟩
      have HO4 := Lib.hid (HO.out.grown hg4 hgl)
      have HM := Lib.hid ho4
      have HG4 := Lib.hid (HG3.out.trans hg4)
      have HSH4 := Lib.hid hsh4
      have hsz4 := HG4.out.size
      clear ho4 hr4 hg4 hsh4
      obtain ⟨V4, cc4, hv4, _, _, hs4⟩ := HM.out.parts
      subst hv4
      have HS4 := Lib.hid hs4
      clear hs4
      go_wp2_with (at_builtin; refine app_own rfl (.tmp 21) (.tmp 23) rfl _ w1.heap.size _ l rfl HO4.out w4.heap.size l4.length cc4 V4 l4 rfl HS4.out (by omega) hsz4 ?_; intro v5 w5 ho5 hg5)
      have HO5 := Lib.hid ho5
      have HG5 := Lib.hid (grown_own HG4.out HO4.out (Nat.le_refl _) hg5)
      clear ho5 hg5
      obtain ⟨A5, c5, hv5, _⟩ := HO5.out.parts
      subst hv5
      go_wp2
      go_ret
      exact ⟨A5, c5, l ++ l4, by simp; omega, HSH.out.append HSH4.out, rfl, HO5.out.base HB1.out.size, HB1.out.grown HG5.out HB1.out.size (fun k e => by injection e; omega)⟩

/-- two short strings are drawn -/
def TwoL (w : World) (e : Ending) (w' : World) : Prop := ∃ s t : ByteArray, s.size ≤ 6 ∧ t.size ≤ 6 ∧ e = .returned (.tuple #[.string s, .string t]) ∧ Below w.heap.size w w'

theorem one_strs (w : World) (s : ByteArray) : Strs (w.alloc (.cells #[.string s] 9)) (w.heap.size + 1) (some ⟨w.heap.size, 0, none⟩) 1 [s] :=
  ⟨rfl, fun i hi => ⟨w.heap.size, 0, rfl, by omega, by
    obtain rfl : i = 0 := by simpa using hi
    exact cell_new w _ _⟩⟩

set_option maxHeartbeats 400000 in
theorem drawKeyBegins (w : World) (A : Option Addr) (n c : Nat) (hb : Bytes w w.heap.size A n) (hnc : n ≤ c) (hc : c ≤ maxLen) :
    Calls Try.prog 22 #[.slice A n c] w (TwoL w) := by
  go_enter Try.func22, Try.ntmps22
  go_wp2_with fail
  go_at_call 34
  refine (openR w A n c hb hnc hc).mono ?_
  rintro e w1 ⟨A1, n1, c1, rfl, hr1, hb1⟩
  have HB1 := Lib.hid hb1
  have HR1 := Lib.hid hr1
  have hgl : w.heap.size < w1.heap.size := (Array.getElem?_eq_some_iff.1 hr1.blk).1
  clear hb hr1 hb1
  go_wp2_with fail
  go_at_call 42
  refine (keyD w1 w.heap.size 0 n1 c1 A1 HR1.out (by omega)).mono ?_
  rintro e w2 ⟨s, p2, hs5, hp2, rfl, hr2, hg2⟩
  have HB2 := Lib.hid (HB1.out.grown hg2 HB1.out.size (fun k e => by injection e; omega))
  have HR2 := Lib.hid hr2
  have hsz2 := hg2.size
  clear hr2 hg2
  go_wp2_with fail
  go_at_call 40
  refine (nearD _ w.heap.size p2 n1 c1 A1 (w2.heap.size + 1) 1 1 _ [s] (HR2.out.alloc _) (by omega) (one_strs w2 s) (by simp) (fun b o e => by injection e with e; injection e with e; omega) (fun x hx => by rw [List.mem_singleton.mp hx]; omega) (by omega)).mono ?_
  rintro e w3 ⟨t, p3, ht6, hp3, rfl, hr3, hg3⟩
  have HB3 := Lib.hid ((HB2.out.alloc HB2.out.size _).grown hg3 (le_alloc HB2.out.size _) (fun k e => by injection e; omega))
  clear hr3 hg3
  go_wp2
  go_ret2
  exact ⟨s, t, by omega, ht6, rfl, HB3.out⟩

/-- short strings and a short string are drawn -/
def PairL (w : World) (e : Ending) (w' : World) : Prop :=
  ∃ (A : Option Addr) (c : Nat) (l : List ByteArray) (s : ByteArray), l.length ≤ 100 ∧ Short l ∧ s.size ≤ 6 ∧ e = .returned (.tuple #[.slice A l.length c, .string s]) ∧ Own w' w.heap.size (.slice A l.length c) l ∧ Below w.heap.size w w'

set_option maxHeartbeats 1000000 in
theorem drawKeyFirst (w : World) (A : Option Addr) (n c : Nat) (hb : Bytes w w.heap.size A n) (hnc : n ≤ c) (hc : c ≤ maxLen) :
    Calls Try.prog 25 #[.slice A n c] w (PairL w) := by
  go_enter Try.func25, Try.ntmps25
  go_wp2_with fail
  go_at_call 34
  refine (openR w A n c hb hnc hc).mono ?_
  rintro e w1 ⟨A1, n1, c1, rfl, hr1, hb1⟩
  have HB1 := Lib.hid hb1
  have HR1 := Lib.hid hr1
  have hgl : w.heap.size < w1.heap.size := (Array.getElem?_eq_some_iff.1 hr1.blk).1
  clear hb hr1 hb1
  go_wp2_with fail
  go_at_call 36
  refine (keysD w1 w.heap.size 0 n1 c1 10 A1 HR1.out (by omega) (by omega)).mono ?_
  rintro e w2 ⟨v2, l2, p2, hl2, hsh2, hp2, rfl, ho2, hr2, hg2⟩
  have HB2 := Lib.hid (HB1.out.grown hg2 HB1.out.size (fun k e => by injection e; omega))
  have HO2 := Lib.hid ho2
  have HR2 := Lib.hid hr2
  have HSH2 := Lib.hid hsh2
  clear ho2 hr2 hg2 hsh2
  go_wp2_with fail
  go_at_call 35
  refine (pick w2 w.heap.size p2 n1 c1 A1 12 HR2.out (by omega) (by omega)).mono ?_
  rintro e w3 ⟨x, rfl, hx0, hx1, hr3, hg3⟩
  have HB3 := Lib.hid (HB2.out.grown hg3 HB2.out.size (fun k e => by injection e; omega))
  have HO3 := Lib.hid (HO2.out.grown hg3 hgl)
  have HR3 := Lib.hid hr3
  have hgl3 : w.heap.size < w3.heap.size := (Array.getElem?_eq_some_iff.1 hr3.blk).1
  clear hr3 hg3 hx1 HO2 HR2 HB2
  by_cases hx : x = 0
  · subst hx
    go_wp2_with fail
    go_at_call 37
    refine (messD w3 w.heap.size (p2 + 1) n1 c1 A1 HR3.out (by omega)).mono ?_
    rintro e w4 ⟨v4, l4, q4, hl4, hsh4, hq4, rfl, ho4, hr4, hg4⟩
    have HB4 := Lib.hid (HB3.out.grown hg4 HB3.out.size (fun k e => by injection e; omega))
    have HO4 := Lib.hid ho4
    have HR4 := Lib.hid hr4
    have HSH4 := Lib.hid hsh4
    clear ho4 hr4 hg4 hsh4
    obtain ⟨V, cc, hv, _, _, hs4⟩ := HO4.out.parts
    subst hv
    go_wp2_with fail
    go_at_call 40
    refine (nearD w4 w.heap.size q4 n1 c1 A1 w4.heap.size l4.length cc V l4 HR4.out (by omega) hs4 (Nat.le_refl _) (HO4.out.far hgl3) HSH4.out (by omega)).mono ?_
    rintro e w5 ⟨s, q5, hs6, hq5, rfl, hr5, hg5⟩
    have HB5 := Lib.hid (HB4.out.grown hg5 HB4.out.size (fun k e => by injection e; omega))
    have HO5 := Lib.hid ((HO4.out.grown hg5 hgl3).base HB3.out.size)
    clear hr5 hg5 hs4
    go_wp2
    go_ret2
    exact ⟨V, cc, l4, s, by omega, HSH4.out, hs6, rfl, HO5.out, HB5.out⟩
  · have hx' : (x == 0) = false := by rw [beq_eq_false_iff_ne]; exact hx
    obtain ⟨V, cc, hv, _, _, hs3⟩ := HO3.out.parts
    subst hv
    go_wp2_with fail
    go_at_call 40
    refine (nearD w3 w.heap.size (p2 + 1) n1 c1 A1 w3.heap.size l2.length cc V l2 HR3.out (by omega) hs3 (Nat.le_refl _) (HO3.out.far hgl) HSH2.out (by omega)).mono ?_
    rintro e w5 ⟨s, q5, hs6, hq5, rfl, hr5, hg5⟩
    have HB5 := Lib.hid (HB3.out.grown hg5 HB3.out.size (fun k e => by injection e; omega))
    have HO5 := Lib.hid ((HO3.out.grown hg5 hgl).base HB1.out.size)
    clear hr5 hg5 hs3
    go_wp2
    go_ret2
    exact ⟨V, cc, l2, s, by omega, HSH2.out, hs6, rfl, HO5.out, HB5.out⟩

end Go.Proofs.Ytipkhpijanhfiaa.W
