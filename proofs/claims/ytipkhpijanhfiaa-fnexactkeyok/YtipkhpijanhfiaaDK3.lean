/-
  The contract of the function that draws texts out of order: a short list of short strings.
-/
import Derived.Test.YtipkhpijanhfiaaDK2
import Derived.Deep.RegionWith
namespace Go.Proofs.Ytipkhpijanhfiaa.W
open Go.RowKit K

/-- append of some strings that lie in a block -/
theorem app_strs {ops : Array Oper} {rest : List Oper} {o : Oper} {a : Act} {Q : Exit → Act → World → Prop} (hgd : o.guard = none) (s x : Operand)
    (ho : o.op = .call { callee := .builtin .append, args := #[s, x], argTypes := #[23, 23] })
    (w : World) (base : Nat) (v : Value) (l : List ByteArray) (hs : a.eval s = v) (hown : Own w base v l) (b m cc : Nat) (ks : List ByteArray)
    (hx : a.eval x = .slice (some ⟨b, 0, none⟩) m cc) (hm : ks.length = m) (h0 : 0 < m) (hcell : ∀ i (h : i < ks.length), w.cell? ⟨b, i, none⟩ = some (.string ks[i])) (hl : l.length + m ≤ 4398046511104) (hbase : base ≤ w.heap.size)
    (h : ∀ g cap w', Own w' base (.slice (some ⟨g, 0, none⟩) (l.length + m) cap) (l ++ ks) → w.grownBy w' v.ownBlock →
      wpList Try.prog ops Q rest (a.put o.dst (.slice (some ⟨g, 0, none⟩) (l.length + m) cap)) w') : wpList Try.prog ops Q (o :: rest) a w := by
  obtain ⟨i0, hi, hz0, hz1, hz2⟩ := info_parts str_info
  refine wpList_append_lies w hgd s x _ ho base _ i0 (.string ⟨#[]⟩) 1 16 Try.underlying23 hi hz0 hz1 hz2 rfl (by decide) v l.length (l.map Value.string) hs hown ⟨b, 0, none⟩ m cc (ks.map Value.string) hx (by simp [hm]) ?_ ?_ h0 ?_ ?_ hbase _ rfl ?_
  · intro j u hj
    rw [List.getElem?_map] at hj
    rcases Nat.lt_or_ge j ks.length with hlt | hge
    · rw [List.getElem?_eq_getElem hlt] at hj
      simp at hj
      subst hj
      have hadd : (⟨b, 0, none⟩ : Addr).add j = ⟨b, j, none⟩ := by unfold Addr.add; split <;> simp_all
      rw [hadd]
      exact hcell j hlt
    · rw [List.getElem?_eq_none hge] at hj; simp at hj
  · intro u hu
    obtain ⟨x, _, rfl⟩ := List.mem_map.mp hu
    rfl
  · unfold maxLen; omega
  · omega
  · intro g cap w' h2 h3 _ _
    refine h g cap w' ?_ h3
    unfold Own
    rw [List.length_append, List.map_append, hm]
    exact h2

theorem lits_cell (w : World) (ss : List ByteArray) (t : TypeId) : ∀ i (h : i < ss.length), (w.alloc (.cells (ss.map Value.string).toArray t)).cell? ⟨w.heap.size, i, none⟩ = some (.string ss[i]) := by
  intro i hi
  rw [cell_of_row _ _ _ _ _ _ (heap_alloc_new w _)]
  simp [hi]
theorem Short.append {l k : List ByteArray} (h : Short l) (hk : Short k) : Short (l ++ k) := by
  intro x hx
  rcases List.mem_append.mp hx with hx | hx
  · exact h x hx
  · exact hk x hx
theorem own_row_below {w w' : World} {base g : Nat} {v : Value} {l : List ByteArray} (h : Own w base v l) (hg : w.grownBy w' v.ownBlock) (hlt : g < base) {p n c : Nat} {A : Option Addr} (hr : Rd w g p A n c) : Rd w' g p A n c := by
  refine hr.grown hg fun k hk => ?_
  have := (World.ownsRow.lt h k hk).1
  omega
theorem grown_own {a w w' : World} {base g : Nat} {v : Value} {l : List ByteArray} (h : a.grownBy w (some g)) (ho : Own w base v l) (hb : a.heap.size ≤ base) (hg : w.grownBy w' v.ownBlock) : a.grownBy w' (some g) :=
  ⟨hg.os.trans h.os, hg.tape.trans h.tape, hg.output.trans h.output, Nat.le_trans h.size hg.size, fun k hk hn => (hg.block k (Nat.lt_of_lt_of_le hk h.size) (fun e => by
    have := (World.ownsRow.lt ho k e.symm).1
    omega)).trans (h.block k hk hn)⟩

/-- at the loop's head: so many keys have been put -/
def LoopM (w : World) (g q n c : Nat) (A : Option Addr) (keys iv : Value) (wr : World) : Prop :=
  ∃ (l : List ByteArray) (k : Nat), k ≤ 30 ∧ iv = .int .i64 (k : Nat) ∧ l.length ≤ 8 + k ∧ Short l ∧ Own wr w.heap.size keys l ∧ Rd wr g q A n c ∧ w.grownBy wr (some g)

/-- the two literals of the loop -/
def litA : List ByteArray := [⟨#[]⟩, ⟨#[97]⟩, ⟨#[98]⟩, ⟨#[99]⟩, ⟨#[100]⟩]
def litB : List ByteArray := [⟨#[]⟩, ⟨#[97]⟩, ⟨#[98]⟩, ⟨#[99]⟩, ⟨#[100]⟩, ⟨#[100, 97]⟩]
theorem rem5 (k : Nat) : ∃ a : Nat, a < 5 ∧ (k : Int).tmod 5 = (a : Int) ∧ (k : Int) % 5 = (a : Int) ∧ (0 : Int) ≤ (a : Int) ∧ (a : Int) < 5 :=
  ⟨k % 5, Nat.mod_lt _ (by omega), by rw [Int.tmod_eq_emod_of_nonneg (by omega)]; simp, by simp, by omega, by omega⟩
theorem quo5 (k : Nat) (h : k < 30) : ∃ b : Nat, b < 6 ∧ (k : Int).tdiv 5 = (b : Int) ∧ (k : Int) / 5 = (b : Int) ∧ (0 : Int) ≤ (b : Int) ∧ (b : Int) < 6 ∧ IntKind.i64.wrap (b : Int) = (b : Int) :=
  ⟨k / 5, by omega, by rw [Int.tdiv_eq_ediv_of_nonneg (by omega)]; simp, by simp, by omega, by omega, IntWalk.i64_in _ ⟨by omega, by omega⟩⟩
theorem getA (a : Nat) (h : a < 5) : ∃ s : ByteArray, s.size ≤ 1 ∧ ∀ h', ([.string ⟨#[]⟩, .string ⟨#[97]⟩, .string ⟨#[98]⟩, .string ⟨#[99]⟩, .string ⟨#[100]⟩] : List Value)[a]'h' = .string s := by
  have h1 : ∀ s ∈ litA, s.size ≤ 1 := by decide
  refine ⟨litA[a]'h, h1 _ (List.getElem_mem _), fun h' => ?_⟩
  have e : ([.string ⟨#[]⟩, .string ⟨#[97]⟩, .string ⟨#[98]⟩, .string ⟨#[99]⟩, .string ⟨#[100]⟩] : List Value) = litA.map Value.string := rfl
  simp only [e, List.getElem_map]
  rfl
theorem getB (b : Nat) (h : b < 6) : ∃ s : ByteArray, s.size ≤ 2 ∧ ∀ h', ([.string ⟨#[]⟩, .string ⟨#[97]⟩, .string ⟨#[98]⟩, .string ⟨#[99]⟩, .string ⟨#[100]⟩, .string ⟨#[100, 97]⟩] : List Value)[b]'h' = .string s := by
  have h1 : ∀ s ∈ litB, s.size ≤ 2 := by decide
  refine ⟨litB[b]'h, h1 _ (List.getElem_mem _), fun h' => ?_⟩
  have e : ([.string ⟨#[]⟩, .string ⟨#[97]⟩, .string ⟨#[98]⟩, .string ⟨#[99]⟩, .string ⟨#[100]⟩, .string ⟨#[100, 97]⟩] : List Value) = litB.map Value.string := rfl
  simp only [e, List.getElem_map]
  rfl
/-- putting a key, from a later world -/
theorem put_from {w wr : World} {cc : Nat} {V : Option Addr} {l : List ByteArray} (ho : Own wr w.heap.size (.slice V l.length cc) l) (hs : Strs wr wr.heap.size V l.length l) (hl : l.length ≤ 1000) (hle : w.heap.size ≤ wr.heap.size) :
    ∀ (W : World) (s : ByteArray), Below wr.heap.size wr W →
      Calls Try.prog 41 #[.slice V l.length cc, .string s] W fun e w' => ∃ v, e = .returned v ∧ Own w' w.heap.size v (put l s) ∧ Below wr.heap.size wr w' := by
  intro W s hb
  refine (putS W wr.heap.size _ _ _ l s (hs.below hb (Nat.le_refl _)) hb.size (by omega)).mono ?_
  intro e w' hp
  have hW : Own W w.heap.size (.slice V l.length cc) l := ho.below hb
  obtain ⟨v, he, h1, h2⟩ := hp.own hW (Nat.le_trans hle hb.size)
  exact ⟨v, he, h2, hb.trans (h1.mono hb.size)⟩

set_option maxHeartbeats 1000000 in
theorem messD (w : World) (g p n c : Nat) (A : Option Addr) (hr : Rd w g p A n c) (hp : p ≤ 700000) :
    Calls Try.prog 37 #[.pointer (some ⟨g, 0, none⟩)] w (ListD 60 3000 w.heap.size g p n c A w) := by
  have hglt : g < w.heap.size := (Array.getElem?_eq_some_iff.1 hr.blk).1
  have HR := Lib.hid hr
  clear hr
  go_enter Try.func37, Try.ntmps37
  go_wp2_with fail
  go_at_call 36
  refine (keysD w g p n c 8 A HR.out (by omega) (by omega)).mono ?_
  rintro e w1 ⟨v, l, p1, hl, hsh, hp1, rfl, ho1, hr1, hg1⟩
  have HO1 := Lib.hid ho1
  have HR1 := Lib.hid hr1
  have HG1 := Lib.hid hg1
  have HSH := Lib.hid hsh
  clear ho1 hr1 hg1 hsh HR
  go_wp2_with fail
  go_at_call 35
  refine (pick w1 g p1 n c A 5 HR1.out (by omega) (by omega)).mono ?_
  rintro e w2 ⟨x, rfl, hx0, hx1, hr2, hg2⟩
  obtain ⟨X, rfl⟩ := Int.eq_ofNat_of_zero_le hx0
  have HO2 := Lib.hid (HO1.out.grown hg2 hglt)
  have HR2 := Lib.hid hr2
  have HG2 := Lib.hid (HG1.out.trans hg2)
  have hsz2 := HG2.out.size
  have hglt2 : g < w2.heap.size := by omega
  clear hx0 hx1 hr2 hg2 HO1 HR1 HG1
  by_cases hX0 : X = 0
  · subst hX0
    go_wp2_with (at_builtin; refine app_str rfl (.tmp 11) (.tmp 12) rfl _ w.heap.size _ l rfl (HO2.out.alloc _) w2.heap.size 1 _ rfl (cell_new _ _ _) (by omega) (le_alloc hsz2 _) ?_; intro g3 cap w3 ho3 hg3)
    have HO3 := Lib.hid ho3
    have HG3 := Lib.hid (grown_own (HG2.out.trans (World.grownBy_alloc _ _ _)) (HO2.out.alloc _) (Nat.le_refl _) hg3)
    have HR3 := Lib.hid (own_row_below (HO2.out.alloc _) hg3 hglt (HR2.out.alloc _))
    clear ho3 hg3
    go_wp2
    go_ret
    exact ⟨_, _, p1 + 1, by simp; omega, HSH.out.snoc (by decide), by omega, rfl, HO3.out, HR3.out, HG3.out⟩
  · have hX0' : ((X : Int) == 0) = false := by rw [beq_eq_false_iff_ne]; omega
    by_cases hX1 : X = 1
    · subst hX1
      go_wp2_with (at_builtin; refine app_strs rfl (.tmp 16) (.tmp 17) rfl _ w.heap.size _ l rfl (HO2.out.alloc _) w2.heap.size 2 2 [⟨#[120]⟩, ⟨#[101]⟩] rfl rfl (by omega) (lits_cell w2 [⟨#[120]⟩, ⟨#[101]⟩] _) (by omega) (le_alloc hsz2 _) ?_; intro g3 cap w3 ho3 hg3)
      have HO3 := Lib.hid ho3
      have HG3 := Lib.hid (grown_own (HG2.out.trans (World.grownBy_alloc _ _ _)) (HO2.out.alloc _) (Nat.le_refl _) hg3)
      have HR3 := Lib.hid (own_row_below (HO2.out.alloc _) hg3 hglt (HR2.out.alloc _))
      clear ho3 hg3
      go_wp2
      go_ret
      exact ⟨_, _, p1 + 1, by simp; omega, HSH.out.append (by unfold Short; decide), by omega, rfl, HO3.out, HR3.out, HG3.out⟩
    · have hX1' : ((X : Int) == 1) = false := by rw [beq_eq_false_iff_ne]; omega
      by_cases hX2 : X = 2
      · subst hX2
        go_wp2_with fail
        go_at_call 35
        refine (pick w2 g (p1 + 1) n c A 2 HR2.out (by omega) (by omega)).mono ?_
        rintro e w3 ⟨y, rfl, hy0, hy1, hr3, hg3⟩
        obtain ⟨Y, rfl⟩ := Int.eq_ofNat_of_zero_le hy0
        have hY : Y < 2 := by omega
        have HO3 := Lib.hid (HO2.out.grown hg3 hglt)
        have HR3 := Lib.hid hr3
        have HG3 := Lib.hid (HG2.out.trans hg3)
        have hsz3 := HG3.out.size
        clear hy0 hy1 hr3 hg3 HO2 HR2 HG2
        go_wp2_with fail
        go_at_call 46
        have hmany := manyR ⟨#[100]⟩ (5 + Y) w3 (by show (5 + Y) * 1 ≤ 1000000; omega) (by decide) (by omega)
        have eY : ((5 + Y : Nat) : Int) = 5 + (Y : Int) := by omega
        rw [eY] at hmany
        refine hmany.mono ?_
        rintro e w4 ⟨t, ht, rfl, rfl⟩
        have hL : t.size ≤ 6 := by rw [ht]; show (5 + Y) * 1 ≤ 6; omega
        clear hmany eY ht
        go_wp2_with (at_builtin; refine app_str rfl (.tmp 21) (.tmp 26) rfl _ w.heap.size _ l rfl (HO3.out.alloc _) w3.heap.size 1 _ rfl (cell_new _ _ _) (by omega) (le_alloc hsz3 _) ?_; intro g4 cap w4 ho4 hg4)
        have HO4 := Lib.hid ho4
        have HG4 := Lib.hid (grown_own (HG3.out.trans (World.grownBy_alloc _ _ _)) (HO3.out.alloc _) (Nat.le_refl _) hg4)
        have HR4 := Lib.hid (own_row_below (HO3.out.alloc _) hg4 hglt (HR3.out.alloc _))
        clear ho4 hg4
        go_wp2
        go_ret
        exact ⟨_, _, p1 + 1 + 1, by simp; omega, HSH.out.snoc hL, by omega, rfl, HO4.out, HR4.out, HG4.out⟩
      · have hX2' : ((X : Int) == 2) = false := by rw [beq_eq_false_iff_ne]; omega
        by_cases hX3 : X = 3
        · subst hX3
          go_wp2_with fail
          go_loopw [3, 4] (fun keys iv wr => LoopM w g (p1 + 1) n c A keys iv wr) (fun _ iv _ => 30 - (intOf iv).toNat)
          case atStart => exact ⟨l, 0, by omega, rfl, by omega, HSH.out, HO2.out, HR2.out, HG2.out⟩
          case round =>
            obtain ⟨l2, k, hk, rfl, hl2, hsh2, ho3, hr3, hg3⟩ := hrel
            have HSH2 := Lib.hid hsh2
            have HO3 := Lib.hid ho3
            have HR3 := Lib.hid hr3
            have HG3 := Lib.hid hg3
            have hsz3 := hg3.size
            clear hsh2 ho3 hr3 hg3 HO2 HR2 HG2 HSH
            by_cases hlt : k < 30
            · obtain ⟨V, cc, hv, hc1, hm1, hs1⟩ := HO3.out.parts
              subst hv
              have HPUT := Lib.hid (put_from (V := V) (cc := cc) HO3.out hs1 (by omega) hsz3)
              obtain ⟨a, ha0, ha1, ha2, ha3⟩ := rem5 k
              obtain ⟨b, hb0, hb1, hb2, hb3, hb4⟩ := quo5 k hlt
              obtain ⟨sa, hsa, fa⟩ := getA a ha0
              obtain ⟨sb, hsb, fb⟩ := getB b hb0
              clear hs1 hc1 hm1
              have hltd : decide ((k : Int) < 30) = true := by simp; omega
              go_wp2
              go_region_with ((go_at_call 41; refine (HPUT.out _ _ ?_).mono ?_; (go_grown); rintro e w4 ⟨v4, rfl, ho4, hb4'⟩))
              all_goals
                have HO4 := Lib.hid ho4
                have HR4 := Lib.hid (HR3.out.below hb4' (Array.getElem?_eq_some_iff.1 HR3.out.blk).1)
                have HG4 := Lib.hid (grown_below HG3.out hb4')
                clear ho4 hb4' fa fb ha1 ha2 hb1 hb2
                go_wp2
                go_roundw
                case rel => exact ⟨put l2 _, k + 1, by omega, by go_num, by have := length_put l2 (⟨#[100]⟩ ++ sa ++ sb); omega, HSH2.out.put (by simp only [ByteArray.size_append]; show 1 + sa.size + sb.size ≤ 6; omega), HO4.out, HR4.out, HG4.out⟩
                case measure => simp [intOf]; omega
            · have hk30 : k = 30 := by omega
              subst hk30
              go_wp2
              go_ret
              exact ⟨_, l2, p1 + 1, by omega, HSH2.out, by omega, rfl, HO3.out, HR3.out, HG3.out⟩
        · have hX3' : ((X : Int) == 3) = false := by rw [beq_eq_false_iff_ne]; omega
          go_wp2
          go_ret
          exact ⟨_, l, p1 + 1, by omega, HSH.out, by omega, rfl, HO2.out, HR2.out, HG2.out⟩

end Go.Proofs.Ytipkhpijanhfiaa.W
