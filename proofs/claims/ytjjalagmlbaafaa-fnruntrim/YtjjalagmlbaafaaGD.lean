/-
  What the laws of trimming draw: a run, times, and whether it is at the bottom.
-/
import Derived.Test.YtjjalagmlbaafaaGC
import Derived.Test.YtjjalagmlbaafaaER
namespace Go.Proofs.Ytjjalagmlbaafaa.W
open Go.RowKit K R

theorem app_n {ops : Array Oper} {rest : List Oper} {o : Oper} {a : Act} {Q : Exit → Act → World → Prop} (hgd : o.guard = none) (s x : Operand)
    (ho : o.op = .call { callee := .builtin .append, args := #[s, x], argTypes := #[39, 39] })
    (w : World) (base : Nat) (v : Value) (l : List Int) (hs : a.eval s = v) (hown : OwnN w base v l) (b cc : Nat) (z : Int)
    (hx : a.eval x = .slice (some ⟨b, 0, none⟩) 1 cc) (c0 : w.cell? ⟨b, 0, none⟩ = some (.int .i64 z))
    (hl : l.length ≤ 1000000) (hbase : base ≤ w.heap.size)
    (h : ∀ v' w', OwnN w' base v' (l ++ [z]) → w.grownBy w' v.ownBlock → wpList Try.prog ops Q rest (a.put o.dst v') w') : wpList Try.prog ops Q (o :: rest) a w := by
  obtain ⟨i0, hi, hz0, hz1, hz2⟩ := info_parts int_info
  refine wpList_append_lies w hgd s x _ ho base _ i0 (.int .i64 0) 1 8 Try.underlying39 hi hz0 hz1 hz2 rfl (by decide) v l.length (intsC l) hs hown ⟨b, 0, none⟩ 1 cc [.int .i64 z] hx rfl ?_ ?_ (by decide) ?_ ?_ hbase _ rfl ?_
  · intro j u hj
    match j, hj with
    | 0, hj => simp at hj; subst hj; simpa [Addr.add] using c0
    | n + 1, hj => simp at hj
  · intro u hu
    simp at hu
    subst hu
    rfl
  · unfold maxLen; omega
  · omega
  · intro g cap w' h2 h3 h4 _
    refine h _ w' ?_ h3
    unfold OwnN intsC
    rw [List.length_append, List.length_singleton, List.map_append]
    exact h2
theorem emptyN (w : World) : OwnN (w.alloc (.cells #[] 3)) w.heap.size (.slice (some ⟨w.heap.size, 0, none⟩) 0 0) [] := World.ownsRow_made w #[] 0 (Nat.le_refl _) (by unfold maxLen; omega) rfl
theorem ownN_parts {w : World} {base : Nat} {v : Value} {l : List Int} (h : OwnN w base v l) : ∃ (A : Option Addr) (c : Nat), v = .slice A l.length c ∧ Nums w w.heap.size A l.length l := by
  rcases h.2 with ⟨rfl, h0⟩ | ⟨g, cap, cur, rfl, hb, hg, hc, hm, hs, ht⟩
  · have : l = [] := List.eq_nil_of_length_eq_zero h0
    subst this
    exact ⟨none, 0, rfl, ⟨rfl, fun i hi => absurd hi (Nat.not_lt_zero _)⟩⟩
  · exact ⟨_, cap, rfl, OwnN.nums h rfl⟩
/-- times are drawn, few of them -/
def TimesD (base g p n c : Nat) (A : Option Addr) (w : World) (e : Ending) (w' : World) : Prop :=
  ∃ (v : Value) (l : List Int) (p' : Nat), l.length ≤ 4 ∧ p' ≤ p + 10 ∧ e = .returned v ∧ OwnN w' base v l ∧ Rd w' g p' A n c ∧ w.grownBy w' (some g)

set_option maxHeartbeats 4000000 in
set_option maxRecDepth 100000 in
theorem timesDr (w : World) (g p n c : Nat) (A : Option Addr) (hr : Rd w g p A n c) (hp : p ≤ 900000) :
    Calls Try.prog 69 #[.pointer (some ⟨g, 0, none⟩)] w (TimesD w.heap.size g p n c A w) := by
  have hglt : g < w.heap.size := (Array.getElem?_eq_some_iff.1 hr.blk).1
  have HR := Lib.hid (hr.alloc (.cells #[] 3))
  clear hr
  go_enter Try.func69, Try.ntmps69
  go_wp2_with fail
  go_at_call 58
  refine Calls.mono (pick _ g p n c A 4 HR.out (by omega) (by omega)) ?_
  rintro e w1 ⟨x, rfl, hx0, hx1, hr1, hg1⟩
  obtain ⟨X, rfl⟩ := Int.eq_ofNat_of_zero_le hx0
  have hX : X ≤ 3 := by omega
  have HR1 := Lib.hid hr1
  have HO1 := Lib.hid (rowGrown (emptyN w) hg1 hglt)
  have HG1 := Lib.hid ((World.grownBy_alloc w (.cells #[] 3) (some g)).trans hg1)
  clear hx0 hx1 hr1 hg1
  go_wp2_with fail
  go_loopw [3, 4, 5] (fun s av nv wr => ∃ (v : Value) (l : List Int) (k q : Nat) (t : Int), nv = .int .i64 (k : Nat) ∧ s = v ∧ av = .int .i64 t ∧ 0 ≤ t ∧ t ≤ 1000000 - 1000 * (k : Int) ∧ l.length + k ≤ 3 ∧ q + k ≤ p + 4 ∧ OwnN wr w.heap.size v l ∧ Rd wr g q A n c ∧ w.grownBy wr (some g)) (fun _ _ nv _ => (intOf nv).toNat)
  case atStart => exact ⟨_, [], X, p + 1, 0, rfl, rfl, rfl, by omega, by omega, by show 0 + X ≤ 3; omega, by omega, HO1.out, HR1.out, HG1.out⟩
  case round =>
    obtain ⟨v, l, k, q, t, rfl, hv, rfl, ht0, ht1, hl, hq, ho, hr2, hg2⟩ := hrel
    have hv1 := hv.symm
    clear hv
    subst hv1
    have HO := Lib.hid ho
    have HR2 := Lib.hid hr2
    have HG2 := Lib.hid hg2
    clear ho hr2 hg2 HR1 HO1 HG1
    by_cases hk : 0 < k
    · go_wp2_with fail
      go_at_call 58
      refine Calls.mono (pick wr g q n c A 25 HR2.out (by omega) (by omega)) ?_
      rintro e w2 ⟨y, rfl, hy0, hy1, hr3, hg3⟩
      have hb0 : 0 ≤ (t + 1 + y) := by omega
      have hb1 : (t + 1 + y) ≤ 1000000 - 1000 * ((k - 1 : Nat) : Int) := by omega
      have HO3 := Lib.hid (rowGrown HO.out hg3 hglt)
      have HR3 := Lib.hid (hr3.alloc (.cells #[.int .i64 (t + 1 + y)] 3))
      have HG3 := Lib.hid (HG2.out.trans (hg3.trans (World.grownBy_alloc w2 (.cells #[.int .i64 (t + 1 + y)] 3) (some g))))
      have HOA := Lib.hid (show OwnN (w2.alloc (.cells #[.int .i64 (t + 1 + y)] 3)) w.heap.size v l from World.ownsRow.alloc HO3.out _)
      have hc0 : (w2.alloc (.cells #[.int .i64 (t + 1 + y)] 3)).cell? ⟨w2.heap.size, 0, none⟩ = some (.int .i64 (t + 1 + y)) := by rw [cell_of_row _ _ _ _ _ _ (heap_alloc_new _ _)]; rfl
      have hsz := HG3.out.size
      clear hr3 hg3 HO HO3
      go_wp2_with (at_builtin; refine app_n rfl (.tmp 18) (.tmp 20) rfl (w2.alloc (.cells #[.int .i64 (t + 1 + y)] 3)) w.heap.size v l rfl HOA.out w2.heap.size 1 (t + 1 + y) rfl hc0 (by omega) hsz ?_; intro vb wb ob gb; have OB := Lib.hid ob; have RB := Lib.hid (row_rd HOA.out gb hglt HR3.out); have GB := Lib.hid (grown_rowE HG3.out HOA.out (Nat.le_refl _) gb); clear ob gb)
      go_roundw
      case rel => exact ⟨_, l ++ [(t + 1 + y)], k - 1, q + 1, (t + 1 + y), by go_num, rfl, rfl, hb0, hb1, by rw [List.length_append, List.length_singleton]; omega, by omega, OB.out, RB.out, GB.out⟩
      case measure => simp [intOf]; omega
    · have hk0 : k = 0 := by omega
      subst hk0
      go_wp2
      go_ret
      exact ⟨_, l, q, by omega, by omega, rfl, HO.out, HR2.out, HG2.out⟩

/-- a run, times, and whether it is at the bottom -/
def TrimD (w : World) (e : Ending) (w' : World) : Prop :=
  ∃ (A : Option Addr) (c : Nat) (l : List En) (A2 : Option Addr) (ct : Nat) (times : List Int) (bot : Bool), times.length ≤ 4 ∧ e = .returned (.tuple #[.slice A l.length c, .slice A2 times.length ct, .bool bot]) ∧ Few w' A c l ∧ Nums w' w'.heap.size A2 times.length times ∧ Below w.heap.size w w'

set_option maxHeartbeats 2000000 in
theorem drawRunTrim (w : World) (A : Option Addr) (n c : Nat) (hb : Bytes w w.heap.size A n) (hnc : n ≤ c) (hc : c ≤ maxLen) :
    Calls Try.prog 32 #[.slice A n c] w (TrimD w) := by
  go_enter Try.func32, Try.ntmps32
  go_wp2_with fail
  go_at_call 56
  refine Calls.mono (openR w A n c hb hnc hc) ?_
  rintro e w1 ⟨A1, n1, c1, rfl, hr1, hb1⟩
  have hg1 : w.heap.size < w1.heap.size := (Array.getElem?_eq_some_iff.1 hr1.blk).1
  have HB1 := Lib.hid hb1
  have HR1 := Lib.hid hr1
  clear hb hr1 hb1
  go_wp2_with fail
  go_at_call 68
  refine Calls.mono (runDr w1 w.heap.size 0 n1 c1 14 A1 HR1.out (by omega) (by omega)) ?_
  intro e w2 h2
  obtain ⟨v, l, p2, hll, hsh, hp2, rfl, ho2, hr2, hg2⟩ := h2.off
  have HSH := Lib.hid hsh
  have HB2 := Lib.hid (below_g HB1.out hg2 (Nat.le_refl _))
  have HO2 := Lib.hid ho2
  have HR2 := Lib.hid hr2
  have hs2 := hg2.size
  clear h2 hsh ho2 hr2 hg2 HB1 HR1
  go_wp2_with fail
  go_at_call 58
  refine Calls.mono (pick w2 w.heap.size p2 n1 c1 A1 16 HR2.out (by omega) (by omega)) ?_
  rintro e w3 ⟨z, rfl, hz0, hz1, hr4, hg4⟩
  obtain ⟨Z, rfl⟩ := Int.eq_ofNat_of_zero_le hz0
  replace HO2 := Lib.hid (rowGrown HO2.out hg4 hg1)
  replace HR2 := Lib.hid hr4
  replace HB2 := Lib.hid (below_g HB2.out hg4 (Nat.le_refl _))
  have hs3 := hg4.size
  clear hr4 hg4
  by_cases hZ : Z = 0
  · subst hZ
    go_wp2_with fail
    go_at_call 57
    refine Calls.mono (offDr w3 w.heap.size (p2 + 1) n1 c1 A1 HR2.out (by omega)) ?_
    clear HO2 HSH hll
    rintro e w4 ⟨v, l, p3, hll, hsh, hp3, rfl, ho2, hr2, hg2⟩
    have HSH := Lib.hid hsh
    have HO2 := Lib.hid (ownE_base ho2 (show w1.heap.size ≤ w3.heap.size by omega))
    replace HR2 := Lib.hid hr2
    replace HB2 := Lib.hid (below_g HB2.out hg2 (Nat.le_refl _))
    have hs4' := hg2.size
    clear hsh ho2 hr2 hg2
    go_wp2_with fail
    go_at_call 69
    refine Calls.mono (timesDr w4 w.heap.size p3 n1 c1 A1 HR2.out (by omega)) ?_
    rintro e w5 ⟨tv, times, p4, htl, hp4, rfl, ho4, hr4, hg4⟩
    have hs4 := hg4.size
    have HO4 := Lib.hid ho4
    replace HO2 := Lib.hid (rowGrown HO2.out hg4 hg1)
    replace HR2 := Lib.hid hr4
    replace HB2 := Lib.hid (below_g HB2.out hg4 (Nat.le_refl _))
    clear ho4 hr4 hg4
    go_wp2_with fail
    go_at_call 58
    refine Calls.mono (pick w5 w.heap.size p4 n1 c1 A1 2 HR2.out (by omega) (by omega)) ?_
    rintro e w6 ⟨y, rfl, hy0, hy1, hr5, hg5⟩
    obtain ⟨A5, c5, hv5, HF5⟩ := few_of (rowGrown HO2.out hg5 hg1) (by omega) HSH.out
    subst hv5
    obtain ⟨A6, c6, hv6, HN6⟩ := ownN_parts (rowGrown HO4.out hg5 (by omega))
    subst hv6
    have HF := Lib.hid HF5
    have HN := Lib.hid HN6
    have HB5 := Lib.hid (below_g HB2.out hg5 (Nat.le_refl _))
    obtain ⟨q, hq⟩ : ∃ q : Bool, (y == 0) = q := ⟨_, rfl⟩
    clear hr5 hg5 HF5 HN6 HO4 HO2 HR2 HB2
    go_wp2
    go_ret3
    exact ⟨A5, c5, l, A6, c6, times, q, htl, rfl, HF.out, HN.out, HB5.out⟩
  · have hZ' : ((Z : Int) == 0) = false := by simp; omega
    go_wp2_with fail
    go_at_call 69
    refine Calls.mono (timesDr w3 w.heap.size (p2 + 1) n1 c1 A1 HR2.out (by omega)) ?_
    rintro e w5 ⟨tv, times, p4, htl, hp4, rfl, ho4, hr4, hg4⟩
    have hs4 := hg4.size
    have HO4 := Lib.hid ho4
    replace HO2 := Lib.hid (rowGrown HO2.out hg4 hg1)
    replace HR2 := Lib.hid hr4
    replace HB2 := Lib.hid (below_g HB2.out hg4 (Nat.le_refl _))
    clear ho4 hr4 hg4
    go_wp2_with fail
    go_at_call 58
    refine Calls.mono (pick w5 w.heap.size p4 n1 c1 A1 2 HR2.out (by omega) (by omega)) ?_
    rintro e w6 ⟨y, rfl, hy0, hy1, hr5, hg5⟩
    obtain ⟨A5, c5, hv5, HF5⟩ := few_of (rowGrown HO2.out hg5 hg1) (by omega) HSH.out
    subst hv5
    obtain ⟨A6, c6, hv6, HN6⟩ := ownN_parts (rowGrown HO4.out hg5 (by omega))
    subst hv6
    have HF := Lib.hid HF5
    have HN := Lib.hid HN6
    have HB5 := Lib.hid (below_g HB2.out hg5 (Nat.le_refl _))
    obtain ⟨q, hq⟩ : ∃ q : Bool, (y == 0) = q := ⟨_, rfl⟩
    clear hr5 hg5 HF5 HN6 HO4 HO2 HR2 HB2
    go_wp2
    go_ret3
    exact ⟨A5, c5, l, A6, c6, times, q, htl, rfl, HF.out, HN.out, HB5.out⟩

end Go.Proofs.Ytjjalagmlbaafaa.W
