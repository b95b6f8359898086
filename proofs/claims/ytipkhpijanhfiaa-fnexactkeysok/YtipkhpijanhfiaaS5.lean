/-
  Slices of strings that a call makes itself, and appending a string to one.
-/
import Derived.Test.YtipkhpijanhfiaaS2
import Derived.Deep.AppendLies
namespace Go.Proofs.Ytipkhpijanhfiaa.W
open Go.RowKit K

/-- the slice v holds the strings l, in a row of the call's own, from block 'base' on -/
def Own (w : World) (base : Nat) (v : Value) (l : List ByteArray) : Prop := w.ownsRow base 9 1 v l.length (l.map Value.string)

theorem Own.below {w w' : World} {base : Nat} {v : Value} {l : List ByteArray} (h : Own w base v l) (hb : Below w.heap.size w w') : Own w' base v l :=
  h.kept (row := none) ⟨hb.os, hb.tape, hb.output, hb.size, fun k hk _ => hb.block k hk⟩ (by cases v.ownBlock <;> simp)
theorem Own.base {w : World} {base base' : Nat} {v : Value} {l : List ByteArray} (h : Own w base v l) (hb : base' ≤ base) : Own w base' v l := by
  refine ⟨h.1, ?_⟩
  rcases h.2 with hn | ⟨g, cap, cur, hv, hbg, rest⟩
  · exact .inl hn
  · exact .inr ⟨g, cap, cur, hv, by omega, rest⟩
theorem Own.alloc {w : World} {base : Nat} {v : Value} {l : List ByteArray} (h : Own w base v l) (o : Obj) : Own (w.alloc o) base v l := World.ownsRow.alloc h o
theorem Own.parts {w : World} {base : Nat} {v : Value} {l : List ByteArray} (h : Own w base v l) :
    ∃ (A : Option Addr) (c : Nat), v = .slice A l.length c ∧ l.length ≤ c ∧ c ≤ maxLen ∧ Strs w w.heap.size A l.length l := by
  rcases h.2 with ⟨rfl, h0⟩ | ⟨g, cap, cur, rfl, hb, hg, hc, hm, hs, ht⟩
  · have : l = [] := List.eq_nil_of_length_eq_zero h0
    subst this
    exact ⟨none, 0, rfl, Nat.le_refl _, by unfold maxLen; omega, Strs.nil _ _ _⟩
  · refine ⟨_, cap, rfl, hc, hm, ⟨rfl, fun i hi => ?_⟩⟩
    refine ⟨g, 0, rfl, (Array.getElem?_eq_some_iff.1 hg).1, ?_⟩
    have := h.cells (g := g) rfl i (.string l[i]) (by rw [List.getElem?_map, List.getElem?_eq_getElem hi]; rfl)
    have hadd : (⟨g, 0, none⟩ : Addr).add i = ⟨g, 0 + i, none⟩ := by unfold Addr.add; split <;> simp_all
    rw [hadd] at this
    exact this
/-- an empty slice that a literal makes -/
theorem Own.empty (w : World) (base : Nat) (hb : base ≤ w.heap.size) : Own (w.alloc (.cells #[] 9)) base (.slice (some ⟨w.heap.size, 0, none⟩) 0 0) [] :=
  World.ownsRow_made w #[] 0 hb (by unfold maxLen; omega) rfl
theorem Own.none_ (w : World) (base : Nat) : Own w base (.slice none 0 0) [] := World.ownsRow_nil w base _ _

theorem str_info : (Try.prog.info? 9).map (fun i => (i.zero, i.size, i.bytes)) = some (some (.string ⟨#[]⟩), 1, 16) := by kernel_rfl

/-- what an append leaves of other memory: nothing below base has turned -/
theorem Below.app {B : Nat} {a w w' : World} {v : Value} {base : Nat} {l : List ByteArray} (h : Below B a w) (ho : Own w base v l) (hB : B ≤ base) (hg : w.grownBy w' v.ownBlock) (hs : B ≤ w.heap.size) : Below B a w' :=
  h.grown hg hs fun k hk => by
    have := (World.ownsRow.lt ho k hk).1
    omega

theorem cell_new (w : World) (v : Value) (t : TypeId) : (w.alloc (.cells #[v] t)).cell? ⟨w.heap.size, 0, none⟩ = some v := by
  rw [cell_of_row _ _ _ _ _ _ (heap_alloc_new w _)]; rfl
theorem le_alloc {B : Nat} {w : World} (h : B ≤ w.heap.size) (o : Obj) : B ≤ (w.alloc o).heap.size := Nat.le_trans h (by simp)
theorem take_get {l : List ByteArray} {k : Nat} (h : k < l.length) : l.take (k + 1) = l.take k ++ [l[k]] := by
  rw [List.take_add_one, List.getElem?_eq_getElem h]; rfl

/-- append of one string -/
theorem app_str {ops : Array Oper} {rest : List Oper} {o : Oper} {a : Act} {Q : Exit → Act → World → Prop} (hgd : o.guard = none) (s x : Operand)
    (ho : o.op = .call { callee := .builtin .append, args := #[s, x], argTypes := #[23, 23] })
    (w : World) (base : Nat) (v : Value) (l : List ByteArray) (hs : a.eval s = v) (hown : Own w base v l) (b cc : Nat) (k : ByteArray)
    (hx : a.eval x = .slice (some ⟨b, 0, none⟩) 1 cc) (hcell : w.cell? ⟨b, 0, none⟩ = some (.string k)) (hl : l.length ≤ 4398046511104) (hbase : base ≤ w.heap.size)
    (h : ∀ g cap w', Own w' base (.slice (some ⟨g, 0, none⟩) (l.length + 1) cap) (l ++ [k]) → w.grownBy w' v.ownBlock →
      wpList Try.prog ops Q rest (a.put o.dst (.slice (some ⟨g, 0, none⟩) (l.length + 1) cap)) w') : wpList Try.prog ops Q (o :: rest) a w := by
  obtain ⟨i0, hi, hz0, hz1, hz2⟩ := info_parts str_info
  refine wpList_append_lies w hgd s x _ ho base _ i0 (.string ⟨#[]⟩) 1 16 Try.underlying23 hi hz0 hz1 hz2 rfl (by decide) v l.length (l.map Value.string) hs hown ⟨b, 0, none⟩ 1 cc [.string k] hx rfl ?_ ?_ (by decide) ?_ ?_ hbase _ rfl ?_
  · intro j u hj
    match j, hj with
    | 0, hj => simp at hj; subst hj; simpa [Addr.add] using hcell
  · intro u hu; simp at hu; subst hu; rfl
  · unfold maxLen; omega
  · omega
  · intro g cap w' h2 h3 _ _
    refine h g cap w' ?_ h3
    unfold Own
    rw [List.length_append, List.map_append]
    exact h2

/-- a key put in its place: the slice itself, or a new one -/
def PutR (w : World) (v0 : Value) (l : List ByteArray) (s : ByteArray) (e : Ending) (w' : World) : Prop :=
  ∃ v', e = .returned v' ∧ Below w.heap.size w w' ∧ ((v' = v0 ∧ put l s = l) ∨ Own w' w.heap.size v' (put l s))

/-- at the loop's head -/
def LoopP (w : World) (l : List ByteArray) (s : ByteArray) (out done i : Value) (wr : World) : Prop :=
  ∃ k : Nat, k ≤ l.length ∧ i = .int .i64 (k : Nat) ∧ done = .bool (doneP (l.take k) s) ∧ Own wr w.heap.size out (accP (l.take k) s) ∧ Below w.heap.size w wr ∧ notIn l s k

set_option maxHeartbeats 1000000 in
theorem putS (w : World) (B n c : Nat) (A : Option Addr) (l : List ByteArray) (s : ByteArray) (hr : Strs w B A n l) (hB : B ≤ w.heap.size) (hn : n ≤ 4000000000000) :
    Calls Try.prog 41 #[.slice A n c, .string s] w (PutR w (.slice A n c) l s) := by
  have hlen := hr.len
  subst hlen
  have HR := Lib.hid hr
  clear hr
  go_enter Try.func41, Try.ntmps41
  go_wp2
  go_loopw [5, 6, 7] (fun out done i wr => LoopP w l s out done i wr) (fun _ _ i _ => l.length - (intOf i).toNat)
  case atStart => exact ⟨0, Nat.zero_le _, rfl, rfl, Own.empty w _ (Nat.le_refl _), (Below.refl _ _).alloc (Nat.le_refl _) _, notIn_zero l s⟩
  case round =>
    obtain ⟨k, hk, rfl, rfl, ho, hb, hnot⟩ := hrel
    have HO := Lib.hid ho
    have HB := Lib.hid hb
    have HN := Lib.hid hnot
    have hal := acc_len (l.take k) s
    rw [List.length_take] at hal
    have hsz := hb.size
    clear ho hb hnot
    by_cases hlt : k < l.length
    · obtain ⟨b, off, hA, hbB, hc⟩ := (HR.out.below HB.out hB).cell k hlt
      subst hA
      rcases Bool.eq_false_or_eq_true (l[k].toList == s.toList) with he | he
      · have HE := Lib.hid he
        go_wp2
        go_ret
        exact ⟨_, rfl, HB.out, .inl ⟨rfl, put_there (inL_at hlt HE.out)⟩⟩
      · have HE := Lib.hid he
        rcases Bool.eq_false_or_eq_true (doneP (l.take k) s) with hd | hd
        · have HD := Lib.hid hd
          go_wp2_with (at_builtin; refine app_str rfl (.tmp 36) (.tmp 41) rfl _ w.heap.size _ (accP (l.take k) s) rfl (HO.out.alloc _) wr.heap.size 1 _ rfl (cell_new _ _ _) (by omega) (le_alloc hsz _) ?_; intro g cap w1 ho1 hg1)
          have HO1 := Lib.hid ho1
          have HB1 := Lib.hid (Below.app (HB.out.alloc hsz _) (HO.out.alloc _) (Nat.le_refl _) hg1 (le_alloc hsz _))
          clear ho1 hg1
          go_wp2
          go_roundw
          case rel =>
            have h1 := acc_done (x := l[k]) HD.out
            rw [← take_get hlt] at h1
            exact ⟨k + 1, by omega, by go_num, by rw [h1.1], by rw [h1.2]; exact HO1.out, HB1.out, notIn_succ hlt HN.out HE.out⟩
          case measure => simp [intOf]; omega
        · have HD := Lib.hid hd
          rcases Bool.eq_false_or_eq_true (Op.bytesLess l[k].toList s.toList) with hl | hl
          · have HL := Lib.hid (lt_asymm (a := l[k]) (b := s) hl)
            go_wp2_with (at_builtin; refine app_str rfl (.tmp 36) (.tmp 41) rfl _ w.heap.size _ (accP (l.take k) s) rfl (HO.out.alloc _) wr.heap.size 1 _ rfl (cell_new _ _ _) (by omega) (le_alloc hsz _) ?_; intro g cap w1 ho1 hg1)
            have HO1 := Lib.hid ho1
            have HB1 := Lib.hid (Below.app (HB.out.alloc hsz _) (HO.out.alloc _) (Nat.le_refl _) hg1 (le_alloc hsz _))
            clear ho1 hg1
            go_wp2
            go_roundw
            case rel =>
              have h1 := acc_later (x := l[k]) HD.out HL.out
              rw [← take_get hlt] at h1
              exact ⟨k + 1, by omega, by go_num, by rw [h1.1], by rw [h1.2]; exact HO1.out, HB1.out, notIn_succ hlt HN.out HE.out⟩
            case measure => simp [intOf]; omega
          · have HL := Lib.hid (lt_of_not (a := l[k]) (b := s) hl (eqs_false.mp HE.out))
            go_wp2_with (first | (at_builtin; refine app_str rfl (.tmp 32) (.tmp 34) rfl _ w.heap.size _ (accP (l.take k) s) rfl (HO.out.alloc _) wr.heap.size 1 _ rfl (cell_new _ _ _) (by omega) (le_alloc hsz _) ?_; intro g cap w1 ho1 hg1; have HO1 := Lib.hid ho1; have HB1 := Lib.hid (Below.app (HB.out.alloc hsz _) (HO.out.alloc _) (Nat.le_refl _) hg1 (le_alloc hsz _)); have hsz1 := HB1.out.size; obtain ⟨b', off', hA', _, hc1⟩ := (HR.out.below HB1.out hB).cell k hlt; simp only [Option.some.injEq, Addr.mk.injEq, and_true] at hA'; obtain ⟨rfl, rfl⟩ := hA'; clear ho1 hg1) | (at_builtin; refine app_str rfl (.tmp 36) (.tmp 41) rfl _ w.heap.size _ (accP (l.take k) s ++ [s]) rfl (HO1.out.alloc _) w1.heap.size 1 _ rfl (cell_new _ _ _) (by simp only [List.length_append, List.length_singleton]; omega) (le_alloc hsz1 _) ?_; intro g2 cap2 w2 ho2 hg2))
            have HO2 := Lib.hid ho2
            have HB2 := Lib.hid (Below.app (HB1.out.alloc hsz1 _) (HO1.out.alloc _) (Nat.le_refl _) hg2 (le_alloc hsz1 _))
            clear ho2 hg2
            go_wp2
            go_roundw
            case rel =>
              have h1 := acc_now (x := l[k]) HD.out HL.out
              rw [← take_get hlt] at h1
              exact ⟨k + 1, by omega, by go_num, by rw [h1.1], by rw [h1.2]; have h2 := HO2.out; rw [List.length_append, List.length_singleton] at h2; exact h2, HB2.out, notIn_succ hlt HN.out HE.out⟩
            case measure => simp [intOf]; omega
    · have hke : k = l.length := by omega
      subst hke
      rw [List.take_of_length_le (Nat.le_refl _)] at HO hal
      have et : l.take l.length = l := List.take_of_length_le (Nat.le_refl _)
      rcases Bool.eq_false_or_eq_true (doneP l s) with hd | hd
      · have HD := Lib.hid hd
        go_wp2
        go_ret
        exact ⟨_, rfl, HB.out, .inr (by rw [← acc_end_done HN.out HD.out]; exact HO.out)⟩
      · have HD := Lib.hid hd
        go_wp2_with (at_builtin; refine app_str rfl (.tmp 45) (.tmp 47) rfl _ w.heap.size _ (accP l s) rfl (HO.out.alloc _) wr.heap.size 1 _ rfl (cell_new _ _ _) (by omega) (le_alloc hsz _) ?_; intro g cap w1 ho1 hg1)
        have HO1 := Lib.hid ho1
        have HB1 := Lib.hid (Below.app (HB.out.alloc hsz _) (HO.out.alloc _) (Nat.le_refl _) hg1 (le_alloc hsz _))
        clear ho1 hg1
        go_wp2
        go_ret
        exact ⟨_, rfl, HB1.out, .inr (by rw [← acc_end_not HN.out HD.out]; exact HO1.out)⟩

end Go.Proofs.Ytipkhpijanhfiaa.W
