/-
  Contracts of the reader of codes, out of which the laws draw their inputs: opening it, and drawing a number below a bound. What is drawn is left open but for its range.
  Contracts of the other drawing functions: opening a reader on a slice of bytes, drawing one of some strings, and a string many times. What is drawn is left open but for its length.
  Contracts of the functions that draw keys and key lists: short strings, short lists. What is drawn is left open but for its length.
  Contracts of the functions that draw key lists: short lists of short strings.
  The contract of the function that draws texts out of order: a short list of short strings.
  Appending a slice of strings to one of the call's own, and the contracts of the drawing functions of the key laws.
  Contracts of the exact laws' helpers for slices of strings: measuring, copying, marking, and looking for the marks. Each at every slice that can be read.
  Contracts of the exact laws' marks: the text of a number, marking a slice, and looking for the marks.
  The contract of the exact laws' look for marks: a slice that holds the marks holds them.
  What a law is told of a slice of strings that came in: it can be read, and each string is one that Go can hold.
-/
import Derived.Test.YtfhpkcamigkmdaaDoorProg
import Derived.Test.YtfhpkcamigkmdaaDoorZAA
import Derived.WalkKit
import Derived.WalkLawsBesides
import Derived.WalkSpells
import Derived.Lib.Hide
import Derived.Handy
import Derived.Deep.QuietTactic
import Derived.BigQuiet
import Derived.Deep.RegionWith
namespace Go.Proofs.YtfhpkcamigkmdaaDoor.W
open Go.RowKit

end Go.Proofs.YtfhpkcamigkmdaaDoor.W

namespace Go.Proofs.YtfhpkcamigkmdaaDoor.W
open Go.RowKit

end Go.Proofs.YtfhpkcamigkmdaaDoor.W

namespace Go.Proofs.YtfhpkcamigkmdaaDoor.W
open Go.RowKit K

end Go.Proofs.YtfhpkcamigkmdaaDoor.W

namespace Go.Proofs.YtfhpkcamigkmdaaDoor.W
open Go.RowKit K

end Go.Proofs.YtfhpkcamigkmdaaDoor.W

namespace Go.Proofs.YtfhpkcamigkmdaaDoor.W
open Go.RowKit K

end Go.Proofs.YtfhpkcamigkmdaaDoor.W

namespace Go.Proofs.YtfhpkcamigkmdaaDoor.W
open Go.RowKit K

/-- appending nothing changes nothing -/
theorem run_app_nil (w : World) (base : Nat) (v : Value) (l : List ByteArray) (hown : Own w base v l) (A2 : Option Addr) (c2 : Nat) (ty : TypeId) :
    (Builtin.append_ #[43, 43] ty #[v, .slice A2 0 c2]).run Tryd.prog w = .ok v w := by
  obtain ⟨i0, hi, hz0, hz1, hz2⟩ := info_parts str_info
  rcases hown.2 with ⟨rfl, _⟩ | ⟨g, cap, cur, rfl, _, _, hnc, _⟩
  · cases A2 <;> simp [Builtin.append_, run_underlying Tryd.underlying43, sizeOf, typeInfo, hi, Builtin.lenOf, Builtin.firstCells, loadCells, loadCellsFrom]
  · cases A2 <;> simp [Builtin.append_, run_underlying Tryd.underlying43, sizeOf, typeInfo, hi, Builtin.lenOf, Builtin.firstCells, hnc, storeCells, loadCells, loadCellsFrom]

/-- append of a slice that can be read, under a guard that says yes -/
theorem app_own_g {ops : Array Oper} {rest : List Oper} {o : Oper} {a : Act} {Q : Exit → Act → World → Prop} (hw : Region.wanted o (yielded ops a.tmps) = true) (s x : Operand)
    (ho : o.op = .call { callee := .builtin .append, args := #[s, x], argTypes := #[43, 43] })
    (w : World) (base : Nat) (v : Value) (l : List ByteArray) (hs : a.eval s = v) (hown : Own w base v l) (B m cc : Nat) (A2 : Option Addr) (l2 : List ByteArray)
    (hx : a.eval x = .slice A2 m cc) (hr : Strs w B A2 m l2) (hl : l.length + m ≤ 4398046511104) (hbase : base ≤ w.heap.size)
    (h : ∀ v' w', Own w' base v' (l ++ l2) → w.grownBy w' v.ownBlock → wpList Tryd.prog ops Q rest (a.put o.dst v') w') : wpList Tryd.prog ops Q (o :: rest) a w := by
  have hlen := hr.len
  refine wpList_step fun K hK => ?_
  rw [if_pos hw]
  by_cases hm : m = 0
  · subst hm
    have : l2 = [] := List.eq_nil_of_length_eq_zero hlen
    subst this
    have hrun := run_app_nil w base v l hown A2 cc o.type
    unfold Oper.wp execOp
    simp only [ho, resolve, invoke, builtin, Sem.run_bind, Sem.run_pure, Result.andThen_ok, List.map_toArray, List.map_cons, List.map_nil, hs, hx, hrun]
    exact hK _ _ (h v w (by rw [List.append_nil]; exact hown) (World.grownBy.refl w _))
  · obtain ⟨b, off, hA, _, _⟩ := hr.cell 0 (by omega)
    subst hA
    obtain ⟨i0, hi, hz0, hz1, hz2⟩ := info_parts str_info
    refine wp_append_lies w s x _ ho base _ i0 (.string ⟨#[]⟩) 1 16 Tryd.underlying43 hi hz0 hz1 hz2 rfl (by decide) v l.length (l.map Value.string) hs hown ⟨b, off, none⟩ m cc (l2.map Value.string) hx (by simp [hlen]) ?_ ?_ (by omega) ?_ ?_ hbase _ rfl ?_
    · intro j u hj
      rw [List.getElem?_map] at hj
      rcases Nat.lt_or_ge j l2.length with hlt | hge
      · rw [List.getElem?_eq_getElem hlt] at hj
        simp at hj
        subst hj
        obtain ⟨b', off', hA', _, hc⟩ := hr.cell j hlt
        simp only [Option.some.injEq, Addr.mk.injEq, and_true] at hA'
        obtain ⟨rfl, rfl⟩ := hA'
        have hadd : (⟨b, off, none⟩ : Addr).add j = ⟨b, off + j, none⟩ := by unfold Addr.add; split <;> simp_all
        rw [hadd]
        exact hc
      · rw [List.getElem?_eq_none hge] at hj; simp at hj
    · intro u hu
      obtain ⟨x, _, rfl⟩ := List.mem_map.mp hu
      rfl
    · unfold maxLen; omega
    · omega
    · intro g cap w' h2 h3 _ _
      refine hK _ _ (h _ w' ?_ h3)
      unfold Own
      rw [List.length_append, List.map_append, hlen]
      exact h2
/-- append of a slice that can be read -/
theorem app_own {ops : Array Oper} {rest : List Oper} {o : Oper} {a : Act} {Q : Exit → Act → World → Prop} (hgd : o.guard = none) (s x : Operand)
    (ho : o.op = .call { callee := .builtin .append, args := #[s, x], argTypes := #[43, 43] })
    (w : World) (base : Nat) (v : Value) (l : List ByteArray) (hs : a.eval s = v) (hown : Own w base v l) (B m cc : Nat) (A2 : Option Addr) (l2 : List ByteArray)
    (hx : a.eval x = .slice A2 m cc) (hr : Strs w B A2 m l2) (hl : l.length + m ≤ 4398046511104) (hbase : base ≤ w.heap.size)
    (h : ∀ v' w', Own w' base v' (l ++ l2) → w.grownBy w' v.ownBlock → wpList Tryd.prog ops Q rest (a.put o.dst v') w') : wpList Tryd.prog ops Q (o :: rest) a w :=
  app_own_g (by simp [Region.wanted, hgd]) s x ho w base v l hs hown B m cc A2 l2 hx hr hl hbase h

theorem one_strs (w : World) (s : ByteArray) : Strs (w.alloc (.cells #[.string s] 9)) (w.heap.size + 1) (some ⟨w.heap.size, 0, none⟩) 1 [s] :=
  ⟨rfl, fun i hi => ⟨w.heap.size, 0, rfl, by omega, by
    obtain rfl : i = 0 := by simpa using hi
    exact cell_new w _ _⟩⟩

end Go.Proofs.YtfhpkcamigkmdaaDoor.W

namespace Go.Proofs.YtfhpkcamigkmdaaDoor.W
open Go.RowKit K

/-- what is measured: what is left of L, or -1; if something is left all lengths are at most L -/
def Sized (L : Nat) (l : List ByteArray) (w : World) (e : Ending) (w' : World) : Prop :=
  ∃ x : Int, e = .returned (.int .i64 x) ∧ -1 ≤ x ∧ x ≤ (L : Int) ∧ (0 ≤ x → l.length ≤ L ∧ ∀ s ∈ l, s.size ≤ L) ∧ w = w'
/-- the first k are short -/
def upTo (l : List ByteArray) (L k : Nat) : Prop := ∀ i (h : i < l.length), i < k → l[i].size ≤ L

set_option maxHeartbeats 400000 in
theorem sizeS (w : World) (B n c L : Nat) (A : Option Addr) (l : List ByteArray) (hr : Strs w B A n l) (hn : n ≤ maxLen) (hf : Fit l) (hL : L ≤ 1073741824) :
    Calls Tryd.prog 72 #[.slice A n c, .int .i64 (L : Nat)] w (Sized L l w) := by
  have hlen := hr.len
  subst hlen
  unfold maxLen at hn
  have HR := Lib.hid hr
  have HF := Lib.hid hf
  clear hr hf
  by_cases hb : l.length ≤ L
  · go_enter Tryd.func72, Tryd.ntmps72
    go_wp2
    go_loop [1, 5] (fun lv i => ∃ k m : Nat, k ≤ l.length ∧ m ≤ L ∧ i = .int .i64 (k : Nat) ∧ lv = .int .i64 (m : Nat) ∧ upTo l L k) (fun _ i => l.length - (intOf i).toNat)
    case atStart => exact ⟨0, L - l.length, Nat.zero_le _, by omega, rfl, by go_num, fun i _ h => by omega⟩
    case round =>
      obtain ⟨k, m, hk, hm, rfl, rfl, hu⟩ := hrel
      have HU := Lib.hid hu
      clear hu
      by_cases hlt : k < l.length
      · obtain ⟨b, off, hA, hbb, hc⟩ := HR.out.cell k hlt
        subst hA
        have hfit := HF.out.get hlt
        unfold maxLen at hfit
        by_cases hs : l[k].size ≤ m
        · go_wp2
          go_round
          case rel =>
            refine ⟨k + 1, m - l[k].size, by omega, by omega, by go_num, by go_num, fun i hi hik => ?_⟩
            rcases (by omega : i < k ∨ i = k) with h1 | h1
            · exact HU.out i hi h1
            · subst h1; omega
          case measure => simp [intOf]; omega
        · go_wp2
          go_ret
          exact ⟨-1, rfl, by omega, by omega, fun h => by omega, rfl⟩
      · have hke : k = l.length := by omega
        subst hke
        go_wp2
        go_ret
        refine ⟨_, rfl, by omega, by omega, fun _ => ⟨hb, fun s hs => ?_⟩, rfl⟩
        obtain ⟨i, hi, rfl⟩ := List.mem_iff_getElem.mp hs
        exact HU.out i hi hi
  · go_enter Tryd.func72, Tryd.ntmps72
    go_wp2
    go_ret
    exact ⟨-1, rfl, by omega, by omega, fun h => by omega, rfl⟩

/-- a string stored into a slice of the call's own -/
theorem Own.set {w : World} {base g n c : Nat} {l : List ByteArray} (h : Own w base (.slice (some ⟨g, 0, none⟩) n c) l) (i : Nat) (s : ByteArray) :
    Own (w.setCell ⟨g, i, none⟩ (.string s)) base (.slice (some ⟨g, 0, none⟩) n c) (l.set i s) := by
  have hn : n = l.length := by
    obtain ⟨A', c', hv, _⟩ := h.parts
    injection hv
  rcases h.2 with ⟨hv, _⟩ | ⟨g', cap, cur, hv, hb, hg, hc, hm, hs, ht⟩
  · injection hv with e; cases e
  · injection hv with e1 e2 e3
    injection e1 with e1
    injection e1 with e1
    subst e1 e2 e3
    refine ⟨by simp, .inr ⟨g, c, cur.setIfInBounds i (.string s), ?_, hb, heap_setCell_same _ _ _ _ _ _ hg, by simpa using hc, hm, by simpa using hs, ?_⟩⟩
    · rw [List.length_set]
    · rw [Array.toList_setIfInBounds, List.length_set, List.take_set, ht, List.map_set]
theorem Own.free {w : World} {base g n c : Nat} {l : List ByteArray} (h : Own w base (.slice (some ⟨g, 0, none⟩) n c) l) (i : Nat) : w.frozen? ⟨g, i, none⟩ = false := by
  rcases h.2 with ⟨hv, _⟩ | ⟨g', cap, cur, hv, hb, hg, _⟩
  · injection hv with e; cases e
  · injection hv with e1
    injection e1 with e1
    injection e1 with e1
    subst e1
    exact frozen_of_row _ _ _ _ _ hg
theorem Own.get {w : World} {base g n c : Nat} {l : List ByteArray} (h : Own w base (.slice (some ⟨g, 0, none⟩) n c) l) (i : Nat) (hi : i < l.length) : w.cell? ⟨g, i, none⟩ = some (.string l[i]) := by
  obtain ⟨A', c', hv, _, _, hs⟩ := h.parts
  injection hv with e1
  obtain ⟨b, off, hA, _, hc⟩ := hs.cell i hi
  rw [← e1] at hA
  injection hA with hA
  injection hA with hA1 hA2
  subst hA1 hA2
  rwa [Nat.zero_add] at hc

/-- so many empty strings -/
def blanks (n : Nat) : List ByteArray := List.replicate n ⟨#[]⟩
theorem copy_step {l : List ByteArray} {k : Nat} (h : k < l.length) : (l.take k ++ blanks (l.length - k)).set k l[k] = l.take (k + 1) ++ blanks (l.length - (k + 1)) := by
  have hl : (l.take k).length = k := by rw [List.length_take]; omega
  have hb : blanks (l.length - k) = ⟨#[]⟩ :: blanks (l.length - (k + 1)) := by
    unfold blanks
    rw [show l.length - k = (l.length - (k + 1)) + 1 by omega, List.replicate_succ]
  rw [hb, List.set_append_right _ _ (by omega), hl, Nat.sub_self, List.set_cons_zero, take_get h, List.append_assoc]
  rfl

theorem made_own {w : World} {base n : Nat} {v : Value} (h : w.ownsRow base 9 1 v n (madeCells (Value.cells (.string ⟨#[]⟩)) (n * 1)).toList) : Own w base v (blanks n) := by
  unfold Own blanks
  rw [List.length_replicate, List.map_replicate, ← toList_madeCells_one]
  rw [Nat.mul_one] at h
  exact h

set_option maxHeartbeats 1000000 in
theorem copyS (w : World) (B n c : Nat) (A : Option Addr) (l : List ByteArray) (hr : Strs w B A n l) (hB : B ≤ w.heap.size) (hn : n ≤ 1073741824) :
    Calls Tryd.prog 76 #[.slice A n c] w (New w l) := by
  have hlen := hr.len
  subst hlen
  have HR := Lib.hid hr
  clear hr
  obtain ⟨i0, hi, hz0, hz1, hz2⟩ := info_parts str_info
  go_enter Tryd.func76, Tryd.ntmps76
  go_wp2_with (at_make; refine wpList_make_full w rfl (.tmp 6) (.tmp 6) 43 rfl w.heap.size 9 i0 (.string ⟨#[]⟩) 1 Tryd.underlying43 hi hz0 hz1 .i64 .i64 _ _ l.length rfl rfl rfl rfl (by rw [hz2]; omega) (by unfold maxLen; omega) (Nat.le_refl _) ?_; intro w1 ho1 hg1)
  have HO1 := Lib.hid (made_own ho1)
  have HB1 := Lib.hid ((Below.refl w.heap.size w).grown hg1 (Nat.le_refl _) (fun k e => by cases e))
  clear ho1 hg1 hi hz0 hz1 hz2
  go_wp2_with fail
  go_loopw [4] (fun i wr => ∃ k : Nat, k ≤ l.length ∧ i = .int .i64 (k : Nat) ∧ Own wr w.heap.size (.slice (some ⟨w.heap.size, 0, none⟩) l.length l.length) (l.take k ++ blanks (l.length - k)) ∧ Below w.heap.size w wr) (fun i _ => l.length - (intOf i).toNat)
  case atStart => exact ⟨0, Nat.zero_le _, rfl, by simpa using HO1.out, HB1.out⟩
  case round =>
    obtain ⟨k, hk, rfl, ho, hb⟩ := hrel
    have HO := Lib.hid ho
    have HB := Lib.hid hb
    clear ho hb HO1 HB1
    by_cases hlt : k < l.length
    · obtain ⟨b, off, hA, hbB, hc⟩ := (HR.out.below HB.out hB).cell k hlt
      subst hA
      have hcell := HO.out.get k (by simp [blanks]; omega)
      have hfz := HO.out.free k
      go_wp2
      go_roundw
      case rel => exact ⟨k + 1, by omega, by go_num, by rw [← copy_step hlt]; exact HO.out.set k l[k], HB.out.setCell (Nat.le_refl _) _⟩
      case measure => simp [intOf]; omega
    · have hke : k = l.length := by omega
      subst hke
      go_wp2
      go_ret
      exact ⟨_, rfl, by simpa [blanks] using HO.out, HB.out⟩

end Go.Proofs.YtfhpkcamigkmdaaDoor.W

namespace Go.Proofs.YtfhpkcamigkmdaaDoor.W
open Go.RowKit K

theorem grown_set {a w : World} {g : Nat} (h : a.grownBy w (some g)) (i : Nat) (u : Value) : a.grownBy (w.setCell ⟨g, i, none⟩ u) (some g) :=
  ⟨h.os, h.tape, h.output, by simpa [World.setCell] using h.size, fun k hk hn => (heap_setCell_other _ _ _ _ (fun e => hn (by rw [e]))).trans (h.block k hk hn)⟩

end Go.Proofs.YtfhpkcamigkmdaaDoor.W

namespace Go.Proofs.YtfhpkcamigkmdaaDoor.W
open Go.RowKit K

end Go.Proofs.YtfhpkcamigkmdaaDoor.W

namespace Go.Proofs.YtfhpkcamigkmdaaDoor.W
open Go.RowKit K

def IsStrs (w : World) (A : Option Addr) (n c : Nat) (l : List ByteArray) : Prop := Strs w w.heap.size A n l ∧ n ≤ c ∧ c ≤ maxLen ∧ Fit l
theorem isStrs_of {w : World} {a : Addr} {len cap : Nat} {ss : List ByteArray} (hl : len ≤ cap) (hm : cap ≤ maxLen) (hz : len ≤ ss.length)
    (hcell : ∀ i, i < ss.length → w.cell? (a.add i) = some (.string (ss.getD i ByteArray.empty))) (hws : ∀ s ∈ ss, s.size ≤ maxLen) : IsStrs w (some a) len cap (ss.take len) := by
  refine ⟨⟨by rw [List.length_take]; omega, fun i hi => ?_⟩, hl, hm, fun s hs => hws s (List.mem_of_mem_take hs)⟩
  rw [List.length_take] at hi
  obtain ⟨b, off, spot⟩ := a
  have hspot : spot = none := by
    have hc0 := hcell 0 (by omega)
    simpa [Addr.add] using World.cell?_spot hc0
  subst hspot
  have hc := hcell i (by omega)
  rw [List.getD_eq_getElem?_getD, List.getElem?_eq_getElem (by omega)] at hc
  have hc' : w.cell? ⟨b, off + i, none⟩ = some (.string ss[i]) := by
    by_cases hi0 : i = 0
    · subst hi0; simpa [Addr.add] using hc
    · simpa [Addr.add, hi0] using hc
  exact ⟨b, off, rfl, block_lt_of_cell hc', by rw [List.getElem_take]; exact hc'⟩

end Go.Proofs.YtfhpkcamigkmdaaDoor.W
