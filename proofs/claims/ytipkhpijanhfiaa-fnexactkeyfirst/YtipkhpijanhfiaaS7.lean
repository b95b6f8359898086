/-
  Contracts of the exact laws' helpers for slices of strings: measuring, copying, marking, and looking for the marks. Each at every slice that can be read.
-/
import Derived.Test.YtipkhpijanhfiaaS4
import Derived.Test.YtipkhpijanhfiaaS6
import Derived.Test.YtipkhpijanhfiaaD2
namespace Go.Proofs.Ytipkhpijanhfiaa.W
open Go.RowKit K

/-- what is measured: what is left of L, or -1; if something is left all lengths are at most L -/
def Sized (L : Nat) (l : List ByteArray) (w : World) (e : Ending) (w' : World) : Prop :=
  ∃ x : Int, e = .returned (.int .i64 x) ∧ -1 ≤ x ∧ x ≤ (L : Int) ∧ (0 ≤ x → l.length ≤ L ∧ ∀ s ∈ l, s.size ≤ L) ∧ w = w'
/-- the first k are short -/
def upTo (l : List ByteArray) (L k : Nat) : Prop := ∀ i (h : i < l.length), i < k → l[i].size ≤ L

set_option maxHeartbeats 400000 in
theorem sizeS (w : World) (B n c L : Nat) (A : Option Addr) (l : List ByteArray) (hr : Strs w B A n l) (hn : n ≤ maxLen) (hf : Fit l) (hL : L ≤ 1073741824) :
    Calls Try.prog 29 #[.slice A n c, .int .i64 (L : Nat)] w (Sized L l w) := by
  have hlen := hr.len
  subst hlen
  unfold maxLen at hn
  have HR := Lib.hid hr
  have HF := Lib.hid hf
  clear hr hf
  by_cases hb : l.length ≤ L
  · go_enter Try.func29, Try.ntmps29
    go_wp2
    go_loop [1, 5] (fun lv i => ∃ k m : Nat, k ≤ l.length ∧ m ≤ L ∧ i = .int .i64 (k : Nat) ∧ lv = .int .i64 (m : Nat) ∧ upTo l L k) (fun _ i => l.length - (intOf i).toNat)
    case atStart => exact ⟨0, L - l.length, Nat.zero_le _, by omega, rfl, by go_num, fun i _ h => by omega⟩
    case round =>
      obtain ⟨k, m, hk, hm, rfl, rfl, hu⟩ := hrel
      have HU := Lib.hid hu
      clear hu
      by_cases hlt : k < l.length
      · obtain ⟨b, off, hA, hbb, hc⟩ := HR.out.cell k hlt
        subst hA
        have hfit := HF.out.get hlt
        unfold maxLen at hfit
        by_cases hs : l[k].size ≤ m
        · go_wp2
          go_round
          case rel =>
            refine ⟨k + 1, m - l[k].size, by omega, by omega, by go_num, by go_num, fun i hi hik => ?_⟩
            rcases (by omega : i < k ∨ i = k) with h1 | h1
            · exact HU.out i hi h1
            · subst h1; omega
          case measure => simp [intOf]; omega
        · go_wp2
          go_ret
          exact ⟨-1, rfl, by omega, by omega, fun h => by omega, rfl⟩
      · have hke : k = l.length := by omega
        subst hke
        go_wp2
        go_ret
        refine ⟨_, rfl, by omega, by omega, fun _ => ⟨hb, fun s hs => ?_⟩, rfl⟩
        obtain ⟨i, hi, rfl⟩ := List.mem_iff_getElem.mp hs
        exact HU.out i hi hi
  · go_enter Try.func29, Try.ntmps29
    go_wp2
    go_ret
    exact ⟨-1, rfl, by omega, by omega, fun h => by omega, rfl⟩

/-- a string stored into a slice of the call's own -/
theorem Own.set {w : World} {base g n c : Nat} {l : List ByteArray} (h : Own w base (.slice (some ⟨g, 0, none⟩) n c) l) (i : Nat) (s : ByteArray) :
    Own (w.setCell ⟨g, i, none⟩ (.string s)) base (.slice (some ⟨g, 0, none⟩) n c) (l.set i s) := by
  have hn : n = l.length := by
    obtain ⟨A', c', hv, _⟩ := h.parts
    injection hv
  rcases h.2 with ⟨hv, _⟩ | ⟨g', cap, cur, hv, hb, hg, hc, hm, hs, ht⟩
  · injection hv with e; cases e
  · injection hv with e1 e2 e3
    injection e1 with e1
    injection e1 with e1
    subst e1 e2 e3
    refine ⟨by simp, .inr ⟨g, c, cur.setIfInBounds i (.string s), ?_, hb, heap_setCell_same _ _ _ _ _ _ hg, by simpa using hc, hm, by simpa using hs, ?_⟩⟩
    · rw [List.length_set]
    · rw [Array.toList_setIfInBounds, List.length_set, List.take_set, ht, List.map_set]
theorem Own.free {w : World} {base g n c : Nat} {l : List ByteArray} (h : Own w base (.slice (some ⟨g, 0, none⟩) n c) l) (i : Nat) : w.frozen? ⟨g, i, none⟩ = false := by
  rcases h.2 with ⟨hv, _⟩ | ⟨g', cap, cur, hv, hb, hg, _⟩
  · injection hv with e; cases e
  · injection hv with e1
    injection e1 with e1
    injection e1 with e1
    subst e1
    exact frozen_of_row _ _ _ _ _ hg
theorem Own.get {w : World} {base g n c : Nat} {l : List ByteArray} (h : Own w base (.slice (some ⟨g, 0, none⟩) n c) l) (i : Nat) (hi : i < l.length) : w.cell? ⟨g, i, none⟩ = some (.string l[i]) := by
  obtain ⟨A', c', hv, _, _, hs⟩ := h.parts
  injection hv with e1
  obtain ⟨b, off, hA, _, hc⟩ := hs.cell i hi
  rw [← e1] at hA
  injection hA with hA
  injection hA with hA1 hA2
  subst hA1 hA2
  rwa [Nat.zero_add] at hc

/-- so many empty strings -/
def blanks (n : Nat) : List ByteArray := List.replicate n ⟨#[]⟩
theorem copy_step {l : List ByteArray} {k : Nat} (h : k < l.length) : (l.take k ++ blanks (l.length - k)).set k l[k] = l.take (k + 1) ++ blanks (l.length - (k + 1)) := by
  have hl : (l.take k).length = k := by rw [List.length_take]; omega
  have hb : blanks (l.length - k) = ⟨#[]⟩ :: blanks (l.length - (k + 1)) := by
    unfold blanks
    rw [show l.length - k = (l.length - (k + 1)) + 1 by omega, List.replicate_succ]
  rw [hb, List.set_append_right _ _ (by omega), hl, Nat.sub_self, List.set_cons_zero, take_get h, List.append_assoc]
  rfl

theorem made_own {w : World} {base n : Nat} {v : Value} (h : w.ownsRow base 9 1 v n (madeCells (Value.cells (.string ⟨#[]⟩)) (n * 1)).toList) : Own w base v (blanks n) := by
  unfold Own blanks
  rw [List.length_replicate, List.map_replicate, ← toList_madeCells_one]
  rw [Nat.mul_one] at h
  exact h

set_option maxHeartbeats 1000000 in
theorem copyS (w : World) (B n c : Nat) (A : Option Addr) (l : List ByteArray) (hr : Strs w B A n l) (hB : B ≤ w.heap.size) (hn : n ≤ 1073741824) :
    Calls Try.prog 30 #[.slice A n c] w (New w l) := by
  have hlen := hr.len
  subst hlen
  have HR := Lib.hid hr
  clear hr
  obtain ⟨i0, hi, hz0, hz1, hz2⟩ := info_parts str_info
  go_enter Try.func30, Try.ntmps30
  go_wp2_with (at_make; refine wpList_make_full w rfl (.tmp 6) (.tmp 6) 23 rfl w.heap.size 9 i0 (.string ⟨#[]⟩) 1 Try.underlying23 hi hz0 hz1 .i64 .i64 _ _ l.length rfl rfl rfl rfl (by rw [hz2]; omega) (by unfold maxLen; omega) (Nat.le_refl _) ?_; intro w1 ho1 hg1)
  have HO1 := Lib.hid (made_own ho1)
  have HB1 := Lib.hid ((Below.refl w.heap.size w).grown hg1 (Nat.le_refl _) (fun k e => by cases e))
  clear ho1 hg1 hi hz0 hz1 hz2
  go_wp2_with fail
  go_loopw [4] (fun i wr => ∃ k : Nat, k ≤ l.length ∧ i = .int .i64 (k : Nat) ∧ Own wr w.heap.size (.slice (some ⟨w.heap.size, 0, none⟩) l.length l.length) (l.take k ++ blanks (l.length - k)) ∧ Below w.heap.size w wr) (fun i _ => l.length - (intOf i).toNat)
  case atStart => exact ⟨0, Nat.zero_le _, rfl, by simpa using HO1.out, HB1.out⟩
  case round =>
    obtain ⟨k, hk, rfl, ho, hb⟩ := hrel
    have HO := Lib.hid ho
    have HB := Lib.hid hb
    clear ho hb HO1 HB1
    by_cases hlt : k < l.length
    · obtain ⟨b, off, hA, hbB, hc⟩ := (HR.out.below HB.out hB).cell k hlt
      subst hA
      have hcell := HO.out.get k (by simp [blanks]; omega)
      have hfz := HO.out.free k
      go_wp2
      go_roundw
      case rel => exact ⟨k + 1, by omega, by go_num, by rw [← copy_step hlt]; exact HO.out.set k l[k], HB.out.setCell (Nat.le_refl _) _⟩
      case measure => simp [intOf]; omega
    · have hke : k = l.length := by omega
      subst hke
      go_wp2
      go_ret
      exact ⟨_, rfl, by simpa [blanks] using HO.out, HB.out⟩

end Go.Proofs.Ytipkhpijanhfiaa.W
