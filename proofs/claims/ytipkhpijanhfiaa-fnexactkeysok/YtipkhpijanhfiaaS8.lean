/-
  Contracts of the exact laws' marks: the text of a number, marking a slice, and looking for the marks.
-/
import Derived.Test.YtipkhpijanhfiaaS7
namespace Go.Proofs.Ytipkhpijanhfiaa.W
open Go.RowKit K

/-- the decimals of a number -/
def digs (k : Nat) : List UInt8 := if _h : k = 0 then [] else digs (k / 10) ++ [UInt8.ofNat (48 + k % 10)]
termination_by k
decreasing_by omega
theorem digs_zero : digs 0 = [] := by unfold digs; simp
theorem digs_pos {k : Nat} (h : 0 < k) : digs k = digs (k / 10) ++ [UInt8.ofNat (48 + k % 10)] := by
  conv => lhs; unfold digs
  rw [dif_neg (by omega)]
/-- the last decimal, as a string -/
def dch (k : Nat) : ByteArray := ⟨#[UInt8.ofNat (48 + k % 10)]⟩
def digB (k : Nat) : ByteArray := ⟨(digs k).toArray⟩
/-- the text that marks a number -/
def markB (k : Nat) : ByteArray := ⟨#[109]⟩ ++ digB k
theorem digB_zero : digB 0 = ⟨#[]⟩ := by unfold digB; rw [digs_zero]
theorem digB_pos {k : Nat} (h : 0 < k) : digB k = digB (k / 10) ++ dch k := by
  unfold digB dch
  rw [digs_pos h]
  apply ba_ext
  rw [ByteArray.toList_eq, ByteArray.toList_eq]
  simp
theorem app_assoc (a b c : ByteArray) : a ++ b ++ c = a ++ (b ++ c) := ByteArray.append_assoc
theorem nil_app (a : ByteArray) : (⟨#[]⟩ : ByteArray) ++ a = a := by
  apply ba_ext
  rw [ByteArray.toList_eq, ByteArray.toList_eq]
  simp

/-- a slice of one byte as a string -/
theorem conv1 (W : World) (d : Nat) : (convert 22 9 (.slice (some ⟨W.heap.size, 0, none⟩) 1 1)).run Try.prog (W.alloc (.cells #[.int .u8 (d : Nat)] 5)) =
    .ok (.string ⟨#[UInt8.ofNat d]⟩) (W.alloc (.cells #[.int .u8 (d : Nat)] 5)) := by
  rw [run_convert_bytes_string _ _ _ _ _ _ _ Try.underlying22 Try.underlying5 Try.underlying9]
  rw [run_bytesToString (P := Try.prog) _ ⟨W.heap.size, 0, none⟩ 1 1 [(d : Int)] ?_]
  · rfl
  · have hc := cell_new W (.int .u8 (d : Nat)) 5
    simp [loadCells, loadCellsFrom, Addr.add, hc]

set_option maxHeartbeats 1000000 in
theorem markT (K0 : Nat) (w : World) (h0 : 0 < K0) (h1 : K0 ≤ 1073741824) :
    Calls Try.prog 45 #[.int .i64 (K0 : Nat)] w fun e w' => e = .returned (.string (markB K0)) ∧ Below w.heap.size w w' := by
  go_enter Try.func45, Try.ntmps45
  go_wp2
  go_loopw [0, 3] (fun kv ov wr => ∃ (m : Nat) (o : ByteArray), kv = .int .i64 (m : Nat) ∧ ov = .string o ∧ m ≤ K0 ∧ o.size + m ≤ K0 ∧ Hid (digB K0 = digB m ++ o) ∧ Below w.heap.size w wr) (fun kv _ _ => (intOf kv).toNat)
  case atStart => exact ⟨K0, _, rfl, rfl, Nat.le_refl _, by show 0 + K0 ≤ K0; omega, Lib.hid (by apply ba_ext; rw [ByteArray.toList_eq, ByteArray.toList_eq]; simp), Below.refl _ _⟩
  case round =>
    obtain ⟨m, o, rfl, rfl, hm, ho, hd, hb⟩ := hrel
    have HB := Lib.hid hb
    clear hb
    by_cases hp : 0 < m
    · have hcv := conv1 wr (48 + m % 10)
      rw [show ((48 + m % 10 : Nat) : Int) = 48 + (m : Int) % 10 by omega] at hcv
      have hcw : (convert 22 9 (.slice (some ⟨wr.heap.size, 0, none⟩) 1 1)).run Try.prog (wr.alloc (.cells #[.int .u8 (48 + (m : Int) % 10)] 5)) = .ok (.string (dch m)) (wr.alloc (.cells #[.int .u8 (48 + (m : Int) % 10)] 5)) := hcv
      clear hcv
      have hds : (dch m).size = 1 := rfl
      go_wp2
      go_roundw
      case rel =>
        refine ⟨m / 10, dch m ++ o, by go_num, rfl, by omega, ?_, Lib.hid ?_, HB.out.alloc HB.out.size _⟩
        · rw [ByteArray.size_append]; show 1 + o.size + m / 10 ≤ K0; omega
        · rw [hd.out, digB_pos hp, app_assoc]
      case measure => simp [intOf]; omega
    · have hm0 : m = 0 := by omega
      subst hm0
      go_wp2
      go_ret
      exact ⟨by rw [markB, hd.out, digB_zero, nil_app]; rfl, HB.out⟩

/-- the marks from a number on -/
def marks (k n : Nat) : List ByteArray := (List.range n).map fun i => markB (k + i)
theorem marks_len (k n : Nat) : (marks k n).length = n := by simp [marks]
theorem marks_get (k n i : Nat) (h : i < (marks k n).length) : (marks k n)[i] = markB (k + i) := by simp [marks]
theorem mark_step {l : List ByteArray} {K0 k : Nat} (h : k < l.length) : (marks K0 k ++ l.drop k).set k (markB (K0 + k)) = marks K0 (k + 1) ++ l.drop (k + 1) := by
  rw [List.set_append_right _ _ (by rw [marks_len]; exact Nat.le_refl _), marks_len, Nat.sub_self, List.drop_eq_getElem_cons h, List.set_cons_zero]
  unfold marks
  rw [List.range_succ, List.map_append, List.append_assoc]
  rfl
theorem Own.block {w : World} {base n c : Nat} {A : Option Addr} {l : List ByteArray} (h : Own w base (.slice A n c) l) (hp : 0 < l.length) : ∃ g, A = some ⟨g, 0, none⟩ ∧ base ≤ g ∧ g < w.heap.size := by
  rcases h.2 with ⟨_, h0⟩ | ⟨g, cap, cur, hv, hb, hg, _⟩
  · omega
  · injection hv with e
    exact ⟨g, e, hb, (Array.getElem?_eq_some_iff.1 hg).1⟩

/-- a slice of the call's own has been marked; nothing else has turned -/
def Marked (base K0 n : Nat) (v : Value) (w : World) (e : Ending) (w' : World) : Prop :=
  e = .returned (.int .i64 ((K0 + n : Nat) : Int)) ∧ Own w' base v (marks K0 n) ∧ w.grownBy w' v.ownBlock

theorem grown_below_row {a w w' : World} {r : Option Nat} (h : a.grownBy w r) (hb : Below w.heap.size w w') : a.grownBy w' r :=
  ⟨hb.os.trans h.os, hb.tape.trans h.tape, hb.output.trans h.output, Nat.le_trans h.size hb.size, fun k hk hn => (hb.block k (Nat.lt_of_lt_of_le hk h.size)).trans (h.block k hk hn)⟩
theorem grown_set {a w : World} {g : Nat} (h : a.grownBy w (some g)) (i : Nat) (u : Value) : a.grownBy (w.setCell ⟨g, i, none⟩ u) (some g) :=
  ⟨h.os, h.tape, h.output, by simpa [World.setCell] using h.size, fun k hk hn => (heap_setCell_other _ _ _ _ (fun e => hn (by rw [e]))).trans (h.block k hk hn)⟩

set_option maxHeartbeats 1000000 in
theorem markS (w : World) (base n c K0 : Nat) (A : Option Addr) (l : List ByteArray) (ho : Own w base (.slice A n c) l) (h0 : 0 < K0) (h1 : K0 + n ≤ 1073741824) :
    Calls Try.prog 32 #[.slice A n c, .int .i64 (K0 : Nat)] w (Marked base K0 n (.slice A n c) w) := by
  have hlen : n = l.length := by
    obtain ⟨A', c', hv, _⟩ := ho.parts
    injection hv
  subst hlen
  have HO := Lib.hid ho
  clear ho
  go_enter Try.func32, Try.ntmps32
  go_wp2
  go_loopw [1, 5] (fun kv i wr => ∃ k : Nat, k ≤ l.length ∧ i = .int .i64 (k : Nat) ∧ kv = .int .i64 ((K0 + k : Nat) : Int) ∧ Own wr base (.slice A l.length c) (marks K0 k ++ l.drop k) ∧ w.grownBy wr (Value.slice A l.length c).ownBlock) (fun _ i _ => l.length - (intOf i).toNat)
  case atStart => exact ⟨0, Nat.zero_le _, rfl, rfl, by simpa [marks] using HO.out, World.grownBy.refl _ _⟩
  case round =>
    obtain ⟨k, hk, rfl, rfl, hor, hgr⟩ := hrel
    have HOR := Lib.hid hor
    have HGR := Lib.hid hgr
    clear hor hgr
    by_cases hlt : k < l.length
    · obtain ⟨g, hA, hbg, hgl⟩ := HOR.out.block (by simp; omega)
      subst hA
      go_wp2_with fail
      go_at_call 45
      have hmt := markT (K0 + k) wr (by omega) (by omega)
      rw [show ((K0 + k : Nat) : Int) = (K0 : Int) + (k : Int) by omega] at hmt
      refine hmt.mono ?_
      rintro e w2 ⟨rfl, hb2⟩
      have HO2 := Lib.hid (HOR.out.below hb2)
      have HG2 := Lib.hid (grown_below_row HGR.out hb2)
      have hcell := HO2.out.get k (by simp [marks]; omega)
      have hfz := HO2.out.free k
      clear hmt hb2
      go_wp2
      go_roundw
      case rel => exact ⟨k + 1, by omega, by go_num, by go_num, by rw [← mark_step hlt]; exact HO2.out.set k (markB (K0 + k)), grown_set HG2.out _ _⟩
      case measure => simp [intOf]; omega
    · have hke : k = l.length := by omega
      subst hke
      go_wp2
      go_ret
      refine ⟨ret_int (by omega), by simpa using HOR.out, HGR.out⟩

end Go.Proofs.Ytipkhpijanhfiaa.W
