/-
  Slices of numbers: copied, compared, marked.
-/
import Derived.Test.YtjjalagmlbaafaaEM
import Derived.Test.YtjjalagmlbaafaaEU
namespace Go.Proofs.Ytjjalagmlbaafaa.W
open Go.RowKit K R

def intsC (l : List Int) : List Value := l.map (Value.int .i64)
/-- the slice v holds the numbers l, in a row of the call's own, from block 'base' on -/
abbrev OwnN (w : World) (base : Nat) (v : Value) (l : List Int) : Prop := w.ownsRow base 3 1 v l.length (intsC l)
theorem int_info : (Try.prog.info? 3).map (fun i => (i.zero, i.size, i.bytes)) = some (some (.int .i64 0), 1, 8) := by kernel_rfl
theorem intsC_get {l : List Int} {i : Nat} (h : i < l.length) : (intsC l)[i]? = some (.int .i64 l[i]) := by simp [intsC, h]
theorem intsC_set (l : List Int) (i : Nat) (x : Int) : (intsC l).set i (.int .i64 x) = intsC (l.set i x) := by simp [intsC, List.map_set]
theorem made_N {w : World} {base n : Nat} {v : Value} (h : w.ownsRow base 3 1 v n (madeCells (Value.cells (.int .i64 0)) (n * 1)).toList) : OwnN w base v (List.replicate n 0) := by
  unfold OwnN intsC
  rw [List.length_replicate, List.map_replicate, ← toList_madeCells_one]
  rw [Nat.mul_one] at h
  exact h
theorem OwnN.nums {w : World} {base g n c : Nat} {l : List Int} (h : w.ownsRow base 3 1 (.slice (some ⟨g, 0, none⟩) n c) n (intsC l)) (hn : l.length = n) : Nums w w.heap.size (some ⟨g, 0, none⟩) n l :=
  ⟨hn, fun i hi => ⟨g, 0, rfl, (World.ownsRow.lt h g rfl).2, by rw [Nat.zero_add]; exact rowGet h (intsC_get hi)⟩⟩
theorem Nums.more {w : World} {B B' n : Nat} {A : Option Addr} {l : List Int} (h : Nums w B A n l) (hB : B ≤ B') : Nums w B' A n l :=
  ⟨h.len, fun i hi => by
    obtain ⟨b, off, hA, hlt, c0⟩ := h.cell i hi
    exact ⟨b, off, hA, Nat.lt_of_lt_of_le hlt hB, c0⟩⟩
theorem copyN_step {l : List Int} {k : Nat} (h : k < l.length) : (l.take k ++ List.replicate (l.length - k) 0).set k l[k] = l.take (k + 1) ++ List.replicate (l.length - (k + 1)) 0 := by
  have hl : (l.take k).length = k := by rw [List.length_take]; omega
  rw [show l.length - k = (l.length - (k + 1)) + 1 by omega, List.replicate_succ, List.set_append_right _ _ (by omega), hl, Nat.sub_self, List.set_cons_zero, List.take_succ_eq_append_getElem h, List.append_assoc]
  rfl
/-- a new slice of numbers -/
def NewN (w : World) (l : List Int) (e : Ending) (w' : World) : Prop := ∃ g c, e = .returned (.slice (some ⟨g, 0, none⟩) l.length c) ∧ w'.ownsRow w.heap.size 3 1 (.slice (some ⟨g, 0, none⟩) l.length c) l.length (intsC l) ∧ Below w.heap.size w w'

set_option maxHeartbeats 1000000 in
theorem copyN (w : World) (B n c : Nat) (A : Option Addr) (l : List Int) (hr : Nums w B A n l) (hB : B ≤ w.heap.size) (hn : n ≤ 1048576) :
    Calls Try.prog 50 #[.slice A n c] w (NewN w l) := by
  have hlen := hr.len
  subst hlen
  have HR := Lib.hid hr
  clear hr
  obtain ⟨i0, hi, hz0, hz1, hz2⟩ := info_parts int_info
  go_enter Try.func50, Try.ntmps50
  go_wp2_with (at_make; refine wpList_make_full w rfl (.tmp 6) (.tmp 6) 39 rfl w.heap.size 3 i0 (.int .i64 0) 1 Try.underlying39 hi hz0 hz1 .i64 .i64 _ _ l.length rfl rfl rfl rfl (by rw [hz2]; omega) (by unfold maxLen; omega) (Nat.le_refl _) ?_; intro w1 ho1 hg1)
  have HO1 := Lib.hid (made_N ho1)
  have HB1 := Lib.hid ((Below.refl w.heap.size w).grown hg1 (Nat.le_refl _) (fun k e => by cases e))
  clear ho1 hg1 hi hz0 hz1 hz2
  go_wp2_with fail
  go_loopw [4] (fun i wr => ∃ k : Nat, k ≤ l.length ∧ i = .int .i64 (k : Nat) ∧ wr.ownsRow w.heap.size 3 1 (.slice (some ⟨w.heap.size, 0, none⟩) l.length l.length) l.length (intsC (l.take k ++ List.replicate (l.length - k) 0)) ∧ Below w.heap.size w wr) (fun i _ => l.length - (intOf i).toNat)
  case atStart => exact ⟨0, Nat.zero_le _, rfl, by simpa [OwnN] using HO1.out, HB1.out⟩
  case round =>
    obtain ⟨k, hk, rfl, ho, hb⟩ := hrel
    have HO := Lib.hid ho
    have HB := Lib.hid hb
    clear ho hb HO1 HB1
    by_cases hlt : k < l.length
    · obtain ⟨kb, ko, hA, hbB, d0⟩ := (HR.out.below HB.out hB).cell k hlt
      subst hA
      obtain ⟨x0, h0⟩ : ∃ y, y = l[k] := ⟨_, rfl⟩
      have hst := copyN_step hlt
      rw [← h0] at d0 hst
      have HST := Lib.hid hst
      have hll : k < (l.take k ++ List.replicate (l.length - k) 0).length := by rw [List.length_append, List.length_take, List.length_replicate]; omega
      have q0 := rowGet HO.out (i := k) (intsC_get hll)
      have f0 := rowFree HO.out k
      have z0 : (0 : Int) ≤ (k : Int) := by omega
      have z1 : (k : Int) < (l.length : Int) := by omega
      clear h0 hst
      go_wp2
      go_roundw
      case rel => exact ⟨k + 1, by omega, by go_num, by rw [← HST.out, ← intsC_set]; exact rowSet HO.out k _, HB.out.setCell (Nat.le_refl _) _⟩
      case measure => simp [intOf]; omega
    · have hke : k = l.length := by omega
      subst hke
      go_wp2
      go_ret
      exact ⟨_, _, rfl, by simpa using HO.out, HB.out⟩

set_option maxHeartbeats 1000000 in
theorem eqNS (w : World) (B n c c2 : Nat) (A A2 : Option Addr) (l : List Int) (hr : Nums w B A n l) (hr2 : Nums w B A2 n l) (hB : B ≤ w.heap.size) (hn : n ≤ maxLen) :
    Calls Try.prog 51 #[.slice A n c, .slice A2 n c2] w fun e w' => e = .returned (.bool true) ∧ Below w.heap.size w w' := by
  have hlen := hr.len
  subst hlen
  unfold maxLen at hn
  have HR := Lib.hid hr
  have HR2 := Lib.hid hr2
  clear hr hr2
  go_enter Try.func51, Try.ntmps51
  go_wp2_with fail
  go_loopw [5] (fun i wr => ∃ k : Nat, k ≤ l.length ∧ i = .int .i64 (k : Nat) ∧ Below w.heap.size w wr) (fun i _ => l.length - (intOf i).toNat)
  case atStart => exact ⟨0, Nat.zero_le _, rfl, Below.refl _ _⟩
  case round =>
    obtain ⟨k, hk, rfl, hb⟩ := hrel
    have HBL := Lib.hid hb
    clear hb
    by_cases hlt : k < l.length
    · obtain ⟨kb, ko, hA, hkb, d0⟩ := (HR.out.below HBL.out hB).cell k hlt
      obtain ⟨jb, jo, hA2, hjb, g0⟩ := (HR2.out.below HBL.out hB).cell k hlt
      subst hA hA2
      obtain ⟨x0, h0⟩ : ∃ y, y = l[k] := ⟨_, rfl⟩
      rw [← h0] at d0 g0
      have z0 : (0 : Int) ≤ (k : Int) := by omega
      have z1 : (k : Int) < (l.length : Int) := by omega
      clear h0
      go_wp2_with fail
      go_quiet (fail)
      go_wp2
      go_roundw
      case rel => exact ⟨k + 1, by omega, by go_num, bel2 HBL.out (by rfl) (by rfl) (by rfl) (by rfl)⟩
      case measure => simp [intOf]; omega
    · have hke : k = l.length := by omega
      subst hke
      go_wp2
      go_ret
      exact ⟨rfl, HBL.out⟩

set_option maxHeartbeats 1000000 in
theorem markN (w : World) (base g n c K0 : Nat) (cs : List Value) (ho : w.ownsRow base 3 1 (.slice (some ⟨g, 0, none⟩) n c) n cs) (hn : n ≤ 1048576) (hK : K0 ≤ 1000000000) :
    Calls Try.prog 52 #[.slice (some ⟨g, 0, none⟩) n c, .int .i64 (K0 : Nat)] w fun e w' => e = .returned (.int .i64 ((K0 + n : Nat) : Int)) ∧ w.grownBy w' (some g) := by
  have HO := Lib.hid ho
  clear ho
  go_enter Try.func52, Try.ntmps52
  go_wp2_with fail
  go_loopw [1, 5] (fun kv i wr => ∃ (k : Nat) (z : Int) (cs : List Value), k ≤ n ∧ i = .int .i64 (k : Nat) ∧ kv = .int .i64 z ∧ z = ((K0 + k : Nat) : Int) ∧ wr.ownsRow base 3 1 (.slice (some ⟨g, 0, none⟩) n c) n cs ∧ w.grownBy wr (some g)) (fun _ i _ => n - (intOf i).toNat)
  case atStart => exact ⟨0, K0, cs, Nat.zero_le _, rfl, rfl, rfl, HO.out, World.grownBy.refl _ _⟩
  case round =>
    obtain ⟨k, z, cs, hk, rfl, rfl, hz, hor, hgr⟩ := hrel
    have HGR := Lib.hid hgr
    have HOR := Lib.hid hor
    clear hor hgr HO
    by_cases hlt : k < n
    · have z0 : (0 : Int) ≤ (k : Int) := by omega
      have z1 : (k : Int) < (n : Int) := by omega
      have hcl : cs.length = n * 1 := HOR.out.1
      obtain ⟨v0, a0⟩ := rowSome (cs := cs) (i := k) (by omega)
      have q0 := rowGet HOR.out a0
      have f0 := rowFree HOR.out k
      obtain ⟨u1, hu1⟩ : ∃ u : Int, u = z + 1 := ⟨_, rfl⟩
      have e1 : IntKind.i64.wrap (z + 1) = u1 := by rw [hu1]; exact i64_z _ (by omega) (by omega)
      have HU := Lib.hid (show u1 = ((K0 + (k + 1) : Nat) : Int) by omega)
      clear hu1 a0 hz
      go_wp2
      go_roundw
      case rel => exact ⟨k + 1, u1, _, by omega, by go_num, rfl, HU.out, rowSet HOR.out k _, grown_set HGR.out _ _⟩
      case measure => simp [intOf]; omega
    · have hke : k = n := by omega
      subst hke
      have HZ := Lib.hid hz
      go_wp2
      go_ret
      exact ⟨by rw [← HZ.out]; rfl, HGR.out⟩

end Go.Proofs.Ytjjalagmlbaafaa.W
