/-
  Contracts of the functions that read bit strings and make no memory: BitsOk of the program and of its model, and the model's counting and searching. Each at every string that Go can hold, and every int.
  Contracts of the model's l3Letter and l3Rest: a key's letter at a place, and what is kept of it behind one.
  Contract of the model's l3Kids: to which branches a branch leads.
  Contracts of the model's l3Sames (are texts the same) and l3Whole (is all of a key kept).
  Contract of the model's l3Add: what is kept of the keys of some branches, put behind others, at every filter whose parts are as long as they must be.
  Contract of the model's l3Form: are a filter's parts as long as they must be, at every filter.
-/
import Derived.Test.YtfhpkcamigkmdaaDoorZAA
import Derived.Test.YtfhpkcamigkmdaaDoorJ1
import Derived.WalkKit
import Derived.WalkLawsBesides
import Derived.WalkSpells
import Derived.Lib.Hide
import Derived.Handy
namespace Go.Proofs.YtfhpkcamigkmdaaDoor.W
open Go.RowKit M

end Go.Proofs.YtfhpkcamigkmdaaDoor.W

namespace Go.Proofs.YtfhpkcamigkmdaaDoor.W
open Go.RowKit K

/-- a key's letter at a place, as a string -/
def letS (k : ByteArray) (d : Nat) : ByteArray := if k.size ≤ d then ⟨#[45]⟩ else k.extract d (d + 1)
/-- what is kept of a key behind so many letters -/
def restS (k : ByteArray) (d keep : Nat) : ByteArray := if k.size ≤ d then ⟨#[]⟩ else (k.extract d k.size).extract 0 (min (k.size - d) keep)

set_option maxHeartbeats 400000 in
theorem letterS (k : ByteArray) (d : Nat) (w : World) (hd : d < 1000) :
    Calls Tryd.prog 92 #[.string k, .int .i64 d] w fun e w' => e = .returned (.string (letS k d)) ∧ w = w' := by
  by_cases hle : k.size ≤ d
  · have hle2 : (d : Int) ≥ (k.size : Int) := by omega
    go_enter Tryd.func92, Tryd.ntmps92
    go_wp2
    go_ret
    exact ⟨by unfold letS; rw [if_pos hle]; rfl, rfl⟩
  · have hle2 : ¬ (d : Int) ≥ (k.size : Int) := by omega
    go_enter Tryd.func92, Tryd.ntmps92
    go_wp2
    go_ret
    exact ⟨by unfold letS; rw [if_neg hle]; rfl, rfl⟩

set_option maxHeartbeats 400000 in
theorem restS_ok (k : ByteArray) (d keep : Nat) (w : World) (hd : d < 1000) (hkeep : keep < 1000) :
    Calls Tryd.prog 93 #[.string k, .int .i64 d, .int .i64 keep] w fun e w' => e = .returned (.string (restS k d keep)) ∧ w = w' := by
  by_cases hle : k.size ≤ d
  · have hle2 : (d : Int) ≥ (k.size : Int) := by omega
    go_enter Tryd.func93, Tryd.ntmps93
    go_wp2
    go_ret
    exact ⟨by unfold restS; rw [if_pos hle]; rfl, rfl⟩
  · have hle2 : ¬ (d : Int) ≥ (k.size : Int) := by omega
    go_enter Tryd.func93, Tryd.ntmps93
    go_wp2
    · go_ret
      refine ⟨?_, rfl⟩
      show Ending.returned (.string ((k.extract d k.size).extract 0 keep)) = _
      unfold restS
      rw [if_neg hle, show min (k.size - d) keep = keep by omega]
    · go_ret
      refine ⟨?_, rfl⟩
      show Ending.returned (.string ((k.extract d k.size).extract 0 (k.size - d))) = _
      unfold restS
      rw [if_neg hle, show min (k.size - d) keep = k.size - d by omega]

/-- strings as lists of letters -/
theorem ext_l (k : ByteArray) (a b : Nat) : (k.extract a b).toList = (k.toList.drop a).take (b - a) := by
  rw [ByteArray.toList_eq, ByteArray.toList_eq, ByteArray.data_extract, Array.toList_extract]
theorem letS_l (k : ByteArray) (d : Nat) : (letS k d).toList = [T.letter k.toList d] := by
  have hs : k.toList.length = k.size := by rw [ByteArray.toList_eq]; rfl
  unfold letS T.letter
  by_cases h : k.size ≤ d
  · rw [if_pos h, List.getElem?_eq_none (by omega), ByteArray.toList_eq]
    rfl
  · rw [if_neg h, ext_l, List.getElem?_eq_getElem (by omega), Nat.add_sub_cancel_left, List.take_one, List.head?_drop, List.getElem?_eq_getElem (by omega)]
    rfl
theorem restS_l (k : ByteArray) (d keep : Nat) : (restS k d keep).toList = T.restOf k.toList d keep := by
  have hs : k.toList.length = k.size := by rw [ByteArray.toList_eq]; rfl
  unfold restS T.restOf
  by_cases h : k.size ≤ d
  · rw [if_pos h, List.drop_eq_nil_of_le (by omega), ByteArray.toList_eq]
    simp
  · rw [if_neg h, ext_l, ext_l, List.drop_zero, Nat.sub_zero, List.take_take]
    rcases Nat.le_total keep (k.size - d) with hle | hle
    · rw [show min (min (k.size - d) keep) (k.size - d) = keep by omega]
    · rw [show min (min (k.size - d) keep) (k.size - d) = k.size - d by omega]
      rw [List.take_of_length_le (by rw [List.length_drop]; omega), List.take_of_length_le (by rw [List.length_drop]; omega)]

end Go.Proofs.YtfhpkcamigkmdaaDoor.W

namespace Go.Proofs.YtfhpkcamigkmdaaDoor.W
open Go.RowKit K

end Go.Proofs.YtfhpkcamigkmdaaDoor.W

namespace Go.Proofs.YtfhpkcamigkmdaaDoor.W
open Go.RowKit K

set_option maxHeartbeats 1000000 in
theorem sames3 (w : World) (B n c n2 c2 : Nat) (A A2 : Option Addr) (l l2 : List ByteArray) (hr : Strs w B A n l) (hr2 : Strs w B A2 n2 l2) (hn : n ≤ maxLen) (hn2 : n2 ≤ maxLen) :
    Calls Tryd.prog 57 #[.slice A n c, .slice A2 n2 c2] w fun e w' => e = .returned (.bool (sameL l l2)) ∧ Same w w' := by
  have hlen := hr.len
  subst hlen
  have hlen2 := hr2.len
  subst hlen2
  unfold maxLen at hn hn2
  have HR := Lib.hid hr
  have HR2 := Lib.hid hr2
  clear hr hr2
  by_cases hll : l.length = l2.length
  · have HLL := Lib.hid hll
    have hne : ((l.length : Int) != (l2.length : Int)) = false := by simp [hll]
    clear hll
    go_enter Tryd.func57, Tryd.ntmps57
    go_wp2
    go_loopw [5] (fun i wr => ∃ k : Nat, k ≤ l.length ∧ i = .int .i64 k ∧ Hid (l.take k = l2.take k) ∧ Same w wr) (fun i _ => l.length - (intOf i).toNat)
    case atStart => exact ⟨0, Nat.zero_le _, rfl, Lib.hid rfl, Same.refl w⟩
    case round =>
      obtain ⟨k, hk, rfl, hg, hsm⟩ := hrel
      have HS := Lib.hid hsm
      clear hsm
      by_cases hlt : k < l.length
      · have hlt2 : k < l2.length := by have := HLL.out; omega
        obtain ⟨b, off, hA, hb, hc⟩ := (HS.out.strs HR.out).cell k hlt
        subst hA
        obtain ⟨b2, off2, hA2, hb2, hc2⟩ := (HS.out.strs HR2.out).cell k hlt2
        subst hA2
        have hx0 : (0 : Int) ≤ (k : Int) := by omega
        have hx1 : (k : Int) < (l.length : Int) := by omega
        have hx2 : (k : Int) < (l2.length : Int) := by omega
        rcases Bool.eq_false_or_eq_true (l[k].toList == l2[k].toList) with he | he
        · have HE := Lib.hid he
          go_wp2
          go_quiet (fail)
          go_wp2
          go_roundw
          case rel => exact ⟨k + 1, by omega, by go_num, Lib.hid (same_step hlt hlt2 HE.out hg.out), HS.out.drewN _⟩
          case measure => simp [intOf]; omega
        · have HE := Lib.hid he
          go_wp2
          go_quiet (fail)
          go_wp2
          go_ret
          exact ⟨ret_bool (same_at hlt hlt2 HE.out).symm, HS.out.drewN _⟩
      · have hke : k = l.length := by omega
        subst hke
        go_wp2
        go_ret
        exact ⟨ret_bool (same_end HLL.out hg.out).symm, HS.out⟩
  · have hne : ((l.length : Int) != (l2.length : Int)) = true := by simp; omega
    have HLL := Lib.hid hll
    clear hll
    go_enter Tryd.func57, Tryd.ntmps57
    go_wp2
    go_ret
    exact ⟨ret_bool (same_len HLL.out).symm, Same.refl w⟩

end Go.Proofs.YtfhpkcamigkmdaaDoor.W

namespace Go.Proofs.YtfhpkcamigkmdaaDoor.W
open Go.RowKit K

/-- memory has grown, and of the rest only the row of v has turned; v' lies in that row or in a new one -/
structure Grew (w w' : World) (v v' : Value) : Prop where
  grown : w.grownBy w' v.ownBlock
  row : ∀ j, v'.ownBlock = some j → w.heap.size ≤ j ∨ v.ownBlock = some j
theorem Grew.refl (w : World) (v : Value) : Grew w w v v := ⟨World.grownBy.refl _ _, fun _ h => .inr h⟩
theorem Grew.trans {a b c : World} {v v' v'' : Value} (h : Grew a b v v') (k : Grew b c v' v'') : Grew a c v v'' :=
  ⟨h.grown.andThen k.grown h.row, fun j hj => by
    rcases k.row j hj with h1 | h1
    · exact .inl (Nat.le_trans h.grown.size h1)
    · exact h.row j h1⟩
theorem Grew.alloc {a b : World} {v v' : Value} (h : Grew a b v v') (o : Obj) : Grew a (b.alloc o) v v' := h.trans ⟨World.grownBy_alloc _ _ _, fun _ h => .inr h⟩
/-- a filter in memory, as lists -/
def svOf (L M F : ByteArray) (l : List ByteArray) (keep : Nat) : T.Sv := ⟨L.toList, M.toList, F.toList, l.map (·.toList), keep⟩
/-- a list of letters as a string -/
def ba (s : List UInt8) : ByteArray := ⟨s.toArray⟩
theorem ba_l (s : List UInt8) : (ba s).toList = s := by unfold ba; rw [ByteArray.toList_eq]
theorem ba_of (k : ByteArray) : ba k.toList = k := ba_ext (ba_l _)

theorem len_L (k : ByteArray) : k.toList.length = k.size := by rw [ByteArray.toList_eq]; rfl

end Go.Proofs.YtfhpkcamigkmdaaDoor.W

namespace Go.Proofs.YtfhpkcamigkmdaaDoor.W
open Go.RowKit K

end Go.Proofs.YtfhpkcamigkmdaaDoor.W
