/-
  Contracts of the model's BitsOnes, BitsOne and BitsNext, at every string that Go can hold and every int.
-/
import Derived.Test.YtakadkhgcjndmaaJ4
namespace Go.Proofs.Ytakadkhgcjndmaa.W
open Go.RowKit M

/-- what BitsOnes answers -/
def onesR (s : ByteArray) (p : Int) : Int := if okB s.data.toList = true ∧ 0 ≤ p ∧ p ≤ s.size then cntI s p.toNat else -1
/-- where BitsOne finds the one, if it does -/
def oneO (s : ByteArray) (n : Int) : Option Nat := if okB s.data.toList = true ∧ 0 ≤ n then oneIdx s.data.toList n.toNat else none
/-- where BitsNext finds the one, if it does -/
def nextO (s : ByteArray) (p : Int) : Option Nat := if okB s.data.toList = true ∧ 0 ≤ p ∧ p ≤ s.size then (oneIdx (s.data.toList.drop p.toNat) 0).map (p.toNat + ·) else none
/-- a place or none, as Go hands it back -/
def posV (o : Option Nat) : Value := .tuple #[.int .i64 ((o.getD 0 : Nat) : Int), .bool o.isSome]
def posN (o : Option Nat) : Int := ((o.getD 0 : Nat) : Int)
def posB (o : Option Nat) : Bool := o.isSome
theorem posV_two (o : Option Nat) : posV o = .tuple #[.int .i64 (posN o), .bool (posB o)] := rfl

theorem posV_none : posV none = .tuple #[.int .i64 0, .bool false] := rfl
theorem posV_some (k : Nat) : posV (some k) = .tuple #[.int .i64 k, .bool true] := rfl

theorem all_l (s : ByteArray) : s.data.toList.take s.size = s.data.toList := List.take_of_length_le (by rw [len_l]; exact Nat.le_refl _)

theorem cnt_all (s : ByteArray) : cntI s s.size = (ones s.data.toList : Int) := by unfold cntI; rw [all_l]

/-- the search for the next one, from p on, has come to k -/
def Walk (l : List UInt8) (p k : Nat) : Prop := (oneIdx (l.drop p) 0).map (p + ·) = (oneIdx (l.drop k) 0).map (k + ·)
theorem Walk.hit (s : ByteArray) (p k : Nat) (h : k < s.size) (hw : Walk s.data.toList p k) (hc : (s[k].toNat : Int) = 49) : (oneIdx (s.data.toList.drop p) 0).map (p + ·) = some k := by
  rw [hw, next_step _ _ _ (at_k s k h), if_pos ((c49 _).mp hc)]
theorem Walk.skip (s : ByteArray) (p k : Nat) (h : k < s.size) (hw : Walk s.data.toList p k) (hc : ¬ (s[k].toNat : Int) = 49) : Walk s.data.toList p (k + 1) := by
  unfold Walk at *
  rw [hw, next_step _ _ _ (at_k s k h), if_neg (fun e => hc ((c49 _).mpr e))]
theorem Walk.done (s : ByteArray) (p k : Nat) (h : ¬ k < s.size) (hw : Walk s.data.toList p k) : (oneIdx (s.data.toList.drop p) 0).map (p + ·) = none := by
  rw [hw, List.drop_eq_nil_of_le (by rw [len_l]; omega)]; rfl

theorem ret_pos {o o' : Option Nat} (h : o = o') : Ending.returned (posV o) = .returned (posV o') := by rw [h]

end Go.Proofs.Ytakadkhgcjndmaa.W
