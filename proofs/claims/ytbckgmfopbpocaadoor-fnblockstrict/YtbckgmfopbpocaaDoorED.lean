/-
  The keys of a run, the model's and the program's.
-/
import Derived.Test.YtbckgmfopbpocaaDoorE5
import Derived.Test.YtbckgmfopbpocaaDoorJ3
import Derived.Deep.RegionHeld
namespace Go.Proofs.YtbckgmfopbpocaaDoor.W
open Go.RowKit K R

theorem new_zero (l : List En) : newAt l 0 = true := rfl
theorem new_pos {l : List En} {j k : Nat} (hj : j + 1 = k) (h : k < l.length) : newAt l k = !((l[j]'(by omega)).key.toList == l[k].key.toList) := by
  subst hj
  unfold newAt
  rw [decide_eq_false (by omega), Bool.false_or, en_at h, Nat.add_sub_cancel, en_at (by omega)]
  rfl
theorem key_at {l : List En} {k : Nat} (h : k < l.length) : (en l k).key = l[k].key := by rw [en_at h]

end Go.Proofs.YtbckgmfopbpocaaDoor.W
