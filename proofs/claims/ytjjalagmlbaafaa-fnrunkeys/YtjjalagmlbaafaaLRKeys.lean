/-
  The law FnRunKeys (P36), as a walk over the contracts.
-/
import Derived.Test.YtjjalagmlbaafaaER
import Derived.Test.YtjjalagmlbaafaaEQ
import Derived.Test.YtjjalagmlbaafaaI4
namespace Go.Proofs.Ytjjalagmlbaafaa.W
open Go.RowKit K R

theorem keysK_few {W : World} {A : Option Addr} {c : Nat} {l : List En} (h : Few W A c l) : Calls Try.prog 35 #[.slice A l.length c] W (New W (keysO l)) :=
  runKeysI W W.heap.size l.length c A l h.ents (Nat.le_refl _) (by have := h.len; omega) h.fit
theorem keysS_few {W : World} {A : Option Addr} {c : Nat} {l : List En} (h : Few W A c l) : Calls Try.prog 38 #[.slice A l.length c] W (New W (keysO l)) :=
  runKeysS W W.heap.size l.length c A l h.ents (Nat.le_refl _) (by have := h.len; omega) h.fit
theorem runK_few {W : World} {A : Option Addr} {c : Nat} {l : List En} (h : Few W A c l) : Calls Try.prog 24 #[.slice A l.length c] W fun e w' => e = .returned (.bool (runB l)) ∧ Below W.heap.size W w' :=
  runS W W.heap.size l.length c A l h.ents (Nat.le_refl _) (by have := h.len; unfold maxLen; omega) h.fit
theorem samesT {W : World} {A A2 : Option Addr} {c c2 : Nat} {l : List ByteArray} (h : Strs W W.heap.size A l.length l) (h2 : Strs W W.heap.size A2 l.length l) (hl : l.length ≤ 1000) : Calls Try.prog 36 #[.slice A l.length c, .slice A2 l.length c2] W fun e w' => e = .returned (.bool true) ∧ Below W.heap.size W w' := by
  have hm : l.length ≤ maxLen := by unfold maxLen; omega
  have h := samesL W W.heap.size l.length c l.length c2 A A2 l l h h2 hm hm
  rw [sameL_self] at h
  exact h.mono fun _ _ ⟨he, hs⟩ => ⟨he, hs.below _⟩
theorem keysK_le (l : List En) : (keysO l).length ≤ l.length := by
  unfold keysO
  split
  · exact keysL_len _
  · exact Nat.zero_le _
theorem emptyS (w : World) : Own (w.alloc (.cells #[] 9)) w.heap.size (.slice (some ⟨w.heap.size, 0, none⟩) 0 0) [] := Own.empty w w.heap.size (Nat.le_refl _)

end Go.Proofs.Ytjjalagmlbaafaa.W
