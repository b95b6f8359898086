/-
  What the laws of blocks use beside the contracts.
-/
import Derived.Test.YtbckgmfopbpocaaDoorC5
import Derived.Test.YtbckgmfopbpocaaDoorDB1
import Derived.Test.YtbckgmfopbpocaaDoorEL
namespace Go.Proofs.YtbckgmfopbpocaaDoor.W
open Go.RowKit K R B

theorem same_few2 {W : World} {A A2 : Option Addr} {c c2 : Nat} {l : List En} (h : Few W A c l) (h2 : Few W A2 c2 l) : Calls Tryd.prog 14 #[.slice A l.length c, .slice A2 l.length c2] W fun e w' => e = .returned (.bool true) ∧ Below W.heap.size W w' :=
  ltRunsSame W W.heap.size l.length c c2 A A2 l h.ents h2.ents (Nat.le_refl _) (by have := h.len; unfold maxLen; omega)
theorem errOn' {w w' : World} (h : ErrB w.heap.size w) (hb : Below w.heap.size w w') : ErrB w'.heap.size w' := fun W hW => h W (hb.trans (hW.mono hb.size))
theorem textI_few {W : World} {A : Option Addr} {c : Nat} {l : List En} (h : Few W A c l) (hT : Tab W) : Calls Tryd.prog 11 #[.slice A l.length c] W fun e w' => e = .returned (.string (ofL (blockL l))) ∧ Below W.heap.size W w' :=
  blockI W W.heap.size l.length c A l h.ents (Nat.le_refl _) (by have := h.len; unfold maxLen; omega) h.fit hT
theorem textS_few {W : World} {A : Option Addr} {c : Nat} {l : List En} (h : Few W A c l) : Calls Tryd.prog 12 #[.slice A l.length c] W fun e w' => e = .returned (.string (ofL (blockL l))) ∧ Below W.heap.size W w' :=
  blockS W W.heap.size l.length c A l h.ents (Nat.le_refl _) (by have := h.len; unfold maxLen; omega) h.fit
/-- a text that is no block is read as none -/
theorem readNone {W : World} {s : ByteArray} (hs : s.size ≤ 1900000) (hT : Tab W) (hE : ErrB W.heap.size W) (h : readL s.data.toList = none) : Calls Tryd.prog 13 #[.string s] W fun e w' => ∃ v, e = .returned (.tuple #[v, .bool false]) ∧ Below W.heap.size W w' :=
  (readI s W hs hT hE).mono fun e w' hm => by
    obtain ⟨v, he, _, hb⟩ := hm
    rw [h] at he
    exact ⟨v, he, hb⟩
theorem readSome {W : World} {s : ByteArray} {l : List En} (hs : s.size ≤ 1900000) (hT : Tab W) (hE : ErrB W.heap.size W) (h : readL s.data.toList = some l) (hl : l.length ≤ 45) (hk : ∀ e ∈ l, e.key.size ≤ 6) : Calls Tryd.prog 13 #[.string s] W fun e w' => ∃ A c, e = .returned (.tuple #[.slice A l.length c, .bool true]) ∧ Few w' A c l ∧ Below W.heap.size W w' :=
  (readI s W hs hT hE).mono fun e w' hm => by
    obtain ⟨v, he, ho, hb⟩ := hm
    rw [h] at he ho
    obtain ⟨A, c, rfl, hf⟩ := few_of ho hl hk
    exact ⟨A, c, he, hf, hb⟩
theorem notEmpty {l : List En} {T : ByteArray} (hT : T = ofL (blockL l)) (h : T.toList.isEmpty = false) : blockL l ≠ [] := by
  intro e
  rw [ByteArray.toList_eq, hT, ofL_data, e] at h
  cases h

end Go.Proofs.YtbckgmfopbpocaaDoor.W
