/-
  What is found of keys, by whatever finds it.
-/
import Derived.Test.YtfpgjkanmanajaaES
namespace Go.Proofs.Ytfpgjkanmanajaa.W
open Go.RowKit K R

/-- what is there of a key, by what is found of it -/
def pickG (g : ByteArray → Option En) (f u : ByteArray) (k : ByteArray) : Option En :=
  match g k with
  | some e => if (!e.gone && (!lt k f && !lt u k)) = true then some e else none
  | none => none
theorem pickG_some {g : ByteArray → Option En} {f u k : ByteArray} {e : En} : pickG g f u k = some e ↔ g k = some e ∧ e.gone = false ∧ lt k f = false ∧ lt u k = false := by
  unfold pickG
  cases h : g k with
  | none => simp
  | some x =>
    by_cases hc : (!x.gone && (!lt k f && !lt u k)) = true
    · simp only [hc, if_true]
      simp at hc
      constructor
      · intro g; injection g with g; subst g; exact ⟨rfl, hc.1, hc.2.1, hc.2.2⟩
      · rintro ⟨g, -⟩; exact g
    · simp only [hc]
      constructor
      · intro g; simp at g
      · rintro ⟨g, g1, g2, g3⟩
        injection g with g; subst g
        simp [g1, g2, g3] at hc
theorem pickG_none {g : ByteArray → Option En} {f u k : ByteArray} (h : ∀ e, g k = some e → e.gone = true ∨ lt k f = true ∨ lt u k = true) : pickG g f u k = none := by
  cases hp : pickG g f u k with
  | none => rfl
  | some e =>
    obtain ⟨h1, h2, h3, h4⟩ := pickG_some.mp hp
    rcases h e h1 with g | g | g
    · rw [h2] at g; cases g
    · rw [h3] at g; cases g
    · rw [h4] at g; cases g
theorem pickG_at (l : List En) (f u : ByteArray) (t : Int) : pickG (fun k => atL l k t) f u = pickE l f u t := rfl
theorem filtG_len {g : ByteArray → Option En} {f u : ByteArray} (ks : List ByteArray) (k : Nat) : ((ks.take k).filterMap (pickG g f u)).length ≤ ks.length :=
  Nat.le_trans (List.length_filterMap_le _ _) (by rw [List.length_take]; omega)
/-- a new slice of entries, nil or not -/
def MadeE (w : World) (l : List En) (e : Ending) (w' : World) : Prop := ∃ v, e = .returned v ∧ OwnE w' w.heap.size v l ∧ Below w.heap.size w w'
theorem nilE (w : World) (base : Nat) : OwnE w base (.slice none 0 0) [] := ⟨rfl, .inl ⟨rfl, rfl⟩⟩

end Go.Proofs.Ytfpgjkanmanajaa.W
