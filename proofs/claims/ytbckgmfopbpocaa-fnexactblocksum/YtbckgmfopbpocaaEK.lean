/-
  RunJoin, the model's.
-/
import Derived.Test.YtbckgmfopbpocaaEJ
namespace Go.Proofs.Ytbckgmfopbpocaa.W
open Go.RowKit K R

theorem ownE_parts {w : World} {base : Nat} {v : Value} {l : List En} (h : OwnE w base v l) : ∃ (A : Option Addr) (c : Nat), v = .slice A l.length c ∧ l.length ≤ c ∧ c ≤ maxLen ∧ Ents w w.heap.size A l.length l := by
  rcases h.2 with ⟨rfl, h0⟩ | ⟨g, cap, cur, rfl, hb, hg, hc, hm, hs, ht⟩
  · have : l = [] := List.eq_nil_of_length_eq_zero h0
    subst this
    exact ⟨none, 0, rfl, Nat.le_refl _, by unfold maxLen; omega, ⟨rfl, fun i hi => absurd hi (Nat.not_lt_zero _)⟩⟩
  · exact ⟨_, cap, rfl, hc, hm, OwnE.ents h rfl⟩
/-- whether two runs can be joined -/
def joinB (la lb : List En) : Bool := runB la && (runB lb && runB (joinL la lb))
/-- the answer: what is joined, and whether it could be -/
def JoinA (w : World) (la lb : List En) (e : Ending) (w' : World) : Prop :=
  ∃ v, e = .returned (.tuple #[v, .bool (joinB la lb)]) ∧ OwnE w' w.heap.size v (if joinB la lb = true then joinL la lb else []) ∧ Below w.heap.size w w'
theorem ownE_base {w : World} {base base' : Nat} {v : Value} {l : List En} (h : OwnE w base v l) (hb : base' ≤ base) : OwnE w base' v l := by
  refine ⟨h.1, ?_⟩
  rcases h.2 with hn | ⟨g, cap, cur, hv, hbg, rest⟩
  · exact .inl hn
  · exact .inr ⟨g, cap, cur, hv, by omega, rest⟩

end Go.Proofs.Ytbckgmfopbpocaa.W
