/-
  What the laws of filters ask, in mathematics: tries of keys, and of what is kept of them. No walk.
-/
import Derived.Test.YtakadkhgcjndmaaX14
namespace Go.Proofs.Ytakadkhgcjndmaa.T
open M

theorem bit_is (b : Bool) : bit b = 48 ∨ bit b = 49 := by cases b <;> simp [bit]
theorem more_bits (N : List Fork) : ∀ c ∈ more N, c = 48 ∨ c = 49 := by
  intro c hc
  obtain ⟨f, -, hf⟩ := List.mem_flatMap.mp hc
  obtain ⟨b, -, hb⟩ := List.mem_map.mp hf
  rw [← hb]; exact bit_is _
theorem firsts_bits (N : List Fork) : ∀ c ∈ firsts N, c = 48 ∨ c = 49 := by
  intro c hc
  obtain ⟨f, -, hf⟩ := List.mem_flatMap.mp hc
  generalize (bs f).length = m at hf
  cases m with
  | zero => cases hf
  | succ m =>
    rcases List.mem_cons.mp hf with h | h
    · exact .inr h
    · exact .inl (List.eq_of_mem_replicate h)
theorem rest_countF (keep : Nat) (f : Fork) : (restsF keep f).length + ones (moreF f) = (bs f).length := by
  unfold restsF moreF
  rw [List.length_map]
  generalize bs f = l
  induction l with
  | nil => rfl
  | cons b t ih =>
    rw [List.map_cons, List.length_cons, List.filter_cons]
    have e : ones (bit (goes b) :: t.map fun b => bit (goes b)) = (if bit (goes b) = 49 then 1 else 0) + ones (t.map fun b => bit (goes b)) := rfl
    rw [e]
    cases h : goes b
    · have h1 : ¬ (bit false = 49) := by decide
      rw [if_neg h1, if_pos (by rfl), List.length_cons]; omega
    · have h1 : bit true = 49 := rfl
      rw [if_pos h1, if_neg (by decide)]; omega
/-- of each branch that does not go on there is a rest -/
theorem rest_count (keep : Nat) : ∀ N : List Fork, (rests keep N).length + ones (more N) = (letters N).length
  | [] => rfl
  | f :: N => by
    have ih := rest_count keep N
    have h1 : rests keep (f :: N) = restsF keep f ++ rests keep N := rfl
    have h2 : more (f :: N) = moreF f ++ more N := rfl
    have h3 : letters (f :: N) = (bs f).map (·.1) ++ letters N := rfl
    have h4 := rest_countF keep f
    rw [h1, h2, h3, List.length_append, ones_append, List.length_append, List.length_map]
    omega
theorem rests_short (keep : Nat) (N : List Fork) : ∀ r ∈ rests keep N, r.length ≤ keep := by
  intro r hr
  obtain ⟨f, -, hf⟩ := List.mem_flatMap.mp hr
  obtain ⟨b, -, hb⟩ := List.mem_map.mp hf
  rw [← hb]
  unfold restB restOf
  exact List.length_take_le _ _
/-- the trie of keys is the trie of what is kept of them -/
theorem tr_heads {keys : List Str} (h : KeyL keys) (kp : Nat) : trN kp 1 (forks (heads kp keys)) = trN kp 1 (forks keys) := by
  rw [← (rd_sieve h kp).2, ← (rd_sieve (heads_key h kp) kp).2, sieve_heads h kp]
theorem hasK_heads {keys : List Str} (h : KeyL keys) (kp : Nat) {k : Str} (hk : isKey k) : hasK kp (heads kp keys) k = hasK kp keys k := by
  rw [← has_sieve h kp hk, ← has_sieve (heads_key h kp) kp hk, tr_heads h]
theorem pairs_heads {keys : List Str} (h : KeyL keys) (kp : Nat) : ((heads kp keys).map fun k => (kept kp (heads kp keys) k, whole kp (heads kp keys) k)) = keys.map fun k => (kept kp keys k, whole kp keys k) := by
  rw [← hd_sieve h kp (Nat.le_refl 6), ← hd_sieve (heads_key h kp) kp (Nat.le_refl 6), tr_heads h]
theorem seekK_pairs (kp : Nat) (keys : List Str) (f : Str) : seekK kp keys f = ((keys.map fun k => (kept kp keys k, whole kp keys k)).find? fun p => decide (f ≤ p.1) || (!p.2 && p.1.isPrefixOf f)).map (·.1) := by
  unfold seekK
  rw [List.find?_map, Option.map_map]
  rfl
theorem seekK_heads {keys : List Str} (h : KeyL keys) (kp : Nat) (f : Str) : seekK kp (heads kp keys) f = seekK kp keys f := by
  rw [seekK_pairs, seekK_pairs, pairs_heads h]
theorem meetsK_heads {keys : List Str} (h : KeyL keys) (kp : Nat) (f t : Str) : meetsK kp (heads kp keys) f t = meetsK kp keys f t := by
  unfold meetsK
  rw [seekK_heads h]
end Go.Proofs.Ytakadkhgcjndmaa.T
namespace Go.Proofs.Ytakadkhgcjndmaa.W
open Go.RowKit K

theorem all_small {keys : List T.Str} (hK : T.KeyL keys) (h24 : keys.length ≤ 24) (kp : Nat) : (T.sieve kp keys).letters.length ≤ 144 ∧ (T.sieve kp keys).more.length ≤ 144 ∧ (T.sieve kp keys).first.length ≤ 144 ∧ (T.sieve kp keys).rests.length ≤ 144 := T.going_len hK h24 kp going_all

end Go.Proofs.Ytakadkhgcjndmaa.W
