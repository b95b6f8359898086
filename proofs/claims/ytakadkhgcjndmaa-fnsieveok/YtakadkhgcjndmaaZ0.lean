/-
  What the laws of filters ask, in mathematics: a filter made of keys, and what it keeps. No walk.
-/
import Derived.Test.YtakadkhgcjndmaaJE
import Derived.Test.YtakadkhgcjndmaaZ0a
namespace Go.Proofs.Ytakadkhgcjndmaa.W
open Go.RowKit K

theorem okB_of {s : List UInt8} (h1 : s.length ≤ 400) (h2 : ∀ c ∈ s, c = 48 ∨ c = 49) : M.okB (ba s).data.toList = true := by
  have e : (ba s).data.toList = s := by rw [← ByteArray.toList_eq, ba_l]
  rw [e]
  unfold M.okB
  simp only [Bool.and_eq_true, decide_eq_true_eq, List.all_eq_true]
  refine ⟨h1, fun c hc => ?_⟩
  unfold M.bitC
  rcases h2 c hc with h | h <;> simp [h]
/-- the form of a filter made of keys -/
theorem form_sieve {keys : List T.Str} (hK : T.KeyL keys) (h24 : keys.length ≤ 24) {kp : Nat} (hkp : kp ≤ 5) : formB (ba (T.sieve kp keys).letters) (ba (T.sieve kp keys).more) (ba (T.sieve kp keys).first) ((T.sieve kp keys).rests.map ba).length kp = true := by
  obtain ⟨h1, h2, h3, h4⟩ := all_small hK h24 kp
  have l2 : (T.sieve kp keys).more.length = (T.sieve kp keys).letters.length := by show (T.more _).length = (T.letters _).length; rw [T.len_more, T.len_letters]
  have l3 : (T.sieve kp keys).first.length = (T.sieve kp keys).letters.length := by show (T.firsts _).length = (T.letters _).length; rw [T.len_firsts, T.len_letters]
  have l4 : (T.sieve kp keys).rests.length + M.ones (T.sieve kp keys).more = (T.sieve kp keys).letters.length := T.rest_count kp (T.forks keys)
  unfold formB
  rw [okB_of (s := (T.sieve kp keys).more) (by omega) (T.more_bits (T.forks keys)), okB_of (s := (T.sieve kp keys).first) (by omega) (T.firsts_bits (T.forks keys))]
  simp only [Bool.true_and, Bool.and_eq_true, decide_eq_true_eq, ba_len, List.length_map]
  refine ⟨by omega, by omega, ?_, by unfold inB; exact decide_eq_true ⟨by omega, by omega⟩⟩
  have e : cntI (ba (T.sieve kp keys).more) (T.sieve kp keys).letters.length = (M.ones (T.sieve kp keys).more : Int) := by
    unfold cntI
    have e2 : (ba (T.sieve kp keys).more).data.toList = (T.sieve kp keys).more := by rw [← ByteArray.toList_eq, ba_l]
    rw [e2, ← l2, List.take_length]
  rw [e]
  omega
/-- a filter made of keys is one -/
theorem svB_made {keys : List T.Str} (hK : T.KeyL keys) (h24 : keys.length ≤ 24) {kp : Nat} (hkp : kp ≤ 5) : svB (ba (T.sieve kp keys).letters) (ba (T.sieve kp keys).more) (ba (T.sieve kp keys).first) ((T.sieve kp keys).rests.map ba) kp = true := by
  refine svB_of (form_sieve hK h24 hkp) ?_
  rw [← sv_parts.mpr ⟨rfl, rfl, rfl, rfl⟩]
  exact T.isSv_iff.mpr ⟨keys, kp, hK, h24, hkp, rfl⟩
theorem svOf_made (kp : Nat) (keys : List T.Str) : svOf (ba (T.sieve kp keys).letters) (ba (T.sieve kp keys).more) (ba (T.sieve kp keys).first) ((T.sieve kp keys).rests.map ba) kp = T.sieve kp keys := (sv_parts.mpr ⟨rfl, rfl, rfl, rfl⟩).symm

end Go.Proofs.Ytakadkhgcjndmaa.W
