/-
  RunJoin over few entries; what the laws of joined runs say of it.
-/
import Derived.Test.YtfpgjkanmanajaaGI
import Derived.Test.YtfpgjkanmanajaaER
import Derived.Test.YtfpgjkanmanajaaEV
namespace Go.Proofs.Ytfpgjkanmanajaa.W
open Go.RowKit K R

theorem bytes_moreJ {w : World} {B B' n : Nat} {A : Option Addr} (h : Bytes w B A n) (hB : B ≤ B') : Bytes w B' A n := fun i hi => by
  obtain ⟨b, off, z, hA, hb, hz, hc⟩ := h i hi
  exact ⟨b, off, z, hA, Nat.lt_of_lt_of_le hb hB, hz, hc⟩
/-- what RunJoin makes -/
def joinF (la lb : List En) : List En := if joinB la lb = true then joinL la lb else []
theorem joinF_len (la lb : List En) : (joinF la lb).length ≤ 40 := by
  unfold joinF
  split
  · next h =>
    unfold joinB at h
    rw [Bool.and_eq_true, Bool.and_eq_true] at h
    exact (run_iff.mp h.2.2).1
  · exact Nat.zero_le _
theorem joinF_mem {la lb : List En} {e : En} (h : e ∈ joinF la lb) : e ∈ la ∨ e ∈ lb := by
  unfold joinF at h
  split at h
  · exact mem_join.mp h
  · cases h
theorem joinB_iff {la lb : List En} : joinB la lb = true ↔ runB la = true ∧ runB lb = true ∧ runB (joinL la lb) = true := by
  unfold joinB
  rw [Bool.and_eq_true, Bool.and_eq_true]
theorem joinF_yes {la lb : List En} (h : joinB la lb = true) : joinF la lb = joinL la lb := by unfold joinF; rw [if_pos h]
/-- few entries, and whether they could be joined -/
def JoinedF (W : World) (r : List En) (q : Bool) (e : Ending) (w' : World) : Prop :=
  ∃ (A : Option Addr) (c : Nat), e = .returned (.tuple #[.slice A r.length c, .bool q]) ∧ Few w' A c r ∧ Below W.heap.size W w'
theorem joined_of {W w' : World} {la lb : List En} {e : Ending} (hf : ∀ e ∈ la, e.key.size ≤ 6) (hf2 : ∀ e ∈ lb, e.key.size ≤ 6) (h : JoinA W la lb e w') : JoinedF W (joinF la lb) (joinB la lb) e w' := by
  obtain ⟨v, rfl, ho, hb⟩ := h
  have hl := joinF_len la lb
  obtain ⟨A, c, rfl, h1, h2, h3⟩ := ownE_parts (show OwnE w' W.heap.size v (joinF la lb) from ho)
  exact ⟨A, c, rfl, ⟨by omega, fun e he => (joinF_mem he).elim (hf e) (hf2 e), h3, h1, h2⟩, hb⟩
theorem joinI_few {W : World} {A A2 : Option Addr} {c c2 : Nat} {l l2 : List En} (h : Few W A c l) (h2 : Few W A2 c2 l2) : Calls Try.prog 26 #[.slice A l.length c, .slice A2 l2.length c2] W (JoinedF W (joinF l l2) (joinB l l2)) :=
  (runJoinI W W.heap.size l.length c l2.length c2 A A2 l l2 h.ents h2.ents (Nat.le_refl _) h.cap (by have := h.len; omega) (by have := h2.len; omega) h.fit h2.fit).mono fun _ _ k => joined_of h.short h2.short k
theorem joinS_few {W : World} {A A2 : Option Addr} {c c2 : Nat} {l l2 : List En} (h : Few W A c l) (h2 : Few W A2 c2 l2) : Calls Try.prog 32 #[.slice A l.length c, .slice A2 l2.length c2] W (JoinedF W (joinF l l2) (joinB l l2)) :=
  (runJoinS W W.heap.size l.length c l2.length c2 A A2 l l2 h.ents h2.ents (Nat.le_refl _) h.cap h.most (by have := h2.len; unfold maxLen; omega) h.fit h2.fit).mono fun _ _ k => joined_of h.short h2.short k
theorem joinI_is {W : World} {A A2 : Option Addr} {c c2 : Nat} {l l2 : List En} (h : Few W A c l) (h2 : Few W A2 c2 l2) {r : List En} {q : Bool} (hr : joinF l l2 = r) (hq : joinB l l2 = q) : Calls Try.prog 26 #[.slice A l.length c, .slice A2 l2.length c2] W (JoinedF W r q) := by
  rw [← hr, ← hq]; exact joinI_few h h2
theorem joinS_is {W : World} {A A2 : Option Addr} {c c2 : Nat} {l l2 : List En} (h : Few W A c l) (h2 : Few W A2 c2 l2) {r : List En} {q : Bool} (hr : joinF l l2 = r) (hq : joinB l l2 = q) : Calls Try.prog 32 #[.slice A l.length c, .slice A2 l2.length c2] W (JoinedF W r q) := by
  rw [← hr, ← hq]; exact joinS_few h h2
theorem few_nil (w : World) : Few w none 0 [] := ⟨by decide, fun e he => (by cases he), ⟨rfl, fun i hi => absurd hi (Nat.not_lt_zero _)⟩, Nat.le_refl _, by unfold maxLen; omega⟩
theorem runI_is {W : World} {A : Option Addr} {c : Nat} {l : List En} (h : Few W A c l) {b : Bool} (hb : runB l = b) : Calls Try.prog 24 #[.slice A l.length c] W fun e w' => e = .returned (.bool b) ∧ Below W.heap.size W w' := by
  rw [← hb]; exact runI W W.heap.size l.length c A l h.ents (Nat.le_refl _) (by have := h.len; unfold maxLen; omega) h.fit
theorem runS_is {W : World} {A : Option Addr} {c : Nat} {l : List En} (h : Few W A c l) {b : Bool} (hb : runB l = b) : Calls Try.prog 25 #[.slice A l.length c] W fun e w' => e = .returned (.bool b) ∧ Below W.heap.size W w' := by
  rw [← hb]; exact runS W W.heap.size l.length c A l h.ents (Nat.le_refl _) (by have := h.len; unfold maxLen; omega) h.fit
/-- P30 -/
theorem both_ways {la lb : List En} (h : joinB la lb = true) : joinB lb la = true ∧ joinF lb la = joinF la lb ∧ joinB la [] = true ∧ joinF la [] = la ∧ (joinF la lb).length = la.length + lb.length ∧ runB (joinF la lb) = true := by
  have hF := joinF_yes h
  obtain ⟨ha, hb, hj⟩ := joinB_iff.mp h
  have e := run_back ha hb hj
  have h2 : joinB lb la = true := joinB_iff.mpr ⟨hb, ha, by rw [e]; exact hj⟩
  have h0 : joinB la [] = true := joinB_iff.mpr ⟨ha, rfl, by rw [join_none]; exact ha⟩
  exact ⟨h2, by rw [joinF_yes h2, hF, e], h0, by rw [joinF_yes h0, join_none], by rw [hF, join_len], by rw [hF]; exact hj⟩
/-- P31: of two entries found the newer one counts -/
theorem joined_at {la lb : List En} (h : joinB la lb = true) (k : ByteArray) (t : Int) :
    atO (joinF la lb) k t = match atO la k t, atO lb k t with
      | some f, some g => if g.time < f.time then some f else some g
      | some f, none => some f
      | none, o => o := by
  have hF := joinF_yes h
  obtain ⟨ha, hb, hj⟩ := joinB_iff.mp h
  rw [hF, atO_run ha, atO_run hb, atO_run hj]
  exact at_join (run_iff.mp ha).2.2 (run_iff.mp hb).2.2 (run_iff.mp hj).2.2 k t
/-- P32 -/
theorem joined_three {la lb lc : List En} (h : joinB la lb = true) (h2 : joinB (joinF la lb) lc = true) : joinB lb lc = true ∧ joinB la (joinF lb lc) = true ∧ joinF la (joinF lb lc) = joinF (joinF la lb) lc := by
  have hF := joinF_yes h
  obtain ⟨ha, hb, hj⟩ := joinB_iff.mp h
  have hF2 := joinF_yes h2
  rw [hF] at h2 hF2
  obtain ⟨-, hc, hj2⟩ := joinB_iff.mp h2
  obtain ⟨k1, k2, k3⟩ := join_three ha hb hc hj hj2
  have g1 : joinB lb lc = true := joinB_iff.mpr ⟨hb, hc, k1⟩
  have hG := joinF_yes g1
  have g2 : joinB la (joinF lb lc) = true := by rw [hG]; exact joinB_iff.mpr ⟨ha, k1, k2⟩
  exact ⟨g1, g2, by rw [joinF_yes g2, hG, hF, hF2, k3]⟩

end Go.Proofs.Ytfpgjkanmanajaa.W
