/-
  RunList over entries that were drawn; what the laws of lists ask, in mathematics.
-/
import Derived.Test.YtfpgjkanmanajaaET
import Derived.Test.YtfpgjkanmanajaaER
import Derived.Test.YtfpgjkanmanajaaEL
namespace Go.Proofs.Ytfpgjkanmanajaa.W
open Go.RowKit K R

/-- a slice of few entries is answered -/
def NewF (W : World) (r : List En) (e : Ending) (w' : World) : Prop := ∃ (A : Option Addr) (c : Nat), e = .returned (.slice A r.length c) ∧ Few w' A c r ∧ Below W.heap.size W w'
theorem newF_of {W : World} {r : List En} {e : Ending} {w' : World} (h : MadeE W r e w') (hl : r.length ≤ 45) (hs : ∀ e ∈ r, e.key.size ≤ 6) : NewF W r e w' := by
  obtain ⟨v, he, ho, hb⟩ := h
  obtain ⟨A, c, hv, hf⟩ := few_of ho hl hs
  subst hv
  exact ⟨A, c, he, hf, hb⟩
theorem listO_sub {l : List En} {f u : ByteArray} {t : Int} {e : En} (h : e ∈ listO l f u t) : runB l = true ∧ e ∈ listL l f u t ∧ e ∈ l := by
  unfold listO at h
  split at h
  · exact ⟨by assumption, h, (at_some (mem_list.mp h).1).1⟩
  · cases h
theorem listO_few {W : World} {A : Option Addr} {c : Nat} {l : List En} (h : Few W A c l) (f u : ByteArray) (t : Int) : (listO l f u t).length ≤ 45 ∧ ∀ e ∈ listO l f u t, e.key.size ≤ 6 := by
  refine ⟨?_, fun e he => h.short e (listO_sub he).2.2⟩
  rw [← listO_is]
  exact Nat.le_trans (filt_len _ _) (Nat.le_trans (keysO_le l) h.len)
theorem listI_few {W : World} {A : Option Addr} {c : Nat} {l : List En} (h : Few W A c l) (f u : ByteArray) (t : Int) : Calls Try.prog 42 #[.slice A l.length c, .string f, .string u, .int .i64 t] W (NewF W (listO l f u t)) :=
  (runListI W W.heap.size l.length c A l f u t h.ents (Nat.le_refl _) (by have := h.len; omega) h.fit).mono fun _ _ hm => newF_of hm (listO_few h f u t).1 (listO_few h f u t).2
theorem listS_few {W : World} {A : Option Addr} {c : Nat} {l : List En} (h : Few W A c l) (f u : ByteArray) (t : Int) : Calls Try.prog 43 #[.slice A l.length c, .string f, .string u, .int .i64 t] W (NewF W (listO l f u t)) :=
  (runListS W W.heap.size l.length c A l f u t h.ents (Nat.le_refl _) (by have := h.len; unfold maxLen; omega) h.fit).mono fun _ _ hm => newF_of hm (listO_few h f u t).1 (listO_few h f u t).2
theorem same_few {W : World} {A A2 : Option Addr} {c c2 : Nat} {l : List En} (h : Few W A c l) (h2 : Few W A2 c2 l) : Calls Try.prog 27 #[.slice A l.length c, .slice A2 l.length c2] W fun e w' => e = .returned (.bool true) ∧ Below W.heap.size W w' :=
  ltRunsSame W W.heap.size l.length c c2 A A2 l h.ents h2.ents (Nat.le_refl _) (by have := h.len; unfold maxLen; omega)
theorem listO_again (l : List En) (f u : ByteArray) (t : Int) : listO (listO l f u t) f u t = listO l f u t := by
  rcases Bool.eq_false_or_eq_true (runB l) with h | h
  · have e : listO l f u t = listL l f u t := by unfold listO; rw [if_pos h]
    rw [e]
    unfold listO
    rw [if_pos (list_run h f u t)]
    exact list_list (run_iff.mp h).2.2 f u t
  · have e : listO l f u t = [] := by unfold listO; rw [h]; rfl
    rw [e]
    rfl
theorem listO_zero (l : List En) (f u : ByteArray) : listO l f u 0 = [] := by
  unfold listO
  split
  · rename_i h; exact list_zero h f u
  · rfl
theorem listO_time {l : List En} {f u : ByteArray} {t : Int} {i : Nat} (h : i < (listO l f u t).length) : (listO l f u t)[i].time ≤ t ∧ (listO l f u t)[i].gone = false := list_time (listO_sub (List.getElem_mem h)).2.1

end Go.Proofs.Ytfpgjkanmanajaa.W
