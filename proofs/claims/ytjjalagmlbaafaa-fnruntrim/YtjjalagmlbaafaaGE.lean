/-
  RunTrim over entries that were drawn; what the laws of trimming ask, in mathematics.
-/
import Derived.Test.YtjjalagmlbaafaaGB
import Derived.Test.YtjjalagmlbaafaaGD
import Derived.Test.YtjjalagmlbaafaaEV
namespace Go.Proofs.Ytjjalagmlbaafaa.W
open Go.RowKit K R

/-- times that are there: few of them -/
structure FewN (w : World) (A : Option Addr) (l : List Int) : Prop where
  len : l.length ≤ 4
  nums : Nums w w.heap.size A l.length l
theorem FewN.below {w w' : World} {A : Option Addr} {l : List Int} (h : FewN w A l) (hb : Below w.heap.size w w') : FewN w' A l := ⟨h.len, (h.nums.below hb (Nat.le_refl _)).more hb.size⟩
theorem fewN_nil (w : World) : FewN w none [] := ⟨by decide, ⟨rfl, fun i hi => absurd hi (Nat.not_lt_zero _)⟩⟩
theorem trimO_sub (l : List En) (times : List Int) (bot : Bool) : (trimO l times bot).Sublist l := by
  unfold trimO
  split
  · exact trim_sub l times bot
  · exact List.nil_sublist _
theorem trimO_few {W : World} {A : Option Addr} {c : Nat} {l : List En} (h : Few W A c l) (times : List Int) (bot : Bool) : (trimO l times bot).length ≤ 45 ∧ ∀ e ∈ trimO l times bot, e.key.size ≤ 6 :=
  ⟨Nat.le_trans (trimO_sub l times bot).length_le h.len, fun e he => h.short e ((trimO_sub l times bot).subset he)⟩
theorem newT_of {W : World} {r : List En} {e : Ending} {w' : World} (h : MadeT W r e w') (hl : r.length ≤ 45) (hs : ∀ e ∈ r, e.key.size ≤ 6) : NewF W r e w' := by
  obtain ⟨v, he, ho, hb⟩ := h
  obtain ⟨A, c, hv, hf⟩ := few_of ho hl hs
  subst hv
  exact ⟨A, c, he, hf, hb⟩
theorem trimI_few {W : World} {A A2 : Option Addr} {c ct : Nat} {l : List En} {times : List Int} (h : Few W A c l) (h2 : FewN W A2 times) (bot : Bool) : Calls Try.prog 33 #[.slice A l.length c, .slice A2 times.length ct, .bool bot] W (NewF W (trimO l times bot)) :=
  (runTrimI W W.heap.size l.length c times.length ct A A2 l times bot h.ents h2.nums (Nat.le_refl _) (by have := h.len; unfold maxLen; omega) (by have := h2.len; unfold maxLen; omega) h.fit).mono fun _ _ hm => newT_of hm (trimO_few h times bot).1 (trimO_few h times bot).2
theorem trimS_few {W : World} {A A2 : Option Addr} {c ct : Nat} {l : List En} {times : List Int} (h : Few W A c l) (h2 : FewN W A2 times) (bot : Bool) : Calls Try.prog 34 #[.slice A l.length c, .slice A2 times.length ct, .bool bot] W (NewF W (trimO l times bot)) :=
  (runTrimS W W.heap.size l.length c times.length ct A A2 l times bot h.ents h2.nums (Nat.le_refl _) (by have := h.len; unfold maxLen; omega) (by have := h2.len; unfold maxLen; omega) h.fit).mono fun _ _ hm => newT_of hm (trimO_few h times bot).1 (trimO_few h times bot).2
theorem runT_few {W : World} {A : Option Addr} {c : Nat} {l : List En} (h : Few W A c l) : Calls Try.prog 24 #[.slice A l.length c] W fun e w' => e = .returned (.bool (runB l)) ∧ Below W.heap.size W w' :=
  runS W W.heap.size l.length c A l h.ents (Nat.le_refl _) (by have := h.len; unfold maxLen; omega) h.fit
theorem runTI_few {W : World} {A : Option Addr} {c : Nat} {l : List En} (h : Few W A c l) : Calls Try.prog 23 #[.slice A l.length c] W fun e w' => e = .returned (.bool (runB l)) ∧ Below W.heap.size W w' :=
  runI W W.heap.size l.length c A l h.ents (Nat.le_refl _) (by have := h.len; unfold maxLen; omega) h.fit
theorem keysT_few {W : World} {A : Option Addr} {c : Nat} {l : List En} (h : Few W A c l) : Calls Try.prog 35 #[.slice A l.length c] W (New W (keysO l)) :=
  runKeysI W W.heap.size l.length c A l h.ents (Nat.le_refl _) (by have := h.len; omega) h.fit
theorem trimO_run {l : List En} (h : runB l = true) (times : List Int) (bot : Bool) : trimO l times bot = trimL l times bot := by unfold trimO; rw [if_pos h]
/-- P35 -/
theorem trim_twice {l : List En} (h : runB l = true) (times : List Int) : trimO (trimO l times false) times false = trimO l times false ∧ (trimO l [] false).length = (keysO l).length ∧ (trimO l times false).length ≤ (trimO l [] false).length * (times.length + 1) := by
  have e : ∀ ts, trimO l ts false = visL l ts := fun ts => trimO_run h ts false
  have hk : keysO l = keysL l := by unfold keysO; rw [if_pos h]
  rw [e, e, hk]
  refine ⟨?_, few_len (run_iff.mp h).2.2, vis_len h times⟩
  rw [trimO_run (run_part h (vis_sub l times))]
  exact vis_vis l times

end Go.Proofs.Ytjjalagmlbaafaa.W
