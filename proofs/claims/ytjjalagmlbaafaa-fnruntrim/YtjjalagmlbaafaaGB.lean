/-
  RunTrim, the model's and the program's.
-/
import Derived.Test.YtjjalagmlbaafaaGA
import Derived.Test.YtjjalagmlbaafaaE5
namespace Go.Proofs.Ytjjalagmlbaafaa.W
open Go.RowKit K R

/-- what is left of a run -/
def trimO (l : List En) (times : List Int) (bot : Bool) : List En := if runB l = true then trimL l times bot else []
/-- a new slice of entries, nil or not -/
def MadeT (w : World) (l : List En) (e : Ending) (w' : World) : Prop := ∃ v, e = .returned v ∧ OwnE w' w.heap.size v l ∧ Below w.heap.size w w'

set_option maxHeartbeats 1000000 in
theorem runTrimS (w : World) (B n c nt ct : Nat) (A A2 : Option Addr) (l : List En) (times : List Int) (bot : Bool) (hr : Ents w B A n l) (hr2 : Nums w B A2 nt times) (hB : B ≤ w.heap.size) (hn : n ≤ maxLen) (hnt : nt ≤ maxLen) (hf : ∀ e ∈ l, e.key.size ≤ maxLen) :
    Calls Try.prog 34 #[.slice A n c, .slice A2 nt ct, .bool bot] w (MadeT w (trimO l times bot)) := by
  have hlen := hr.len
  subst hlen
  rcases Bool.eq_false_or_eq_true (runB l) with ha | ha
  · have HJ := Lib.hid (show trimO l times bot = trimL l times bot by unfold trimO; rw [if_pos ha])
    have hl := (run_iff.mp ha).1
    have HORD := Lib.hid (run_iff.mp ha).2.2
    have HA := Lib.hid (show Calls Try.prog 24 #[.slice A l.length c] w fun e w' => e = .returned (.bool true) ∧ Below w.heap.size w w' from by rw [← ha]; exact runS w B l.length c A l hr hB hn hf)
    have HR := Lib.hid hr
    have HR2 := Lib.hid hr2
    clear ha hr hr2 hf
    go_enter Try.func34, Try.ntmps34
    go_wp2_with fail
    go_at_call 24
    refine HA.out.mono ?_
    rintro e w1 ⟨rfl, b1⟩
    have HB1 := Lib.hid b1
    clear b1
    go_wp2_with fail
    go_at_call 72
    refine Calls.mono (trimS w1 B l.length c nt ct A A2 l times bot (HR.out.below HB1.out hB) (HR2.out.below HB1.out hB) (Nat.le_trans hB HB1.out.size) (by omega) hnt HORD.out) ?_
    rintro e w2 ⟨v, rfl, o2, b2⟩
    have HO2 := Lib.hid (ownE_base o2 HB1.out.size)
    have HB2 := Lib.hid (HB1.out.trans (b2.mono HB1.out.size))
    clear o2 b2
    go_wp2
    go_ret
    exact ⟨_, rfl, by rw [HJ.out]; exact HO2.out, HB2.out⟩
  · have HJ := Lib.hid (show trimO l times bot = [] by unfold trimO; rw [ha]; rfl)
    have HA := Lib.hid (show Calls Try.prog 24 #[.slice A l.length c] w fun e w' => e = .returned (.bool false) ∧ Below w.heap.size w w' from by rw [← ha]; exact runS w B l.length c A l hr hB hn hf)
    clear ha hr hr2 hf
    go_enter Try.func34, Try.ntmps34
    go_wp2_with fail
    go_at_call 24
    refine HA.out.mono ?_
    rintro e w1 ⟨rfl, b1⟩
    have HB1 := Lib.hid b1
    clear b1
    go_wp2
    go_ret
    exact ⟨_, rfl, by rw [HJ.out]; exact ownE_base (emptyE w1) HB1.out.size, HB1.out.alloc HB1.out.size _⟩

set_option maxHeartbeats 2000000 in
theorem runTrimI (w : World) (B n c nt ct : Nat) (A A2 : Option Addr) (l : List En) (times : List Int) (bot : Bool) (hr : Ents w B A n l) (hr2 : Nums w B A2 nt times) (hB : B ≤ w.heap.size) (hn : n ≤ maxLen) (hnt : nt ≤ maxLen) (hf : ∀ e ∈ l, e.key.size ≤ maxLen) :
    Calls Try.prog 33 #[.slice A n c, .slice A2 nt ct, .bool bot] w (MadeT w (trimO l times bot)) := by
  have hlen := hr.len
  subst hlen
  rcases Bool.eq_false_or_eq_true (runB l) with ha | ha
  · have hl := (run_iff.mp ha).1
    have ho := (run_iff.mp ha).2.2
    have HVO := Lib.hid (vis_ord ho times)
    have HT0 := Lib.hid (show trimO l times false = visL l times by unfold trimO; rw [if_pos ha]; rfl)
    have HT1 := Lib.hid (show trimO l times true = bottomL (visL l times) by unfold trimO; rw [if_pos ha]; rfl)
    have hvl : (visL l times).length ≤ l.length := List.length_filter_le _ _
    have HA := Lib.hid (show Calls Try.prog 23 #[.slice A l.length c] w fun e w' => e = .returned (.bool true) ∧ Below w.heap.size w w' from by rw [← ha]; exact runI w B l.length c A l hr hB hn hf)
    have HC := Lib.hid (show ∀ W, Below w.heap.size w W → Calls Try.prog 70 #[.slice A l.length c, .slice A2 nt ct] W fun e w' => ∃ v, e = .returned v ∧ OwnE w' w.heap.size v (visL l times) ∧ Below w.heap.size w w' from fun W hW => by
      have h := visI W B l.length c nt ct A A2 l times (hr.below hW hB) (hr2.below hW hB) (Nat.le_trans hB hW.size) (by omega) hnt
      rw [vis_is ho times] at h
      exact h.mono fun _ _ ⟨v, he, hq, hb⟩ => ⟨v, he, ownE_base hq hW.size, hW.trans (hb.mono hW.size)⟩)
    clear ha hr hr2 hf ho
    obtain ⟨vs, hvs⟩ : ∃ vs, vs = visL l times := ⟨_, rfl⟩
    rw [← hvs] at HVO HT0 HT1 hvl HC
    clear hvs
    cases bot with
    | false =>
      go_enter Try.func33, Try.ntmps33
      go_wp2_with fail
      go_at_call 23
      refine HA.out.mono ?_
      rintro e w1 ⟨rfl, b1⟩
      have HB1 := Lib.hid b1
      clear b1
      go_wp2_with fail
      go_at_call 70
      refine Calls.mono (HC.out w1 HB1.out) ?_
      rintro e w2 ⟨v, rfl, o2, b2⟩
      have HO2 := Lib.hid o2
      have HB2 := Lib.hid b2
      clear o2 b2
      go_wp2
      go_ret
      exact ⟨_, rfl, by rw [HT0.out]; exact HO2.out, HB2.out⟩
    | true =>
      go_enter Try.func33, Try.ntmps33
      go_wp2_with fail
      go_at_call 23
      refine HA.out.mono ?_
      rintro e w1 ⟨rfl, b1⟩
      have HB1 := Lib.hid b1
      clear b1
      go_wp2_with fail
      go_at_call 70
      refine Calls.mono (HC.out w1 HB1.out) ?_
      rintro e w2 ⟨v, rfl, o2, b2⟩
      obtain ⟨V, cv, hv, -, -, e2⟩ := ownE_parts o2
      subst hv
      have HB2 := Lib.hid b2
      have HD := Lib.hid (show Calls Try.prog 71 #[.slice V vs.length cv] w2 fun e w' => ∃ v, e = .returned v ∧ OwnE w' w2.heap.size v (bottomL vs) ∧ Below w2.heap.size w2 w' from by
        have h := botI w2 w2.heap.size vs.length cv V vs e2 (Nat.le_refl _) (by omega)
        have hb := bot_is HVO.out
        rw [show selUp vs (keepI vs) vs.length = bottomL vs from hb] at h
        exact h)
      clear o2 b2 e2
      go_wp2_with fail
      go_at_call 71
      refine Calls.mono HD.out ?_
      rintro e w3 ⟨v, rfl, o3, b3⟩
      have HO3 := Lib.hid (ownE_base o3 HB2.out.size)
      have HB3 := Lib.hid (HB2.out.trans (b3.mono HB2.out.size))
      clear o3 b3
      go_wp2
      go_ret
      exact ⟨_, rfl, by rw [HT1.out]; exact HO3.out, HB3.out⟩
  · have HJ := Lib.hid (show trimO l times bot = [] by unfold trimO; rw [ha]; rfl)
    have HA := Lib.hid (show Calls Try.prog 23 #[.slice A l.length c] w fun e w' => e = .returned (.bool false) ∧ Below w.heap.size w w' from by rw [← ha]; exact runI w B l.length c A l hr hB hn hf)
    clear ha hr hr2 hf
    go_enter Try.func33, Try.ntmps33
    go_wp2_with fail
    go_at_call 23
    refine HA.out.mono ?_
    rintro e w1 ⟨rfl, b1⟩
    have HB1 := Lib.hid b1
    clear b1
    go_wp2
    go_ret
    exact ⟨_, rfl, by rw [HJ.out]; exact nilE2 _ _, HB1.out⟩

end Go.Proofs.Ytjjalagmlbaafaa.W
