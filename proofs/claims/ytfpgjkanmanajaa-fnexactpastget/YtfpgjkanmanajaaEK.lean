/-
  RunJoin, the model's.
-/
import Derived.Test.YtfpgjkanmanajaaEJ
namespace Go.Proofs.Ytfpgjkanmanajaa.W
open Go.RowKit K R

theorem ownE_parts {w : World} {base : Nat} {v : Value} {l : List En} (h : OwnE w base v l) : ∃ (A : Option Addr) (c : Nat), v = .slice A l.length c ∧ l.length ≤ c ∧ c ≤ maxLen ∧ Ents w w.heap.size A l.length l := by
  rcases h.2 with ⟨rfl, h0⟩ | ⟨g, cap, cur, rfl, hb, hg, hc, hm, hs, ht⟩
  · have : l = [] := List.eq_nil_of_length_eq_zero h0
    subst this
    exact ⟨none, 0, rfl, Nat.le_refl _, by unfold maxLen; omega, ⟨rfl, fun i hi => absurd hi (Nat.not_lt_zero _)⟩⟩
  · exact ⟨_, cap, rfl, hc, hm, OwnE.ents h rfl⟩
/-- whether two runs can be joined -/
def joinB (la lb : List En) : Bool := runB la && (runB lb && runB (joinL la lb))
/-- the answer: what is joined, and whether it could be -/
def JoinA (w : World) (la lb : List En) (e : Ending) (w' : World) : Prop :=
  ∃ v, e = .returned (.tuple #[v, .bool (joinB la lb)]) ∧ OwnE w' w.heap.size v (if joinB la lb = true then joinL la lb else []) ∧ Below w.heap.size w w'
theorem ownE_base {w : World} {base base' : Nat} {v : Value} {l : List En} (h : OwnE w base v l) (hb : base' ≤ base) : OwnE w base' v l := by
  refine ⟨h.1, ?_⟩
  rcases h.2 with hn | ⟨g, cap, cur, hv, hbg, rest⟩
  · exact .inl hn
  · exact .inr ⟨g, cap, cur, hv, by omega, rest⟩

set_option maxHeartbeats 4000000 in
theorem runJoinS (w : World) (B na ca nb cb : Nat) (A1 A2 : Option Addr) (la lb : List En) (hr : Ents w B A1 na la) (hr2 : Ents w B A2 nb lb) (hB : B ≤ w.heap.size) (hca : na ≤ ca) (hcm : ca ≤ maxLen) (hn2 : nb ≤ maxLen) (hf : ∀ e ∈ la, e.key.size ≤ maxLen) (hf2 : ∀ e ∈ lb, e.key.size ≤ maxLen) :
    Calls Try.prog 32 #[.slice A1 na ca, .slice A2 nb cb] w (JoinA w la lb) := by
  have hlen := hr.len
  subst hlen
  have hlen := hr2.len
  subst hlen
  have HR := Lib.hid hr
  have HR2 := Lib.hid hr2
  have HF := Lib.hid hf
  have HF2 := Lib.hid hf2
  clear hr hr2 hf hf2
  rcases Bool.eq_false_or_eq_true (runB la) with ha | ha
  · rcases Bool.eq_false_or_eq_true (runB lb) with hb | hb
    · have l1 := (run_iff.mp ha).1
      have l2 := (run_iff.mp hb).1
      have HA := Lib.hid (show Calls Try.prog 25 #[.slice A1 la.length ca] w fun e w' => e = .returned (.bool true) ∧ Below w.heap.size w w' from by rw [← ha]; exact runS w B la.length ca A1 la HR.out hB (by omega) HF.out)
      have HBB := Lib.hid (show ∀ W, Below w.heap.size w W → Calls Try.prog 25 #[.slice A2 lb.length cb] W fun e w' => e = .returned (.bool true) ∧ Below W.heap.size W w' from fun W hW => by rw [← hb]; exact runS W B lb.length cb A2 lb (HR2.out.below hW hB) (Nat.le_trans hB hW.size) hn2 HF2.out)
      obtain ⟨q, hq⟩ : ∃ q, runB (joinL la lb) = q := ⟨_, rfl⟩
      have HJ := Lib.hid (show joinB la lb = q by unfold joinB; rw [ha, hb, hq]; rfl)
      have HQ := Lib.hid (show ∀ (W : World) (A : Option Addr) (c : Nat), Ents W W.heap.size A (joinL la lb).length (joinL la lb) → Calls Try.prog 25 #[.slice A (joinL la lb).length c] W fun e w' => e = .returned (.bool q) ∧ Below W.heap.size W w' from fun W A c h => by
        rw [← hq]
        exact runS W W.heap.size _ c A _ h (Nat.le_refl _) (by rw [join_len]; unfold maxLen; omega) (fun e he => (mem_join.mp he).elim (HF.out e) (HF2.out e)))
      clear ha hb hq
      go_enter Try.func32, Try.ntmps32
      go_wp2_with fail
      go_at_call 25
      refine HA.out.mono ?_
      rintro e w1 ⟨rfl, b1⟩
      have HB1 := Lib.hid b1
      clear b1
      go_wp2_with fail
      go_at_call 25
      refine Calls.mono (HBB.out w1 HB1.out) ?_
      rintro e w2 ⟨rfl, b2⟩
      have HB2 := Lib.hid (HB1.out.trans (b2.mono HB1.out.size))
      clear b2
      go_wp2_with fail
      go_at_call 70
      refine Calls.mono (joinS w2 B la.length ca lb.length cb A1 A2 la lb (HR.out.below HB2.out hB) (HR2.out.below HB2.out hB) (Nat.le_trans hB HB2.out.size) hca (by omega) (by omega)) ?_
      rintro e w3 ⟨v3, rfl, o3, b3⟩
      have HB3 := Lib.hid (HB2.out.trans (b3.mono HB2.out.size))
      have HO3 := Lib.hid (ownE_base o3 HB2.out.size)
      obtain ⟨A3, c3, hv3, -, -, e3⟩ := ownE_parts o3
      subst hv3
      have HE3 := Lib.hid e3
      clear o3 b3 e3
      go_wp2_with fail
      go_at_call 25
      refine Calls.mono (HQ.out w3 A3 c3 HE3.out) ?_
      rintro e w4 ⟨rfl, b4⟩
      have HB4 := Lib.hid (HB3.out.trans (b4.mono HB3.out.size))
      have HO4 := Lib.hid (rowBelow HO3.out b4)
      clear b4
      cases q with
      | true =>
        go_wp2
        go_ret2
        exact ⟨_, by rw [HJ.out]; rfl, by rw [HJ.out, if_pos rfl]; exact HO4.out, HB4.out⟩
      | false =>
        go_wp2
        go_ret2
        exact ⟨_, by rw [HJ.out]; rfl, by rw [HJ.out, if_neg (by decide)]; exact ownE_base (emptyE w4) HB4.out.size, HB4.out.alloc HB4.out.size _⟩
    · have l1 := (run_iff.mp ha).1
      have HJ := Lib.hid (show joinB la lb = false by unfold joinB; rw [ha, hb]; rfl)
      have HA := Lib.hid (show Calls Try.prog 25 #[.slice A1 la.length ca] w fun e w' => e = .returned (.bool true) ∧ Below w.heap.size w w' from by rw [← ha]; exact runS w B la.length ca A1 la HR.out hB (by omega) HF.out)
      have HBB := Lib.hid (show ∀ W, Below w.heap.size w W → Calls Try.prog 25 #[.slice A2 lb.length cb] W fun e w' => e = .returned (.bool false) ∧ Below W.heap.size W w' from fun W hW => by rw [← hb]; exact runS W B lb.length cb A2 lb (HR2.out.below hW hB) (Nat.le_trans hB hW.size) hn2 HF2.out)
      clear ha hb
      go_enter Try.func32, Try.ntmps32
      go_wp2_with fail
      go_at_call 25
      refine HA.out.mono ?_
      rintro e w1 ⟨rfl, b1⟩
      have HB1 := Lib.hid b1
      clear b1
      go_wp2_with fail
      go_at_call 25
      refine Calls.mono (HBB.out w1 HB1.out) ?_
      rintro e w2 ⟨rfl, b2⟩
      have HB2 := Lib.hid (HB1.out.trans (b2.mono HB1.out.size))
      clear b2
      go_wp2
      go_ret2
      exact ⟨_, by rw [HJ.out]; rfl, by rw [HJ.out, if_neg (by decide)]; exact ownE_base (emptyE w2) HB2.out.size, HB2.out.alloc HB2.out.size _⟩
  · have HJ := Lib.hid (show joinB la lb = false by unfold joinB; rw [ha]; rfl)
    have HA := Lib.hid (show Calls Try.prog 25 #[.slice A1 la.length ca] w fun e w' => e = .returned (.bool false) ∧ Below w.heap.size w w' from by rw [← ha]; exact runS w B la.length ca A1 la HR.out hB (by omega) HF.out)
    clear ha
    go_enter Try.func32, Try.ntmps32
    go_wp2_with fail
    go_at_call 25
    refine HA.out.mono ?_
    rintro e w1 ⟨rfl, b1⟩
    have HB1 := Lib.hid b1
    clear b1
    go_wp2
    go_ret2
    exact ⟨_, by rw [HJ.out]; rfl, by rw [HJ.out, if_neg (by decide)]; exact ownE_base (emptyE w1) HB1.out.size, HB1.out.alloc HB1.out.size _⟩

end Go.Proofs.Ytfpgjkanmanajaa.W
