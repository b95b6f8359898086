/-
  The contract of the program's BlockRead.
-/
import Derived.Test.YtbckgmfopbpocaaDoorC4
namespace Go.Proofs.YtbckgmfopbpocaaDoor.W
open Go.RowKit K R B

theorem text_rns {es : List En} {t : List UInt8} (h : readL t = some es) : (∀ e ∈ es, okE e = true) ∧ (∀ c ∈ t, c.toNat < 128) ∧ rns t = rns (runL es ++ 33 :: decL (sumB (runL es))) := by
  obtain ⟨h1, h2⟩ := read_some.mp h
  have hb := block_ne (l := es) (by rw [h2]; exact h1)
  rw [hb.2.2] at h2
  have hok := run_all hb.1
  refine ⟨hok, ?_, ?_⟩
  · rw [← h2]; exact text_small hok
  · rw [← h2]; rfl

set_option maxHeartbeats 4000000 in
set_option maxRecDepth 100000 in
/-- the program's BlockRead -/
theorem readI (s : ByteArray) (w : World) (hs : s.size ≤ 1900000) (hT : Tab w) (hE : ErrB w.heap.size w) :
    Calls Tryd.prog 13 #[.string s] w (ReadA w (readL s.data.toList)) := by
  obtain ⟨l0, hl0, hrn, hasc, hemp⟩ := runes_of s
  have HEN := Lib.hid (entsI s w hs hE l0 hl0 hrn)
  have HT := Lib.hid hT
  have HASC := Lib.hid hasc
  have HEMP := Lib.hid hemp
  clear hrn hT hE hasc hemp
  go_enter Tryd.func13, Tryd.ntmps13
  go_wp2_with fail
  go_at_call 33
  refine Calls.mono HEN.out ?_
  rintro e w1 ⟨v, acc, ok, rfl, ho1, hb1, hal, hkey, hes, hnil⟩
  have hyes : ∀ es, readL s.data.toList = some es → ok = true ∧ acc = es := fun es h => by
    obtain ⟨h1, h2, h3⟩ := text_rns h
    exact hes es _ h1 ((HASC.out h2).trans h3)
  obtain ⟨A, c, rfl, hlc, hcm, hen⟩ := ownE_parts ho1
  have HO1 := Lib.hid ho1
  have HB1 := Lib.hid hb1
  have hs1 := hb1.size
  have HBT := Lib.hid (blockI w1 w1.heap.size _ c A acc hen (Nat.le_refl _) (by unfold maxLen; omega) (fun e he => by have := hkey e he; unfold maxLen; omega) (HT.out.on hb1))
  clear ho1 hb1 hen hes hkey HEN
  cases hok : ok with
  | false =>
    have HR := Lib.hid (show readL s.data.toList = none by
      cases e : readL s.data.toList with
      | none => rfl
      | some es => have := (hyes es e).1; rw [hok] at this; cases this)
    clear hyes hnil hok
    go_wp2
    go_ret2
    exact ⟨_, by rw [HR.out]; rfl, by rw [HR.out]; exact nilE _ _, HB1.out⟩
  | true =>
    have hne : s.data.toList ≠ [] := by
      intro e
      have h0 : s.size = 0 := by rw [← len_l, e]; rfl
      have := hnil (HEMP.out h0)
      rw [hok] at this; cases this
    obtain ⟨X, hX⟩ : ∃ X, X = ofL (blockL acc) := ⟨_, rfl⟩
    rw [← hX] at HBT
    cases he : (X.toList == s.toList) with
    | true =>
      have hXs : X = s := eqs_iff.mp he
      have HR := Lib.hid (show readL s.data.toList = some acc from read_some.mpr ⟨hne, by rw [← hXs, hX, ofL_data]⟩)
      clear hyes hnil hok hX hXs hne
      go_wp2_with (go_at_call 11; refine Calls.mono HBT.out ?_; rintro e w2 ⟨rfl, hb2⟩; have HO2 := Lib.hid (rowBelow HO1.out hb2); have HB2 := Lib.hid (HB1.out.trans (hb2.mono hs1)); clear hb2)
      go_ret2
      exact ⟨_, by rw [HR.out]; rfl, by rw [HR.out]; exact HO2.out, HB2.out⟩
    | false =>
      have hXs : X ≠ s := eqs_false.mp he
      have HR := Lib.hid (show readL s.data.toList = none by
        cases e : readL s.data.toList with
        | none => rfl
        | some es =>
          obtain ⟨h1, h2⟩ := read_some.mp e
          rw [← (hyes es e).2] at h2
          exact absurd (by rw [hX, h2, of_data]) hXs)
      clear hyes hnil hok hX hXs hne
      go_wp2_with (go_at_call 11; refine Calls.mono HBT.out ?_; rintro e w2 ⟨rfl, hb2⟩; have HB2 := Lib.hid (HB1.out.trans (hb2.mono hs1)); clear hb2)
      go_ret2
      exact ⟨_, by rw [HR.out]; rfl, by rw [HR.out]; exact nilE _ _, HB2.out⟩

end Go.Proofs.YtbckgmfopbpocaaDoor.W
