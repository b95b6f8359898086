/-
  The contract of the model's KeysSort, at every slice of strings that can be read: a new slice of the keys among them, each once, in order.
-/
import Derived.Test.YtipkhpijanhfiaaS5
namespace Go.Proofs.Ytipkhpijanhfiaa.W
open Go.RowKit K

/-- a new slice holds the strings r; nothing that was there has turned -/
def New (w : World) (r : List ByteArray) (e : Ending) (w' : World) : Prop := ∃ v, e = .returned v ∧ Own w' w.heap.size v r ∧ Below w.heap.size w w'

/-- the result of putting a key into a slice of the call's own is one of its own -/
theorem PutR.own {w w' : World} {base : Nat} {v0 : Value} {l : List ByteArray} {s : ByteArray} {e : Ending} (h : PutR w v0 l s e w') (ho : Own w base v0 l) (hb : base ≤ w.heap.size) :
    ∃ v', e = .returned v' ∧ Below w.heap.size w w' ∧ Own w' base v' (put l s) := by
  obtain ⟨v', he, hbl, h⟩ := h
  refine ⟨v', he, hbl, ?_⟩
  rcases h with ⟨rfl, hp⟩ | h
  · rw [hp]; exact ho.below hbl
  · exact h.base hb

set_option maxHeartbeats 1000000 in
theorem sortS (w : World) (B n c : Nat) (A : Option Addr) (l : List ByteArray) (hr : Strs w B A n l) (hB : B ≤ w.heap.size) (hn : n ≤ 1000000000000) (hf : Fit l) :
    Calls Try.prog 19 #[.slice A n c] w (New w (sort l)) := by
  have hlen := hr.len
  subst hlen
  have HR := Lib.hid hr
  have HF := Lib.hid hf
  clear hr hf
  go_enter Try.func19, Try.ntmps19
  go_wp2
  go_loopw [3, 4] (fun out i wr => ∃ k : Nat, k ≤ l.length ∧ i = .int .i64 (k : Nat) ∧ Own wr w.heap.size out (sort (l.take k)) ∧ Below w.heap.size w wr) (fun _ i _ => l.length - (intOf i).toNat)
  case atStart => exact ⟨0, Nat.zero_le _, rfl, Own.empty w _ (Nat.le_refl _), (Below.refl _ _).alloc (Nat.le_refl _) _⟩
  case round =>
    obtain ⟨k, hk, rfl, ho, hb⟩ := hrel
    have HO := Lib.hid ho
    have HB := Lib.hid hb
    have hsz := hb.size
    clear ho hb
    by_cases hlt : k < l.length
    · obtain ⟨b, off, hA, hbB, hc⟩ := (HR.out.below HB.out hB).cell k hlt
      subst hA
      have hfit := HF.out.get hlt
      rcases Bool.eq_false_or_eq_true (keyB l[k]) with hkb | hkb
      · have HK := Lib.hid hkb
        go_wp2_with fail
        go_at_call 28
        refine (keyS _ _ hfit).mono ?_
        rintro e w' ⟨rfl, rfl⟩
        obtain ⟨A1, c1, hv, hc1, hm1, hs1⟩ := HO.out.parts
        subst hv
        have hl1 := sort_len (l.take k)
        rw [List.length_take] at hl1
        go_wp2_with fail
        go_at_call 41
        refine (putS wr wr.heap.size _ _ _ _ _ hs1 (Nat.le_refl _) (by omega)).mono ?_
        intro e w2 hp
        obtain ⟨v2, rfl, hb2, ho2⟩ := hp.own HO.out hsz
        have HO2 := Lib.hid ho2
        have HB2 := Lib.hid (HB.out.trans (hb2.mono hsz))
        clear hp hb2 ho2 hs1 hc1 hm1 hl1
        go_wp2
        go_roundw
        case rel => exact ⟨k + 1, by omega, by go_num, by rw [take_get hlt, sort_snoc, if_pos HK.out]; exact HO2.out, HB2.out⟩
        case measure => simp [intOf]; omega
      · have HK := Lib.hid hkb
        go_wp2_with (go_at_call 28; refine (keyS _ _ hfit).mono ?_; rintro e w' ⟨rfl, rfl⟩)
        go_roundw
        case rel => exact ⟨k + 1, by omega, by go_num, by rw [take_get hlt, sort_snoc, if_neg (by rw [HK.out]; simp)]; exact HO.out, HB.out⟩
        case measure => simp [intOf]; omega
    · have hke : k = l.length := by omega
      subst hke
      rw [List.take_of_length_le (Nat.le_refl _)] at HO
      go_wp2
      go_ret
      exact ⟨_, rfl, HO.out, HB.out⟩

end Go.Proofs.Ytipkhpijanhfiaa.W
