/-
  Runs that are the same, told so.
-/
import Derived.Test.YtbckgmfopbpocaaDoorE9
namespace Go.Proofs.YtbckgmfopbpocaaDoor.W
open Go.RowKit K R

set_option maxHeartbeats 4000000 in
theorem ltRunsSame (w : World) (B n c c2 : Nat) (A A2 : Option Addr) (l : List En) (hr : Ents w B A n l) (hr2 : Ents w B A2 n l) (hB : B ≤ w.heap.size) (hn : n ≤ maxLen) :
    Calls Tryd.prog 14 #[.slice A n c, .slice A2 n c2] w fun e w' => e = .returned (.bool true) ∧ Below w.heap.size w w' := by
  have hlen := hr.len
  subst hlen
  unfold maxLen at hn
  have HR := Lib.hid hr
  have HR2 := Lib.hid hr2
  clear hr hr2
  go_enter Tryd.func14, Tryd.ntmps14
  go_wp2_with fail
  go_loopw [5] (fun i wr => ∃ k : Nat, k ≤ l.length ∧ i = .int .i64 (k : Nat) ∧ Below w.heap.size w wr) (fun i _ => l.length - (intOf i).toNat)
  case atStart => exact ⟨0, Nat.zero_le _, rfl, Below.refl _ _⟩
  case round =>
    obtain ⟨k, hk, rfl, hb⟩ := hrel
    have HBL := Lib.hid hb
    clear hb
    by_cases hlt : k < l.length
    · obtain ⟨kb, ko, hA, hkb, c0, c1, c2, c3⟩ := (HR.out.below HBL.out hB).cell k hlt
      obtain ⟨jb, jo, hA2, hjb, d0, d1, d2, d3⟩ := (HR2.out.below HBL.out hB).cell k hlt
      subst hA hA2
      obtain ⟨x0, h0⟩ : ∃ y, y = l[k].key := ⟨_, rfl⟩
      obtain ⟨x1, h1⟩ : ∃ y, y = l[k].val := ⟨_, rfl⟩
      obtain ⟨x2, h2⟩ : ∃ y, y = l[k].gone := ⟨_, rfl⟩
      obtain ⟨x3, h3⟩ : ∃ y, y = l[k].time := ⟨_, rfl⟩
      rw [← h0] at c0 d0
      rw [← h1] at c1 d1
      rw [← h2] at c2 d2
      rw [← h3] at c3 d3
      have z0 : (0 : Int) ≤ (k : Int) := by omega
      have z1 : (k : Int) < (l.length : Int) := by omega
      have e0 : (x0.toList == x0.toList) = true := by simp
      clear h0 h1 h2 h3
      go_wp2_with fail
      go_quiet (fail)
      go_wp2
      go_roundw
      case rel => exact ⟨k + 1, by omega, by go_num, bel2 HBL.out (by rfl) (by rfl) (by rfl) (by rfl)⟩
      case measure => simp [intOf]; omega
    · have hke : k = l.length := by omega
      subst hke
      go_wp2
      go_ret
      exact ⟨rfl, HBL.out⟩

end Go.Proofs.YtbckgmfopbpocaaDoor.W
