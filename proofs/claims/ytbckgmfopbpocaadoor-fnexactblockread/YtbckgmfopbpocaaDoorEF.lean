/-
  Entries of the call's own are marked: whatever is written into them, nothing else is turned.
-/
import Derived.Test.YtbckgmfopbpocaaDoorE8
import Derived.Test.YtbckgmfopbpocaaDoorJ3
namespace Go.Proofs.YtbckgmfopbpocaaDoor.W
open Go.RowKit K R

theorem rowSome {cs : List Value} {i : Nat} (h : i < cs.length) : ∃ u, cs[i]? = some u := ⟨cs[i], List.getElem?_eq_getElem h⟩
theorem ret_int2 {x y : Int} (h : x = y) : Ending.returned (.int .i64 x) = Ending.returned (.int .i64 y) := by rw [h]
/-- marked, as long as it is -/
def MarkedE (base g n c : Nat) (w : World) (e : Ending) (w' : World) : Prop :=
  e = .returned (.int .i64 ((1 + 4 * n : Nat) : Int)) ∧ (∃ cs, w'.ownsRow base 43 4 (.slice (some ⟨g, 0, none⟩) n c) n cs) ∧ w.grownBy w' (some g)

set_option maxHeartbeats 8000000 in
set_option maxRecDepth 100000 in
theorem markE (w : World) (base g n c : Nat) (cs : List Value) (ho : w.ownsRow base 43 4 (.slice (some ⟨g, 0, none⟩) n c) n cs) (hn : n ≤ 1048576) :
    Calls Tryd.prog 21 #[.slice (some ⟨g, 0, none⟩) n c, .int .i64 1] w (MarkedE base g n c w) := by
  have HO := Lib.hid ho
  clear ho
  go_enter Tryd.func21, Tryd.ntmps21
  go_wp2_with fail
  go_loopw [1, 5] (fun kv i wr => ∃ (k : Nat) (z : Int) (cs : List Value), k ≤ n ∧ i = .int .i64 (k : Nat) ∧ kv = .int .i64 z ∧ z = ((1 + 4 * k : Nat) : Int) ∧ wr.ownsRow base 43 4 (.slice (some ⟨g, 0, none⟩) n c) n cs ∧ w.grownBy wr (some g)) (fun _ i _ => n - (intOf i).toNat)
  case atStart => exact ⟨0, 1, cs, Nat.zero_le _, rfl, rfl, rfl, HO.out, World.grownBy.refl _ _⟩
  case round =>
    obtain ⟨k, z, cs, hk, rfl, rfl, hz, hor, hgr⟩ := hrel
    have HGR := Lib.hid hgr
    have HOR := Lib.hid hor
    clear hor hgr HO
    by_cases hlt : k < n
    · have z0 : (0 : Int) ≤ (k : Int) := by omega
      have z1 : (k : Int) < (n : Int) := by omega
      have HMT := Lib.hid (show ∀ W : World, Calls Tryd.prog 43 #[.int .i64 z] W fun e w' => e = .returned (.string (markB (1 + 4 * k))) ∧ Below W.heap.size W w' from fun W => by rw [hz]; exact markT (1 + 4 * k) W (by omega) (by omega))
      have HZ := Lib.hid hz
      obtain ⟨u1, hu1⟩ : ∃ u : Int, u = z + 1 := ⟨_, rfl⟩
      obtain ⟨u2, hu2⟩ : ∃ u : Int, u = z + 2 := ⟨_, rfl⟩
      obtain ⟨u3, hu3⟩ : ∃ u : Int, u = z + 3 := ⟨_, rfl⟩
      obtain ⟨u4, hu4⟩ : ∃ u : Int, u = z + 4 := ⟨_, rfl⟩
      have e1 : IntKind.i64.wrap (z + 1) = u1 := by rw [hu1]; exact i64_z _ (by omega) (by omega)
      have e2 : IntKind.i64.wrap (u1 + 1) = u2 := by rw [show u1 + 1 = u2 by omega]; exact i64_z _ (by omega) (by omega)
      have e3 : IntKind.i64.wrap (u2 + 1) = u3 := by rw [show u2 + 1 = u3 by omega]; exact i64_z _ (by omega) (by omega)
      have e4 : IntKind.i64.wrap (u3 + 1) = u4 := by rw [show u3 + 1 = u4 by omega]; exact i64_z _ (by omega) (by omega)
      have HU4 := Lib.hid (show u4 = ((1 + 4 * (k + 1) : Nat) : Int) by omega)
      clear hz hu1 hu2 hu3 hu4
      go_wp2_with fail
      go_at_call 43
      refine Calls.mono (HMT.out _) ?_
      rintro e w2 ⟨rfl, hb2⟩
      have HO2 := Lib.hid (rowBelow HOR.out hb2)
      have HG2 := Lib.hid (grown_below_row HGR.out hb2)
      have hcl : cs.length = n * 4 := HOR.out.1
      obtain ⟨v0, a0⟩ := rowSome (cs := cs) (i := k * 4) (by omega)
      obtain ⟨v1, a1⟩ := rowSome (cs := cs) (i := k * 4 + 1) (by omega)
      obtain ⟨v2, a2⟩ := rowSome (cs := cs) (i := k * 4 + 2) (by omega)
      obtain ⟨v3, a3⟩ := rowSome (cs := cs) (i := k * 4 + 3) (by omega)
      have q0 := rowGet HO2.out a0
      have q1 := rowGet HO2.out a1
      have q2 := rowGet HO2.out a2
      have q3 := rowGet HO2.out a3
      have f0 := rowFree HO2.out (k * 4)
      have f1 := rowFree HO2.out (k * 4 + 1)
      have f2 := rowFree HO2.out (k * 4 + 2)
      have f3 := rowFree HO2.out (k * 4 + 3)
      clear hb2 a0 a1 a2 a3
      go_wp2
      go_roundw
      case rel =>
        exact ⟨k + 1, u4, _, by omega, by go_num, rfl, HU4.out, rowSet (rowSet (rowSet (rowSet HO2.out (k * 4) _) (k * 4 + 1) _) (k * 4 + 2) _) (k * 4 + 3) _, grown_set (grown_set (grown_set (grown_set HG2.out _ _) _ _) _ _) _ _⟩
      case measure => simp [intOf]; omega
    · have hke : k = n := by omega
      subst hke
      go_wp2
      go_ret
      exact ⟨by rw [← hz]; rfl, ⟨cs, HOR.out⟩, HGR.out⟩

end Go.Proofs.YtbckgmfopbpocaaDoor.W
