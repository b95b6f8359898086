/-
  Slices of entries that are the same, told so; the exact law of RunOk.
-/
import Derived.Test.YtbckgmfopbpocaaDoorE8
import Derived.Test.YtbckgmfopbpocaaDoorE5
import Derived.Deep.RegionHeld3
namespace Go.Proofs.YtbckgmfopbpocaaDoor.W
open Go.RowKit K R

set_option maxHeartbeats 2000000 in
theorem eqEn (k : ByteArray) (v : Int) (g : Bool) (t : Int) (w : World) :
    Calls Tryd.prog 42 #[.agg #[.string k, .int .i64 v, .bool g, .int .i64 t], .agg #[.string k, .int .i64 v, .bool g, .int .i64 t]] w fun e w' => e = .returned (.bool true) ∧ Below w.heap.size w w' := by
  have h : (k.toList == k.toList) = true := by simp
  cases g
  · go_enter Tryd.func42, Tryd.ntmps42
    go_wp2
    go_ret
    exact ⟨rfl, two_below _ _ _⟩
  · go_enter Tryd.func42, Tryd.ntmps42
    go_wp2
    go_ret
    exact ⟨rfl, two_below _ _ _⟩

set_option maxHeartbeats 4000000 in
theorem eqEnS (w : World) (B n c c2 : Nat) (A A2 : Option Addr) (l : List En) (hr : Ents w B A n l) (hr2 : Ents w B A2 n l) (hB : B ≤ w.heap.size) (hn : n ≤ maxLen) :
    Calls Tryd.prog 20 #[.slice A n c, .slice A2 n c2] w fun e w' => e = .returned (.bool true) ∧ Below w.heap.size w w' := by
  have hlen := hr.len
  subst hlen
  unfold maxLen at hn
  have HR := Lib.hid hr
  have HR2 := Lib.hid hr2
  clear hr hr2
  go_enter Tryd.func20, Tryd.ntmps20
  go_wp2_with fail
  go_loopw [5] (fun i wr => ∃ k : Nat, k ≤ l.length ∧ i = .int .i64 (k : Nat) ∧ Below w.heap.size w wr) (fun i _ => l.length - (intOf i).toNat)
  case atStart => exact ⟨0, Nat.zero_le _, rfl, Below.refl _ _⟩
  case round =>
    obtain ⟨k, hk, rfl, hb⟩ := hrel
    have HBL := Lib.hid hb
    clear hb
    by_cases hlt : k < l.length
    · obtain ⟨kb, ko, hA, hkb, c0, c1, c2, c3⟩ := HR.out.cell k hlt
      obtain ⟨jb, jo, hA2, hjb, d0, d1, d2, d3⟩ := HR2.out.cell k hlt
      subst hA hA2
      have hkb' : kb < w.heap.size := Nat.lt_of_lt_of_le hkb hB
      have hjb' : jb < w.heap.size := Nat.lt_of_lt_of_le hjb hB
      obtain ⟨x0, h0⟩ : ∃ y, y = l[k].key := ⟨_, rfl⟩
      obtain ⟨x1, h1⟩ : ∃ y, y = l[k].val := ⟨_, rfl⟩
      obtain ⟨x2, h2⟩ : ∃ y, y = l[k].gone := ⟨_, rfl⟩
      obtain ⟨x3, h3⟩ : ∃ y, y = l[k].time := ⟨_, rfl⟩
      rw [← h0] at c0 d0
      rw [← h1] at c1 d1
      rw [← h2] at c2 d2
      rw [← h3] at c3 d3
      have z0 : (0 : Int) ≤ (k : Int) := by omega
      have z1 : (k : Int) < (l.length : Int) := by omega
      have HSS := Lib.hid (show ∀ W, Below w.heap.size w W → (fun W : World => W.cell? ⟨kb, ko + k * 4, none⟩ = some (.string x0) ∧ W.cell? ⟨kb, ko + k * 4 + 1, none⟩ = some (.int .i64 x1) ∧ W.cell? ⟨kb, ko + k * 4 + 2, none⟩ = some (.bool x2) ∧ W.cell? ⟨kb, ko + k * 4 + 3, none⟩ = some (.int .i64 x3) ∧ W.cell? ⟨jb, jo + k * 4, none⟩ = some (.string x0) ∧ W.cell? ⟨jb, jo + k * 4 + 1, none⟩ = some (.int .i64 x1) ∧ W.cell? ⟨jb, jo + k * 4 + 2, none⟩ = some (.bool x2) ∧ W.cell? ⟨jb, jo + k * 4 + 3, none⟩ = some (.int .i64 x3)) W from fun W hW => ⟨(hW.cell (p := ⟨kb, ko + k * 4, none⟩) hkb').trans c0, (hW.cell (p := ⟨kb, ko + k * 4 + 1, none⟩) hkb').trans c1, (hW.cell (p := ⟨kb, ko + k * 4 + 2, none⟩) hkb').trans c2, (hW.cell (p := ⟨kb, ko + k * 4 + 3, none⟩) hkb').trans c3, (hW.cell (p := ⟨jb, jo + k * 4, none⟩) hjb').trans d0, (hW.cell (p := ⟨jb, jo + k * 4 + 1, none⟩) hjb').trans d1, (hW.cell (p := ⟨jb, jo + k * 4 + 2, none⟩) hjb').trans d2, (hW.cell (p := ⟨jb, jo + k * 4 + 3, none⟩) hjb').trans d3⟩)
      have HQ := Lib.hid (show ∀ W, Below w.heap.size w W → Calls Tryd.prog 42 #[.agg #[.string x0, .int .i64 x1, .bool x2, .int .i64 x3], .agg #[.string x0, .int .i64 x1, .bool x2, .int .i64 x3]] W fun e w' => e = .returned (.bool true) ∧ Below w.heap.size w w' from fun W hW => (eqEn x0 x1 x2 x3 W).mono fun _ _ ⟨he, hb⟩ => ⟨he, hW.trans (hb.mono hW.size)⟩)
      clear c0 c1 c2 c3 d0 d1 d2 d3 h0 h1 h2 h3
      go_wp2_with fail
      go_region_held3 (fun W : World => W.cell? ⟨kb, ko + k * 4, none⟩ = some (.string x0) ∧ W.cell? ⟨kb, ko + k * 4 + 1, none⟩ = some (.int .i64 x1) ∧ W.cell? ⟨kb, ko + k * 4 + 2, none⟩ = some (.bool x2) ∧ W.cell? ⟨kb, ko + k * 4 + 3, none⟩ = some (.int .i64 x3) ∧ W.cell? ⟨jb, jo + k * 4, none⟩ = some (.string x0) ∧ W.cell? ⟨jb, jo + k * 4 + 1, none⟩ = some (.int .i64 x1) ∧ W.cell? ⟨jb, jo + k * 4 + 2, none⟩ = some (.bool x2) ∧ W.cell? ⟨jb, jo + k * 4 + 3, none⟩ = some (.int .i64 x3)) (exact HSS.out _ (by first | exact HB9.out | exact bel2 HBL.out (by rfl) (by rfl) (by rfl) (by rfl))) (first | (go_at_call 42; refine Calls.mono (HQ.out _ (by first | exact HB9.out | exact bel2 HBL.out (by rfl) (by rfl) (by rfl) (by rfl))) ?_; rintro e w9 ⟨rfl, hb9⟩; have HB9 := Lib.hid hb9; clear hb9))
      all_goals
        go_wp2
        go_roundw
        case rel => exact ⟨k + 1, by omega, by go_num, HB9.out⟩
        case measure => simp [intOf]; omega
    · have hke : k = l.length := by omega
      subst hke
      go_wp2
      go_ret
      exact ⟨rfl, HBL.out⟩

end Go.Proofs.YtbckgmfopbpocaaDoor.W
