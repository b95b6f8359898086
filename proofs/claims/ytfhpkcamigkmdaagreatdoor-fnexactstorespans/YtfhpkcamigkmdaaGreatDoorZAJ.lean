/-
  Slices of entries that are the same, told so; the exact law of RunOk.
  Levels that are the same, filters that are the same, and stores that are the same, told so.
  Filters in memory of the call's own, a row of them; a copy of filters and of a whole store that came in, as the exact laws make them.
  Stores that are the same, told so; a copy of a store that came in, all of it in memory of the call's own.
  A copy of a store that came in, as the exact laws make it: all of it in memory of the call's own.
-/
import Derived.Test.YtfhpkcamigkmdaaGreatDoorZAI
import Derived.Test.YtfhpkcamigkmdaaGreatDoorZAG
import Derived.Test.YtfhpkcamigkmdaaGreatDoorZAA
import Derived.Deep.RegionHeld3
namespace Go.Proofs.YtfhpkcamigkmdaaGreatDoor.W
open Go.RowKit K R

set_option maxHeartbeats 2000000 in
theorem eqEn (k : ByteArray) (v : Int) (g : Bool) (t : Int) (w : World) :
    Calls Tryz.prog 85 #[.agg #[.string k, .int .i64 v, .bool g, .int .i64 t], .agg #[.string k, .int .i64 v, .bool g, .int .i64 t]] w fun e w' => e = .returned (.bool true) ∧ Below w.heap.size w w' := by
  have h : (k.toList == k.toList) = true := by simp
  cases g
  · go_enter Tryz.func85, Tryz.ntmps85
    go_wp2
    go_ret
    exact ⟨rfl, two_below _ _ _⟩
  · go_enter Tryz.func85, Tryz.ntmps85
    go_wp2
    go_ret
    exact ⟨rfl, two_below _ _ _⟩

set_option maxHeartbeats 4000000 in
theorem eqEnS (w : World) (B n c c2 : Nat) (A A2 : Option Addr) (l : List En) (hr : Ents w B A n l) (hr2 : Ents w B A2 n l) (hB : B ≤ w.heap.size) (hn : n ≤ maxLen) :
    Calls Tryz.prog 28 #[.slice A n c, .slice A2 n c2] w fun e w' => e = .returned (.bool true) ∧ Below w.heap.size w w' := by
  have hlen := hr.len
  subst hlen
  unfold maxLen at hn
  have HR := Lib.hid hr
  have HR2 := Lib.hid hr2
  clear hr hr2
  go_enter Tryz.func28, Tryz.ntmps28
  go_wp2_with fail
  go_loopw [5] (fun i wr => ∃ k : Nat, k ≤ l.length ∧ i = .int .i64 (k : Nat) ∧ Below w.heap.size w wr) (fun i _ => l.length - (intOf i).toNat)
  case atStart => exact ⟨0, Nat.zero_le _, rfl, Below.refl _ _⟩
  case round =>
    obtain ⟨k, hk, rfl, hb⟩ := hrel
    have HBL := Lib.hid hb
    clear hb
    by_cases hlt : k < l.length
    · obtain ⟨kb, ko, hA, hkb, c0, c1, c2, c3⟩ := HR.out.cell k hlt
      obtain ⟨jb, jo, hA2, hjb, d0, d1, d2, d3⟩ := HR2.out.cell k hlt
      subst hA hA2
      have hkb' : kb < w.heap.size := Nat.lt_of_lt_of_le hkb hB
      have hjb' : jb < w.heap.size := Nat.lt_of_lt_of_le hjb hB
      obtain ⟨x0, h0⟩ : ∃ y, y = l[k].key := ⟨_, rfl⟩
      obtain ⟨x1, h1⟩ : ∃ y, y = l[k].val := ⟨_, rfl⟩
      obtain ⟨x2, h2⟩ : ∃ y, y = l[k].gone := ⟨_, rfl⟩
      obtain ⟨x3, h3⟩ : ∃ y, y = l[k].time := ⟨_, rfl⟩
      rw [← h0] at c0 d0
      rw [← h1] at c1 d1
      rw [← h2] at c2 d2
      rw [← h3] at c3 d3
      have z0 : (0 : Int) ≤ (k : Int) := by omega
      have z1 : (k : Int) < (l.length : Int) := by omega
      have HSS := Lib.hid (show ∀ W, Below w.heap.size w W → (fun W : World => W.cell? ⟨kb, ko + k * 4, none⟩ = some (.string x0) ∧ W.cell? ⟨kb, ko + k * 4 + 1, none⟩ = some (.int .i64 x1) ∧ W.cell? ⟨kb, ko + k * 4 + 2, none⟩ = some (.bool x2) ∧ W.cell? ⟨kb, ko + k * 4 + 3, none⟩ = some (.int .i64 x3) ∧ W.cell? ⟨jb, jo + k * 4, none⟩ = some (.string x0) ∧ W.cell? ⟨jb, jo + k * 4 + 1, none⟩ = some (.int .i64 x1) ∧ W.cell? ⟨jb, jo + k * 4 + 2, none⟩ = some (.bool x2) ∧ W.cell? ⟨jb, jo + k * 4 + 3, none⟩ = some (.int .i64 x3)) W from fun W hW => ⟨(hW.cell (p := ⟨kb, ko + k * 4, none⟩) hkb').trans c0, (hW.cell (p := ⟨kb, ko + k * 4 + 1, none⟩) hkb').trans c1, (hW.cell (p := ⟨kb, ko + k * 4 + 2, none⟩) hkb').trans c2, (hW.cell (p := ⟨kb, ko + k * 4 + 3, none⟩) hkb').trans c3, (hW.cell (p := ⟨jb, jo + k * 4, none⟩) hjb').trans d0, (hW.cell (p := ⟨jb, jo + k * 4 + 1, none⟩) hjb').trans d1, (hW.cell (p := ⟨jb, jo + k * 4 + 2, none⟩) hjb').trans d2, (hW.cell (p := ⟨jb, jo + k * 4 + 3, none⟩) hjb').trans d3⟩)
      have HQ := Lib.hid (show ∀ W, Below w.heap.size w W → Calls Tryz.prog 85 #[.agg #[.string x0, .int .i64 x1, .bool x2, .int .i64 x3], .agg #[.string x0, .int .i64 x1, .bool x2, .int .i64 x3]] W fun e w' => e = .returned (.bool true) ∧ Below w.heap.size w w' from fun W hW => (eqEn x0 x1 x2 x3 W).mono fun _ _ ⟨he, hb⟩ => ⟨he, hW.trans (hb.mono hW.size)⟩)
      clear c0 c1 c2 c3 d0 d1 d2 d3 h0 h1 h2 h3
      go_wp2_with fail
      go_region_held3 (fun W : World => W.cell? ⟨kb, ko + k * 4, none⟩ = some (.string x0) ∧ W.cell? ⟨kb, ko + k * 4 + 1, none⟩ = some (.int .i64 x1) ∧ W.cell? ⟨kb, ko + k * 4 + 2, none⟩ = some (.bool x2) ∧ W.cell? ⟨kb, ko + k * 4 + 3, none⟩ = some (.int .i64 x3) ∧ W.cell? ⟨jb, jo + k * 4, none⟩ = some (.string x0) ∧ W.cell? ⟨jb, jo + k * 4 + 1, none⟩ = some (.int .i64 x1) ∧ W.cell? ⟨jb, jo + k * 4 + 2, none⟩ = some (.bool x2) ∧ W.cell? ⟨jb, jo + k * 4 + 3, none⟩ = some (.int .i64 x3)) (exact HSS.out _ (by first | exact HB9.out | exact bel2 HBL.out (by rfl) (by rfl) (by rfl) (by rfl))) (first | (go_at_call 85; refine Calls.mono (HQ.out _ (by first | exact HB9.out | exact bel2 HBL.out (by rfl) (by rfl) (by rfl) (by rfl))) ?_; rintro e w9 ⟨rfl, hb9⟩; have HB9 := Lib.hid hb9; clear hb9))
      all_goals
        go_wp2
        go_roundw
        case rel => exact ⟨k + 1, by omega, by go_num, HB9.out⟩
        case measure => simp [intOf]; omega
    · have hke : k = l.length := by omega
      subst hke
      go_wp2
      go_ret
      exact ⟨rfl, HBL.out⟩

end Go.Proofs.YtfhpkcamigkmdaaGreatDoor.W
namespace Go.Proofs.YtfhpkcamigkmdaaGreatDoor.W
open Go.RowKit K R

set_option maxHeartbeats 4000000 in
theorem eqLs (w : World) (B n c c2 : Nat) (A A2 : Option Addr) (ls : List (List En)) (hr : Lvls w B A n ls) (hr2 : Lvls w B A2 n ls) (hB : B ≤ w.heap.size) (hn : n ≤ maxLen) :
    Calls Tryz.prog 48 #[.slice A n c, .slice A2 n c2] w fun e w' => e = .returned (.bool true) ∧ Below w.heap.size w w' := by
  have hlen := hr.len
  subst hlen
  have HR := Lib.hid hr
  have HR2 := Lib.hid hr2
  have HN := Lib.hid hn
  unfold maxLen at hn
  clear hr hr2
  go_enter Tryz.func48, Tryz.ntmps48
  go_wp2_with fail
  go_loopw [5] (fun i wr => ∃ k : Nat, k ≤ ls.length ∧ i = .int .i64 (k : Nat) ∧ Below w.heap.size w wr) (fun i _ => ls.length - (intOf i).toNat)
  case atStart => exact ⟨0, Nat.zero_le _, rfl, Below.refl _ _⟩
  case round =>
    obtain ⟨k, hk, rfl, hb⟩ := hrel
    have HBL := Lib.hid hb
    clear hb
    by_cases hlt : k < ls.length
    · obtain ⟨kb, ko, A', c', hA, hkb, d0, he, e1, e2⟩ := HR.out.cell k hlt
      obtain ⟨jb, jo, A3, c3, hA2, hjb, g0, he2, e3, e4⟩ := HR2.out.cell k hlt
      subst hA hA2
      have hkb' : kb < w.heap.size := Nat.lt_of_lt_of_le hkb hB
      have hjb' : jb < w.heap.size := Nat.lt_of_lt_of_le hjb hB
      obtain ⟨r, h0⟩ : ∃ y, y = ls[k] := ⟨_, rfl⟩
      rw [← h0] at d0 g0 he he2 e1 e3
      have z0 : (0 : Int) ≤ (k : Int) := by omega
      have z1 : (k : Int) < (ls.length : Int) := by omega
      have HSS := Lib.hid (show ∀ W, Below w.heap.size w W → (fun W : World => W.cell? ⟨kb, ko + k, none⟩ = some (.slice A' r.length c') ∧ W.cell? ⟨jb, jo + k, none⟩ = some (.slice A3 r.length c3)) W from fun W hW => ⟨(hW.cell (p := ⟨kb, ko + k, none⟩) hkb').trans d0, (hW.cell (p := ⟨jb, jo + k, none⟩) hjb').trans g0⟩)
      have HQ := Lib.hid (show ∀ W, Below w.heap.size w W → Calls Tryz.prog 28 #[.slice A' r.length c', .slice A3 r.length c3] W fun e w' => e = .returned (.bool true) ∧ Below w.heap.size w w' from fun W hW => (eqEnS W B r.length c' c3 A' A3 r (he.below (hW.mono hB) (Nat.le_refl _)) (he2.below (hW.mono hB) (Nat.le_refl _)) (Nat.le_trans hB hW.size) (Nat.le_trans e1 e2)).mono fun _ _ ⟨x, y⟩ => ⟨x, hW.trans (y.mono hW.size)⟩)
      clear h0 he he2 d0 g0
      go_wp2_with fail
      go_region_held3 (fun W : World => W.cell? ⟨kb, ko + k, none⟩ = some (.slice A' r.length c') ∧ W.cell? ⟨jb, jo + k, none⟩ = some (.slice A3 r.length c3)) (exact HSS.out _ (by first | exact HB9.out | exact bel2 HBL.out (by rfl) (by rfl) (by rfl) (by rfl))) (first | (go_at_call 28; refine Calls.mono (HQ.out _ (by first | exact HB9.out | exact bel2 HBL.out (by rfl) (by rfl) (by rfl) (by rfl))) ?_; rintro e w9 ⟨rfl, hb9⟩; have HB9 := Lib.hid hb9; clear hb9))
      all_goals
        go_wp2
        go_roundw
        case rel => exact ⟨k + 1, by omega, by go_num, HB9.out⟩
        case measure => simp [intOf]; omega
    · have hke : k = ls.length := by omega
      subst hke
      go_wp2
      go_ret
      exact ⟨rfl, HBL.out⟩

set_option maxHeartbeats 4000000 in
theorem eqSvx (w : World) (B n c c2 : Nat) (A A2 : Option Addr) (L M_ F : ByteArray) (l : List ByteArray) (k : Int) (hr : Strs w B A n l) (hr2 : Strs w B A2 n l) (hB : B ≤ w.heap.size) (hn : n ≤ maxLen) :
    Calls Tryz.prog 101 #[.agg #[.string L, .string M_, .string F, .slice A n c, .int .i64 k], .agg #[.string L, .string M_, .string F, .slice A2 n c2, .int .i64 k]] w fun e w' => e = .returned (.bool true) ∧ Below w.heap.size w w' := by
  obtain ⟨W0, hW0⟩ : ∃ W0, W0 = (w.alloc (.cells #[.string L, .string M_, .string F, .slice A n c, .int .i64 k] 92)).alloc (.cells #[.string L, .string M_, .string F, .slice A2 n c2, .int .i64 k] 92) := ⟨_, rfl⟩
  have hbw : Below w.heap.size w W0 := by rw [hW0]; exact ((Below.refl _ _).alloc (Nat.le_refl _) _).alloc (by simp) _
  have x0 : W0.heap[w.heap.size]? = some (.cells #[.string L, .string M_, .string F, .slice A n c, .int .i64 k] 92 (0, 0)) := by rw [hW0, Below.heap_alloc _ _ _ (by simp)]; exact heap_alloc_new _ _
  have x1 : W0.heap[w.heap.size + 1]? = some (.cells #[.string L, .string M_, .string F, .slice A2 n c2, .int .i64 k] 92 (0, 0)) := by rw [hW0]; have := heap_alloc_new (w.alloc (.cells #[.string L, .string M_, .string F, .slice A n c, .int .i64 k] 92)) (.cells #[.string L, .string M_, .string F, .slice A2 n c2, .int .i64 k] 92); simpa using this
  have hLL : (L.toList == L.toList) = true := by simp
  have hMM : (M_.toList == M_.toList) = true := by simp
  have hFF : (F.toList == F.toList) = true := by simp
  have a3 : W0.cell? ⟨w.heap.size, 3, none⟩ = some (.slice A n c) := by rw [cell_of_row _ _ _ _ _ _ x0]; rfl
  have b3 : W0.cell? ⟨w.heap.size + 1, 3, none⟩ = some (.slice A2 n c2) := by rw [cell_of_row _ _ _ _ _ _ x1]; rfl
  have a4 : ∀ W : World, W.heap = W0.heap → W.cell? ⟨w.heap.size, 4, none⟩ = some (.int .i64 k) ∧ W.cell? ⟨w.heap.size + 1, 4, none⟩ = some (.int .i64 k) := fun W hW => by
    rw [cell_of_row _ _ _ _ _ _ (by rw [hW]; exact x0), cell_of_row _ _ _ _ _ _ (by rw [hW]; exact x1)]; exact ⟨rfl, rfl⟩
  have HE := Lib.hid (eqL W0 w.heap.size n c n c2 A A2 l l (hr.below hbw hB |>.more hB) (hr2.below hbw hB |>.more hB) hn hn)
  rw [sameL_self] at HE
  have HB := Lib.hid hbw
  have HA := Lib.hid a4
  have HW := Lib.hid hW0
  clear hr hr2 hbw x0 x1 hW0 a4
  go_enter Tryz.func101, Tryz.ntmps101
  go_upto_region 7 with fail
  rw [← HW.out]
  go_wp2_with fail
  go_at_call 140
  refine Calls.mono HE.out ?_
  rintro e w2 ⟨rfl, m2, rfl⟩
  obtain ⟨i4, j4⟩ := HA.out (W0.drewN m2) rfl
  go_wp2
  go_ret
  exact ⟨rfl, below_drewN HB.out _⟩

/-- the cells of two filters -/
def twoSv (kb ko jb jo : Nat) (A' A3 : Option Addr) (n c' c3 : Nat) (L M_ F : ByteArray) (keep : Int) (k : Nat) (W : World) : Prop :=
  (W.cell? ⟨kb, ko + k * 5, none⟩ = some (.string L) ∧ W.cell? ⟨kb, ko + k * 5 + 1, none⟩ = some (.string M_) ∧ W.cell? ⟨kb, ko + k * 5 + 2, none⟩ = some (.string F) ∧ W.cell? ⟨kb, ko + k * 5 + 3, none⟩ = some (.slice A' n c') ∧ W.cell? ⟨kb, ko + k * 5 + 4, none⟩ = some (.int .i64 keep)) ∧
  W.cell? ⟨jb, jo + k * 5, none⟩ = some (.string L) ∧ W.cell? ⟨jb, jo + k * 5 + 1, none⟩ = some (.string M_) ∧ W.cell? ⟨jb, jo + k * 5 + 2, none⟩ = some (.string F) ∧ W.cell? ⟨jb, jo + k * 5 + 3, none⟩ = some (.slice A3 n c3) ∧ W.cell? ⟨jb, jo + k * 5 + 4, none⟩ = some (.int .i64 keep)

set_option maxHeartbeats 4000000 in
theorem eqSs (w : World) (B n c c2 : Nat) (A A2 : Option Addr) (ss : List Sf) (hr : Svs w B A n ss) (hr2 : Svs w B A2 n ss) (hB : B ≤ w.heap.size) (hn : n ≤ maxLen) :
    Calls Tryz.prog 49 #[.slice A n c, .slice A2 n c2] w fun e w' => e = .returned (.bool true) ∧ Below w.heap.size w w' := by
  have hlen := hr.len
  subst hlen
  have HR := Lib.hid hr
  have HR2 := Lib.hid hr2
  unfold maxLen at hn
  clear hr hr2
  go_enter Tryz.func49, Tryz.ntmps49
  go_wp2_with fail
  go_loopw [5] (fun i wr => ∃ k : Nat, k ≤ ss.length ∧ i = .int .i64 (k : Nat) ∧ Below w.heap.size w wr) (fun i _ => ss.length - (intOf i).toNat)
  case atStart => exact ⟨0, Nat.zero_le _, rfl, Below.refl _ _⟩
  case round =>
    obtain ⟨k, hk, rfl, hb⟩ := hrel
    have HBL := Lib.hid hb
    clear hb
    by_cases hlt : k < ss.length
    · obtain ⟨kb, ko, A', c', hA, hkb, d0, d1, d2, d3, d4, he, e1, e2⟩ := HR.out.cell k hlt
      obtain ⟨jb, jo, A3, c3, hA2, hjb, g0, g1, g2, g3, g4, he2, e3, e4⟩ := HR2.out.cell k hlt
      subst hA hA2
      have hkb' : kb < w.heap.size := Nat.lt_of_lt_of_le hkb hB
      have hjb' : jb < w.heap.size := Nat.lt_of_lt_of_le hjb hB
      obtain ⟨r, h0⟩ : ∃ y, y = ss[k] := ⟨_, rfl⟩
      rw [← h0] at d0 d1 d2 d3 d4 g0 g1 g2 g3 g4 he he2 e1 e3
      clear h0
      obtain ⟨L, M_, F, l, keep⟩ := r
      have z0 : (0 : Int) ≤ (k : Int) := by omega
      have z1 : (k : Int) < (ss.length : Int) := by omega
      have HSS := Lib.hid (show ∀ W, Below w.heap.size w W → twoSv kb ko jb jo A' A3 l.length c' c3 L M_ F keep k W from fun W hW => ⟨⟨(hW.cell (p := ⟨kb, ko + k * 5, none⟩) hkb').trans d0, (hW.cell (p := ⟨kb, ko + k * 5 + 1, none⟩) hkb').trans d1, (hW.cell (p := ⟨kb, ko + k * 5 + 2, none⟩) hkb').trans d2, (hW.cell (p := ⟨kb, ko + k * 5 + 3, none⟩) hkb').trans d3, (hW.cell (p := ⟨kb, ko + k * 5 + 4, none⟩) hkb').trans d4⟩, (hW.cell (p := ⟨jb, jo + k * 5, none⟩) hjb').trans g0, (hW.cell (p := ⟨jb, jo + k * 5 + 1, none⟩) hjb').trans g1, (hW.cell (p := ⟨jb, jo + k * 5 + 2, none⟩) hjb').trans g2, (hW.cell (p := ⟨jb, jo + k * 5 + 3, none⟩) hjb').trans g3, (hW.cell (p := ⟨jb, jo + k * 5 + 4, none⟩) hjb').trans g4⟩)
      have HQ := Lib.hid (show ∀ W, Below w.heap.size w W → Calls Tryz.prog 101 #[.agg #[.string L, .string M_, .string F, .slice A' l.length c', .int .i64 keep], .agg #[.string L, .string M_, .string F, .slice A3 l.length c3, .int .i64 keep]] W fun e w' => e = .returned (.bool true) ∧ Below w.heap.size w w' from fun W hW => (eqSvx W B l.length c' c3 A' A3 L M_ F l keep (he.below (hW.mono hB) (Nat.le_refl _)) (he2.below (hW.mono hB) (Nat.le_refl _)) (Nat.le_trans hB hW.size) (Nat.le_trans e1 e2)).mono fun _ _ ⟨x, y⟩ => ⟨x, hW.trans (y.mono hW.size)⟩)
      clear he he2 d0 d1 d2 d3 d4 g0 g1 g2 g3 g4 e1 e3
      go_wp2_with fail
      go_region_held3 (fun W : World => (W.cell? ⟨kb, ko + k * 5, none⟩ = some (.string L) ∧ W.cell? ⟨kb, ko + k * 5 + 1, none⟩ = some (.string M_) ∧ W.cell? ⟨kb, ko + k * 5 + 2, none⟩ = some (.string F) ∧ W.cell? ⟨kb, ko + k * 5 + 3, none⟩ = some (.slice A' l.length c') ∧ W.cell? ⟨kb, ko + k * 5 + 4, none⟩ = some (.int .i64 keep)) ∧ W.cell? ⟨jb, jo + k * 5, none⟩ = some (.string L) ∧ W.cell? ⟨jb, jo + k * 5 + 1, none⟩ = some (.string M_) ∧ W.cell? ⟨jb, jo + k * 5 + 2, none⟩ = some (.string F) ∧ W.cell? ⟨jb, jo + k * 5 + 3, none⟩ = some (.slice A3 l.length c3) ∧ W.cell? ⟨jb, jo + k * 5 + 4, none⟩ = some (.int .i64 keep)) (exact HSS.out _ (by first | exact HB9.out | exact bel2 HBL.out (by rfl) (by rfl) (by rfl) (by rfl))) (first | (go_at_call 101; refine Calls.mono (HQ.out _ (by first | exact HB9.out | exact bel2 HBL.out (by rfl) (by rfl) (by rfl) (by rfl))) ?_; rintro e w9 ⟨rfl, hb9⟩; have HB9 := Lib.hid hb9; clear hb9))
      all_goals
        go_wp2
        go_roundw
        case rel => exact ⟨k + 1, by omega, by go_num, HB9.out⟩
        case measure => simp [intOf]; omega
    · have hke : k = ss.length := by omega
      subst hke
      go_wp2
      go_ret
      exact ⟨rfl, HBL.out⟩

end Go.Proofs.YtfhpkcamigkmdaaGreatDoor.W
namespace Go.Proofs.YtfhpkcamigkmdaaGreatDoor.W
open Go.RowKit K R

/-- the cells of a filter whose rests lie in v -/
def sfC (s : Sf) (v : Value) : List Value := [.string s.letters, .string s.more, .string s.first, v, .int .i64 s.keep]
def cellsS : List Sf → List Value → List Value
  | s :: ss, v :: vs => sfC s v ++ cellsS ss vs
  | _, _ => []
theorem cellsS_len : ∀ {ss : List Sf} {vs : List Value}, vs.length = ss.length → (cellsS ss vs).length = ss.length * 5
  | [], [], _ => rfl
  | [], _ :: _, h => by simp at h
  | _ :: _, [], h => by simp at h
  | s :: ss, v :: vs, h => by
    unfold cellsS
    rw [List.length_append, cellsS_len (by simpa using h), List.length_cons]
    show 5 + ss.length * 5 = _
    omega
theorem cellsS_app : ∀ {a b : List Sf} {u v : List Value}, u.length = a.length → cellsS (a ++ b) (u ++ v) = cellsS a u ++ cellsS b v
  | [], _, [], _, _ => rfl
  | [], _, _ :: _, _, h => by simp at h
  | _ :: _, _, [], _, h => by simp at h
  | s :: a, b, x :: u, v, h => by
    show sfC s x ++ cellsS (a ++ b) (u ++ v) = (sfC s x ++ cellsS a u) ++ cellsS b v
    rw [cellsS_app (by simpa using h), List.append_assoc]
theorem cellsS_at : ∀ {ss : List Sf} {vs : List Value} {i : Nat} (h : i < ss.length) (h2 : i < vs.length) (j : Nat) (_ : j < 5), (cellsS ss vs)[i * 5 + j]? = (sfC ss[i] vs[i])[j]?
  | s :: ss, v :: vs, 0, _, _, j, hj => by
    unfold cellsS
    rw [show 0 * 5 + j = j by omega, List.getElem?_append_left (by show j < 5; exact hj)]
    rfl
  | s :: ss, v :: vs, i + 1, h, h2, j, hj => by
    unfold cellsS
    rw [List.getElem?_append_right (by show 5 ≤ _; omega), show (i + 1) * 5 + j - (sfC s v).length = i * 5 + j by show _ - 5 = _; omega]
    exact cellsS_at (by simpa using h) (by simpa using h2) j hj
theorem five_set (a b : List Value) (u0 u1 u2 u3 u4 x0 x1 x2 x3 x4 : Value) (n : Nat) (hn : a.length = n) :
    (((((a ++ (u0 :: u1 :: u2 :: u3 :: u4 :: b)).set n x0).set (n + 1) x1).set (n + 2) x2).set (n + 3) x3).set (n + 4) x4 = a ++ (x0 :: x1 :: x2 :: x3 :: x4 :: b) := by
  subst hn
  rw [List.set_append_right _ _ (Nat.le_refl _), List.set_append_right _ _ (by omega), List.set_append_right _ _ (by omega), List.set_append_right _ _ (by omega), List.set_append_right _ _ (by omega)]
  simp only [Nat.sub_self, Nat.add_sub_cancel_left]
  rfl
/-- the slice v holds the filters ss: a row of its own, whose rests vs lie in rows of their own -/
structure OwnSs (w : World) (base : Nat) (v : Value) (vs : List Value) (ss : List Sf) : Prop where
  len : vs.length = ss.length
  row : w.ownsRow base 92 5 v ss.length (cellsS ss vs)
  each : ∀ i (h : i < ss.length) (h2 : i < vs.length), Own w base vs[i] ss[i].rests
  apart : vs.Pairwise apartV
theorem OwnSs.below {w w' : World} {base : Nat} {v : Value} {vs : List Value} {ss : List Sf} (h : OwnSs w base v vs ss) (hb : Below w.heap.size w w') : OwnSs w' base v vs ss :=
  ⟨h.len, rowBelow h.row hb, fun i h1 h2 => (h.each i h1 h2).below hb, h.apart⟩
theorem OwnSs.svs {w : World} {base g n c : Nat} {vs : List Value} {ss : List Sf} (h : OwnSs w base (.slice (some ⟨g, 0, none⟩) n c) vs ss) : Svs w w.heap.size (some ⟨g, 0, none⟩) ss.length ss :=
  ⟨rfl, fun i hi => by
    have hlt := (World.ownsRow.lt h.row g rfl).2
    have hi2 : i < vs.length := by rw [h.len]; exact hi
    obtain ⟨A', c', hv, h1, h2, he⟩ := (h.each i hi hi2).parts
    have hn : n = ss.length := by
      rcases h.row.2 with ⟨hv, -⟩ | ⟨_, _, _, hv, _⟩
      · cases hv
      · injection hv
    subst hn
    have at_ := fun j hj => cellsS_at hi hi2 j hj
    refine ⟨g, 0, A', c', rfl, hlt, ?_, ?_, ?_, ?_, ?_, he, h1, h2⟩ <;> rw [Nat.zero_add]
    · exact rowGet h.row (i := i * 5) (by rw [show i * 5 = i * 5 + 0 from rfl, at_ 0 (by omega)]; rfl)
    · exact rowGet h.row (i := i * 5 + 1) (by rw [at_ 1 (by omega)]; rfl)
    · exact rowGet h.row (i := i * 5 + 2) (by rw [at_ 2 (by omega)]; rfl)
    · exact rowGet h.row (i := i * 5 + 3) (by rw [at_ 3 (by omega), hv]; rfl)
    · exact rowGet h.row (i := i * 5 + 4) (by rw [at_ 4 (by omega)]; rfl)⟩
/-- new filters -/
def NewSs (w : World) (ss : List Sf) (e : Ending) (w' : World) : Prop := ∃ g c vs, e = .returned (.slice (some ⟨g, 0, none⟩) ss.length c) ∧ OwnSs w' w.heap.size (.slice (some ⟨g, 0, none⟩) ss.length c) vs ss ∧ Below w.heap.size w w'
theorem svs_info : (Tryz.prog.info? 92).map (fun i => (i.zero, i.size, i.bytes)) = some (some (.agg #[.string ⟨#[]⟩, .string ⟨#[]⟩, .string ⟨#[]⟩, .slice none 0 0, .int .i64 0]), 5, 80) := by kernel_rfl
def blankS : Sf := ⟨⟨#[]⟩, ⟨#[]⟩, ⟨#[]⟩, [], 0⟩
theorem made_S (n : Nat) : (madeCells #[.string ⟨#[]⟩, .string ⟨#[]⟩, .string ⟨#[]⟩, .slice none 0 0, .int .i64 0] (n * 5)).toList = cellsS (List.replicate n blankS) (List.replicate n (.slice none 0 0)) := by
  have hl : (List.replicate n (Value.slice none 0 0)).length = (List.replicate n blankS).length := by simp
  apply List.ext_getElem?
  intro m
  by_cases hm : m < n * 5
  · have hi : m / 5 < (List.replicate n blankS).length := by rw [List.length_replicate]; omega
    have hi2 : m / 5 < (List.replicate n (Value.slice none 0 0)).length := by rw [List.length_replicate]; omega
    have hr := cellsS_at hi hi2 (m % 5) (by omega)
    rw [show m / 5 * 5 + m % 5 = m by omega, List.getElem_replicate, List.getElem_replicate] at hr
    rw [hr]
    unfold madeCells
    simp only [Array.toList_map, List.getElem?_map, Array.toList_range, List.getElem?_range hm, Option.map_some]
    have h4 : m % 5 = 0 ∨ m % 5 = 1 ∨ m % 5 = 2 ∨ m % 5 = 3 ∨ m % 5 = 4 := by omega
    show some ((#[Value.string ⟨#[]⟩, .string ⟨#[]⟩, .string ⟨#[]⟩, .slice none 0 0, .int .i64 0] : Array Value)[m % 5]!) = _
    rcases h4 with h | h | h | h | h <;> rw [h] <;> rfl
  · rw [List.getElem?_eq_none (by rw [Array.length_toList, size_madeCells]; omega), List.getElem?_eq_none (by rw [cellsS_len hl, List.length_replicate]; omega)]

set_option maxHeartbeats 8000000 in
theorem copySs (w : World) (B n c : Nat) (A : Option Addr) (ss : List Sf) (hr : Svs w B A n ss) (hB : B ≤ w.heap.size) (hn : n ≤ 1048576) (hs : ∀ r ∈ ss, smallS r) :
    Calls Tryz.prog 44 #[.slice A n c] w (NewSs w ss) := by
  have hlen := hr.len
  subst hlen
  have HR := Lib.hid hr
  have HSM := Lib.hid hs
  clear hr hs
  obtain ⟨i0, hi, hz0, hz1, hz2⟩ := info_parts svs_info
  go_enter Tryz.func44, Tryz.ntmps44
  go_wp2_with (at_make; refine wpList_make_full w rfl (.tmp 6) (.tmp 6) 31 rfl w.heap.size 92 i0 (.agg #[.string ⟨#[]⟩, .string ⟨#[]⟩, .string ⟨#[]⟩, .slice none 0 0, .int .i64 0]) 5 Tryz.underlying31 hi hz0 hz1 .i64 .i64 _ _ ss.length rfl rfl rfl rfl (by rw [hz2]; omega) (by unfold maxLen; omega) (Nat.le_refl _) ?_; intro w1 ho1 hg1)
  have HO1 := Lib.hid (show w1.ownsRow w.heap.size 92 5 (.slice (some ⟨w.heap.size, 0, none⟩) ss.length ss.length) ss.length (cellsS (List.replicate ss.length blankS) (List.replicate ss.length (.slice none 0 0))) by rw [← made_S]; exact ho1)
  have HB1 := Lib.hid ((Below.refl w.heap.size w).grown hg1 (Nat.le_refl _) (fun k e => by cases e))
  clear ho1 hg1 hi hz0 hz1 hz2
  go_wp2_with fail
  go_loopw [4] (fun i wr => ∃ (k : Nat) (vs : List Value), k ≤ ss.length ∧ i = .int .i64 (k : Nat) ∧ vs.length = k ∧ wr.ownsRow w.heap.size 92 5 (.slice (some ⟨w.heap.size, 0, none⟩) ss.length ss.length) ss.length (cellsS (ss.take k) vs ++ cellsS (List.replicate (ss.length - k) blankS) (List.replicate (ss.length - k) (.slice none 0 0))) ∧ (∀ i (h : i < ss.length) (h2 : i < vs.length), Own wr (w.heap.size + 1) vs[i] ss[i].rests) ∧ vs.Pairwise apartV ∧ Below w.heap.size w wr) (fun i _ => ss.length - (intOf i).toNat)
  case atStart => exact ⟨0, [], Nat.zero_le _, rfl, rfl, by simpa [cellsS] using HO1.out, fun i _ h => absurd h (Nat.not_lt_zero _), List.Pairwise.nil, HB1.out⟩
  case round =>
    obtain ⟨k, vs, hk, rfl, hvl, ho, he, hap, hb⟩ := hrel
    have HO := Lib.hid ho
    have HB := Lib.hid hb
    have HE := Lib.hid he
    have HP := Lib.hid hap
    have HV := Lib.hid hvl
    clear ho hb he hap hvl HO1 HB1
    by_cases hlt : k < ss.length
    · obtain ⟨kb, ko, A', c', hA, hbB, d0, d1, d2, d3, d4, hre, hc1, hc2⟩ := (HR.out.below HB.out hB).cell k hlt
      subst hA
      obtain ⟨r, h0⟩ : ∃ y, y = ss[k] := ⟨_, rfl⟩
      have hsm := HSM.out _ (List.getElem_mem hlt)
      rw [← h0] at d0 d1 d2 d3 d4 hre hc1 hsm
      have H0 := Lib.hid h0
      clear h0
      obtain ⟨L, M_, F, l, keep⟩ := r
      have z0 : (0 : Int) ≤ (k : Int) := by omega
      have z1 : (k : Int) < (ss.length : Int) := by omega
      have hwlt := (World.ownsRow.lt HO.out w.heap.size rfl).2
      have hl20 : l.length ≤ 1048576 := hsm.2.1
      have HC := Lib.hid (copySv wr l.length c' A' L M_ F keep l B hre (by omega) (by omega))
      clear hre hsm
      go_wp2_with fail
      go_at_call 97
      refine Calls.mono HC.out ?_
      rintro e w5 ⟨A5, c5, rfl, o5, b5⟩
      have HO5 := Lib.hid (rowBelow HO.out b5)
      have HB5 := Lib.hid (HB.out.trans (b5.mono HB.out.size))
      have HE5 := Lib.hid (show ∀ i (h : i < ss.length) (h2 : i < vs.length), Own w5 (w.heap.size + 1) vs[i] ss[i].rests from fun i h h2 => (HE.out i h h2).below b5)
      have HN5 := Lib.hid (o5.base (base' := w.heap.size + 1) (by omega))
      have HP5 := Lib.hid (show ∀ v ∈ vs, apartV v (.slice A5 l.length c5) from fun v hv => by
        obtain ⟨i, hi, rfl⟩ := List.getElem_of_mem hv
        have hvl := HV.out
        exact apart_new (HE.out i (by omega) hi) o5 (Nat.le_refl _))
      have hvl := HV.out
      obtain ⟨rest, hrest⟩ : ∃ rest, rest = cellsS (List.replicate (ss.length - (k + 1)) blankS) (List.replicate (ss.length - (k + 1)) (.slice none 0 0)) := ⟨_, rfl⟩
      have hsp : cellsS (List.replicate (ss.length - k) blankS) (List.replicate (ss.length - k) (.slice none 0 0)) = .string ⟨#[]⟩ :: .string ⟨#[]⟩ :: .string ⟨#[]⟩ :: .slice none 0 0 :: .int .i64 0 :: rest := by
        rw [hrest, show ss.length - k = (ss.length - (k + 1)) + 1 by omega, List.replicate_succ, List.replicate_succ]
        rfl
      have hfl : (cellsS (ss.take k) vs).length = k * 5 := by rw [cellsS_len (by rw [hvl, List.length_take]; omega), List.length_take, Nat.min_eq_left (by omega)]
      obtain ⟨front, hfr⟩ : ∃ front, front = cellsS (ss.take k) vs := ⟨_, rfl⟩
      rw [← hfr] at hfl
      have HO6 := Lib.hid (show w5.ownsRow w.heap.size 92 5 (.slice (some ⟨w.heap.size, 0, none⟩) ss.length ss.length) ss.length (front ++ (.string ⟨#[]⟩ :: .string ⟨#[]⟩ :: .string ⟨#[]⟩ :: .slice none 0 0 :: .int .i64 0 :: rest)) by rw [← hsp, hfr]; exact HO5.out)
      have q0 := rowGet HO6.out (i := k * 5) (u := .string ⟨#[]⟩) (by rw [List.getElem?_append_right (by omega), show k * 5 - front.length = 0 by omega]; rfl)
      have q1 := rowGet HO6.out (i := k * 5 + 1) (u := .string ⟨#[]⟩) (by rw [List.getElem?_append_right (by omega), show k * 5 + 1 - front.length = 1 by omega]; rfl)
      have q2 := rowGet HO6.out (i := k * 5 + 2) (u := .string ⟨#[]⟩) (by rw [List.getElem?_append_right (by omega), show k * 5 + 2 - front.length = 2 by omega]; rfl)
      have q3 := rowGet HO6.out (i := k * 5 + 3) (u := .slice none 0 0) (by rw [List.getElem?_append_right (by omega), show k * 5 + 3 - front.length = 3 by omega]; rfl)
      have q4 := rowGet HO6.out (i := k * 5 + 4) (u := .int .i64 0) (by rw [List.getElem?_append_right (by omega), show k * 5 + 4 - front.length = 4 by omega]; rfl)
      have f0 := rowFree HO6.out (k * 5)
      have f1 := rowFree HO6.out (k * 5 + 1)
      have f2 := rowFree HO6.out (k * 5 + 2)
      have f3 := rowFree HO6.out (k * 5 + 3)
      have f4 := rowFree HO6.out (k * 5 + 4)
      have HST := Lib.hid (five_set front rest (.string ⟨#[]⟩) (.string ⟨#[]⟩) (.string ⟨#[]⟩) (.slice none 0 0) (.int .i64 0) (.string L) (.string M_) (.string F) (.slice A5 l.length c5) (.int .i64 keep) (k * 5) hfl)
      have HN := Lib.hid (show front ++ (.string L :: .string M_ :: .string F :: .slice A5 l.length c5 :: .int .i64 keep :: rest) = cellsS (ss.take (k + 1)) (vs ++ [.slice A5 l.length c5]) ++ rest by
        rw [hfr, List.take_succ_eq_append_getElem hlt, cellsS_app (by rw [hvl, List.length_take]; omega), ← H0.out, List.append_assoc]
        rfl)
      have HRR := Lib.hid hrest
      clear b5 o5 hvl d0 d1 d2 d3 d4 hsp hfl hfr hrest
      go_wp2
      go_roundw
      case rel =>
        have s2 : ∀ {E : TypeId} {sz m base : Nat} {v : Value} {cs : List Value}, w5.ownsRow base E sz v m cs → w.heap.size < base → ((((((w5.setCell ⟨w.heap.size, k * 5, none⟩ (.string L)).setCell ⟨w.heap.size, k * 5 + 1, none⟩ (.string M_)).setCell ⟨w.heap.size, k * 5 + 2, none⟩ (.string F)).setCell ⟨w.heap.size, k * 5 + 3, none⟩ (.slice A5 l.length c5)).setCell ⟨w.heap.size, k * 5 + 4, none⟩ (.int .i64 keep))).ownsRow base E sz v m cs := fun h hlt => rowSetFar (rowSetFar (rowSetFar (rowSetFar (rowSetFar h _ _ _ hlt) _ _ _ hlt) _ _ _ hlt) _ _ _ hlt) _ _ _ hlt
        refine ⟨k + 1, vs ++ [.slice A5 l.length c5], by omega, by go_num, by rw [List.length_append, HV.out]; rfl, ?_, fun i h h2 => ?_, ?_, ((((HB5.out.setCell (p := ⟨w.heap.size, k * 5, none⟩) (Nat.le_refl _) _).setCell (p := ⟨w.heap.size, k * 5 + 1, none⟩) (Nat.le_refl _) _).setCell (p := ⟨w.heap.size, k * 5 + 2, none⟩) (Nat.le_refl _) _).setCell (p := ⟨w.heap.size, k * 5 + 3, none⟩) (Nat.le_refl _) _).setCell (p := ⟨w.heap.size, k * 5 + 4, none⟩) (Nat.le_refl _) _⟩
        · rw [← HRR.out, ← HN.out, ← HST.out]; exact rowSet (rowSet (rowSet (rowSet (rowSet HO6.out (k * 5) _) (k * 5 + 1) _) (k * 5 + 2) _) (k * 5 + 3) _) (k * 5 + 4) _
        · have hvl := HV.out
          by_cases e : i < vs.length
          · rw [List.getElem_append_left e]; exact s2 (HE5.out i h e) (Nat.lt_succ_self _)
          · have : i = k := by rw [List.length_append] at h2; simp at h2; omega
            subst this
            rw [List.getElem_append_right (by omega)]
            simp only [List.getElem_singleton]
            rw [← H0.out]
            exact s2 HN5.out (Nat.lt_succ_self _)
        · rw [List.pairwise_append]
          exact ⟨HP.out, List.pairwise_singleton _ _, fun a ha b hb => by rw [List.mem_singleton] at hb; subst hb; exact HP5.out a ha⟩
      case measure => simp [intOf]; omega
    · have hke : k = ss.length := by omega
      subst hke
      go_wp2
      go_ret
      refine ⟨_, _, vs, rfl, ⟨HV.out, by simpa [cellsS] using HO.out, fun i h h2 => (HE.out i h h2).base (Nat.le_succ _), HP.out⟩, HB.out⟩

end Go.Proofs.YtfhpkcamigkmdaaGreatDoor.W
namespace Go.Proofs.YtfhpkcamigkmdaaGreatDoor.W
open Go.RowKit K R

/-- the six cells of a box that holds a store -/
theorem st_cells {W : World} {g : Nat} {v0 v1 v2 v3 v4 v5 : Value} {t : TypeId} {x : Nat × Nat} (h : W.heap[g]? = some (.cells #[v0, v1, v2, v3, v4, v5] t x)) :
    W.cell? ⟨g, 0, none⟩ = some v0 ∧ W.cell? ⟨g, 1, none⟩ = some v1 ∧ W.cell? ⟨g, 2, none⟩ = some v2 ∧ W.cell? ⟨g, 3, none⟩ = some v3 ∧ W.cell? ⟨g, 4, none⟩ = some v4 ∧ W.cell? ⟨g, 5, none⟩ = some v5 := by
  refine ⟨?_, ?_, ?_, ?_, ?_, ?_⟩ <;> rw [cell_of_row _ _ _ _ _ _ h] <;> rfl

set_option maxHeartbeats 8000000 in
theorem eqSt (w : World) (A0 A1 A2 A5 B0 B1 B2 B5 : Option Addr) (c0 c1 c2 c5 d0 d1 d2 d5 : Nat) (s : Sto) (hr : StM w w.heap.size A0 A1 A2 A5 c0 c1 c2 c5 s) (hr2 : StM w w.heap.size B0 B1 B2 B5 d0 d1 d2 d5 s) :
    Calls Tryz.prog 15 #[stV A0 A1 A2 A5 c0 c1 c2 c5 s, stV B0 B1 B2 B5 d0 d1 d2 d5 s] w fun e w' => e = .returned (.bool true) ∧ Below w.heap.size w w' := by
  obtain ⟨top, levels, sieves, keep, time, times⟩ := s
  obtain ⟨h0, h1, h2, h5, b0, b1, b2, b5⟩ := hr
  obtain ⟨i0, i1, i2, i5, -, -, -, -⟩ := hr2
  simp only [stV] at *
  obtain ⟨W0, hW0⟩ : ∃ W0, W0 = (w.alloc (.cells #[.slice A0 top.length c0, .slice A1 levels.length c1, .slice A2 sieves.length c2, .int .i64 keep, .int .i64 time, .slice A5 times.length c5] 33)).alloc (.cells #[.slice B0 top.length d0, .slice B1 levels.length d1, .slice B2 sieves.length d2, .int .i64 keep, .int .i64 time, .slice B5 times.length d5] 33) := ⟨_, rfl⟩
  have hbw : Below w.heap.size w W0 := by rw [hW0]; exact ((Below.refl _ _).alloc (Nat.le_refl _) _).alloc (by simp) _
  have x0 : W0.heap[w.heap.size]? = some (.cells #[.slice A0 top.length c0, .slice A1 levels.length c1, .slice A2 sieves.length c2, .int .i64 keep, .int .i64 time, .slice A5 times.length c5] 33 (0, 0)) := by rw [hW0, Below.heap_alloc _ _ _ (by simp)]; exact heap_alloc_new _ _
  have x1 : W0.heap[w.heap.size + 1]? = some (.cells #[.slice B0 top.length d0, .slice B1 levels.length d1, .slice B2 sieves.length d2, .int .i64 keep, .int .i64 time, .slice B5 times.length d5] 33 (0, 0)) := by rw [hW0]; have := heap_alloc_new (w.alloc (.cells #[.slice A0 top.length c0, .slice A1 levels.length c1, .slice A2 sieves.length c2, .int .i64 keep, .int .i64 time, .slice A5 times.length c5] 33)) (.cells #[.slice B0 top.length d0, .slice B1 levels.length d1, .slice B2 sieves.length d2, .int .i64 keep, .int .i64 time, .slice B5 times.length d5] 33); simpa using this
  have hs0 : W0.heap.size = w.heap.size + 1 + 1 := by rw [hW0]; simp
  have HB := Lib.hid hbw
  have HX := Lib.hid (show ∀ W, Below W0.heap.size W0 W → W.heap[w.heap.size]? = some (.cells #[.slice A0 top.length c0, .slice A1 levels.length c1, .slice A2 sieves.length c2, .int .i64 keep, .int .i64 time, .slice A5 times.length c5] 33 (0, 0)) ∧ W.heap[w.heap.size + 1]? = some (.cells #[.slice B0 top.length d0, .slice B1 levels.length d1, .slice B2 sieves.length d2, .int .i64 keep, .int .i64 time, .slice B5 times.length d5] 33 (0, 0)) from fun W hW => ⟨by rw [hW.block _ (by omega)]; exact x0, by rw [hW.block _ (by omega)]; exact x1⟩)
  have C0 := Lib.hid (eqEnS W0 w.heap.size top.length c0 d0 A0 B0 top (h0.below hbw (Nat.le_refl _)) (i0.below hbw (Nat.le_refl _)) hbw.size (Nat.le_trans b0.1 b0.2))
  have C1 := Lib.hid (show ∀ W, Below W0.heap.size W0 W → Calls Tryz.prog 48 #[.slice A1 levels.length c1, .slice B1 levels.length d1] W fun e w' => e = .returned (.bool true) ∧ Below W.heap.size W w' from fun W hW => eqLs W w.heap.size levels.length c1 d1 A1 B1 levels ((h1.below hbw (Nat.le_refl _)).below (hW.mono hbw.size) (Nat.le_refl _)) ((i1.below hbw (Nat.le_refl _)).below (hW.mono hbw.size) (Nat.le_refl _)) (Nat.le_trans hbw.size hW.size) (Nat.le_trans b1.1 b1.2))
  have C2 := Lib.hid (show ∀ W, Below W0.heap.size W0 W → Calls Tryz.prog 49 #[.slice A2 sieves.length c2, .slice B2 sieves.length d2] W fun e w' => e = .returned (.bool true) ∧ Below W.heap.size W w' from fun W hW => eqSs W w.heap.size sieves.length c2 d2 A2 B2 sieves ((h2.below hbw (Nat.le_refl _)).below (hW.mono hbw.size) (Nat.le_refl _)) ((i2.below hbw (Nat.le_refl _)).below (hW.mono hbw.size) (Nat.le_refl _)) (Nat.le_trans hbw.size hW.size) (Nat.le_trans b2.1 b2.2))
  have C5 := Lib.hid (show ∀ W, Below W0.heap.size W0 W → Calls Tryz.prog 50 #[.slice A5 times.length c5, .slice B5 times.length d5] W fun e w' => e = .returned (.bool true) ∧ Below W.heap.size W w' from fun W hW => eqNS W w.heap.size times.length c5 d5 A5 B5 times ((h5.below hbw (Nat.le_refl _)).below (hW.mono hbw.size) (Nat.le_refl _)) ((i5.below hbw (Nat.le_refl _)).below (hW.mono hbw.size) (Nat.le_refl _)) (Nat.le_trans hbw.size hW.size) (Nat.le_trans b5.1 b5.2))
  have HW0 := Lib.hid hW0
  clear h0 h1 h2 h5 i0 i1 i2 i5 b0 b1 b2 b5 hbw x0 x1 hs0 hW0
  go_enter Tryz.func15, Tryz.ntmps15
  go_wp2_with fail
  rw [← HW0.out]
  go_at_call 28
  refine Calls.mono C0.out ?_
  rintro e w1 ⟨rfl, d1⟩
  have D1 := Lib.hid d1
  clear d1
  obtain ⟨u0, u1⟩ := HX.out w1 D1.out
  obtain ⟨-, e1, -, -, -, -⟩ := st_cells u0
  obtain ⟨-, g1, -, -, -, -⟩ := st_cells u1
  clear u0 u1
  go_wp2_with fail
  go_at_call 48
  refine Calls.mono (C1.out w1 D1.out) ?_
  rintro e w2 ⟨rfl, d2⟩
  have D2 := Lib.hid (D1.out.trans (d2.mono D1.out.size))
  clear d2 e1 g1
  obtain ⟨u0, u1⟩ := HX.out w2 D2.out
  obtain ⟨-, -, e1, -, -, -⟩ := st_cells u0
  obtain ⟨-, -, g1, -, -, -⟩ := st_cells u1
  clear u0 u1
  go_wp2_with fail
  go_at_call 49
  refine Calls.mono (C2.out w2 D2.out) ?_
  rintro e w3 ⟨rfl, d3⟩
  have D3 := Lib.hid (D2.out.trans (d3.mono D2.out.size))
  clear d3 e1 g1
  obtain ⟨u0, u1⟩ := HX.out w3 D3.out
  obtain ⟨-, -, -, e3, e4, e5⟩ := st_cells u0
  obtain ⟨-, -, -, g3, g4, g5⟩ := st_cells u1
  clear u0 u1
  go_wp2_with fail
  go_at_call 50
  refine Calls.mono (C5.out w3 D3.out) ?_
  rintro e w4 ⟨rfl, d4⟩
  have D4 := Lib.hid (D3.out.trans (d4.mono D3.out.size))
  clear d4
  go_wp2
  go_ret
  exact ⟨rfl, HB.out.trans (D4.out.mono HB.out.size)⟩

/-- a store in memory of its own: all its rows lie apart -/
structure OwnSt (w : World) (base : Nat) (v0 v1 v2 v5 : Value) (vs1 vs2 : List Value) (s : Sto) : Prop where
  top : OwnE w base v0 s.top
  levels : OwnLs w base v1 vs1 s.levels
  sieves : OwnSs w base v2 vs2 s.sieves
  times : OwnN w base v5 s.times
  apart : ∀ u ∈ vs1, apartV v0 u
/-- a new store -/
def NewSt (w : World) (s : Sto) (e : Ending) (w' : World) : Prop :=
  ∃ g0 g1 g2 g5 c0 c1 c2 c5 vs1 vs2, e = .returned (stV (some ⟨g0, 0, none⟩) (some ⟨g1, 0, none⟩) (some ⟨g2, 0, none⟩) (some ⟨g5, 0, none⟩) c0 c1 c2 c5 s) ∧
    OwnSt w' w.heap.size (.slice (some ⟨g0, 0, none⟩) s.top.length c0) (.slice (some ⟨g1, 0, none⟩) s.levels.length c1) (.slice (some ⟨g2, 0, none⟩) s.sieves.length c2) (.slice (some ⟨g5, 0, none⟩) s.times.length c5) vs1 vs2 s ∧ Below w.heap.size w w'

end Go.Proofs.YtfhpkcamigkmdaaGreatDoor.W
namespace Go.Proofs.YtfhpkcamigkmdaaGreatDoor.W
open Go.RowKit K R

theorem store_size : (Tryz.prog.info? 33).map (·.size) = some 6 := by kernel_rfl
theorem OwnLs.far {w : World} {base : Nat} {v : Value} {vs : List Value} {ls : List (List En)} (h : OwnLs w base v vs ls) (g o : Nat) (x : Value) (hg : g < base) : OwnLs (w.setCell ⟨g, o, none⟩ x) base v vs ls :=
  ⟨h.len, rowSetFar h.row g o x hg, fun i h1 h2 => rowSetFar (h.each i h1 h2) g o x hg, h.apart⟩
theorem OwnSs.far {w : World} {base : Nat} {v : Value} {vs : List Value} {ss : List Sf} (h : OwnSs w base v vs ss) (g o : Nat) (x : Value) (hg : g < base) : OwnSs (w.setCell ⟨g, o, none⟩ x) base v vs ss :=
  ⟨h.len, rowSetFar h.row g o x hg, fun i h1 h2 => rowSetFar (h.each i h1 h2) g o x hg, h.apart⟩
theorem OwnLs.base {w : World} {base base' : Nat} {v : Value} {vs : List Value} {ls : List (List En)} (h : OwnLs w base v vs ls) (hb : base' ≤ base) : OwnLs w base' v vs ls :=
  ⟨h.len, rowBase h.row hb, fun i h1 h2 => rowBase (h.each i h1 h2) hb, h.apart⟩
theorem OwnSs.base {w : World} {base base' : Nat} {v : Value} {vs : List Value} {ss : List Sf} (h : OwnSs w base v vs ss) (hb : base' ≤ base) : OwnSs w base' v vs ss :=
  ⟨h.len, rowBase h.row hb, fun i h1 h2 => (h.each i h1 h2).base hb, h.apart⟩
theorem box_six {wr : World} {g : Nat} {y0 y1 y2 y3 y4 y5 : Value} {t : TypeId} (hb : wr.heap[g]? = some (.cells #[y0, y1, y2, y3, y4, y5] t (0, 0))) (x0 x1 x2 x3 x4 x5 : Value) :
    ((((((wr.setCell ⟨g, 0, none⟩ x0).setCell ⟨g, 1, none⟩ x1).setCell ⟨g, 2, none⟩ x2).setCell ⟨g, 3, none⟩ x3).setCell ⟨g, 4, none⟩ x4).setCell ⟨g, 5, none⟩ x5).heap[g]? = some (.cells #[x0, x1, x2, x3, x4, x5] t (0, 0)) := by
  have h0 := heap_setCell_same wr g 0 _ _ x0 hb
  have h1 := heap_setCell_same _ g 1 _ _ x1 h0
  have h2 := heap_setCell_same _ g 2 _ _ x2 h1
  have h3 := heap_setCell_same _ g 3 _ _ x3 h2
  have h4 := heap_setCell_same _ g 4 _ _ x4 h3
  have h5 := heap_setCell_same _ g 5 _ _ x5 h4
  rw [h5]
  simp
theorem box_free {W : World} {g o : Nat} {cs : Array Value} {t : TypeId} (h : W.heap[g]? = some (.cells cs t (0, 0))) : W.frozen? ⟨g, o, none⟩ = false := by rw [frozen_of_row _ _ _ _ _ h]

set_option maxHeartbeats 16000000 in
set_option maxRecDepth 100000 in
theorem copySt (w : World) (A0 A1 A2 A5 : Option Addr) (c0 c1 c2 c5 : Nat) (s : Sto) (hr : StM w w.heap.size A0 A1 A2 A5 c0 c1 c2 c5 s) (hs : smallSt s) :
    Calls Tryz.prog 13 #[stV A0 A1 A2 A5 c0 c1 c2 c5 s] w (NewSt w s) := by
  obtain ⟨top, levels, sieves, keep, time, times⟩ := s
  obtain ⟨h0, h1, h2, h5, -, -, -, -⟩ := hr
  obtain ⟨s0, s1, s2, s5⟩ := hs
  simp only [stV] at *
  obtain ⟨W0, hW0⟩ : ∃ W0, W0 = ((w.alloc (.cells #[.slice A0 top.length c0, .slice A1 levels.length c1, .slice A2 sieves.length c2, .int .i64 keep, .int .i64 time, .slice A5 times.length c5] 27)).alloc (.cells #[.slice none 0 0, .slice none 0 0, .slice none 0 0, .int .i64 0, .int .i64 0, .slice none 0 0] 33)).alloc (.cells #[.slice none 0 0, .slice none 0 0, .slice none 0 0, .int .i64 0, .int .i64 0, .slice none 0 0] 33) := ⟨_, rfl⟩
  have hbw : Below w.heap.size w W0 := by rw [hW0]; exact (((Below.refl _ _).alloc (Nat.le_refl _) _).alloc (by simp) _).alloc (by simp; omega) _
  have hs0 : W0.heap.size = w.heap.size + 1 + 1 + 1 := by rw [hW0]; simp
  have x0 : W0.heap[w.heap.size]? = some (.cells #[.slice A0 top.length c0, .slice A1 levels.length c1, .slice A2 sieves.length c2, .int .i64 keep, .int .i64 time, .slice A5 times.length c5] 27 (0, 0)) := by rw [hW0, Below.heap_alloc _ _ _ (by simp; omega), Below.heap_alloc _ _ _ (by simp)]; exact heap_alloc_new _ _
  have x1 : W0.heap[w.heap.size + 1]? = some (.cells #[.slice none 0 0, .slice none 0 0, .slice none 0 0, .int .i64 0, .int .i64 0, .slice none 0 0] 33 (0, 0)) := by rw [hW0, Below.heap_alloc _ _ _ (by simp)]; have := heap_alloc_new (w.alloc (.cells #[.slice A0 top.length c0, .slice A1 levels.length c1, .slice A2 sieves.length c2, .int .i64 keep, .int .i64 time, .slice A5 times.length c5] 27)) (.cells #[.slice none 0 0, .slice none 0 0, .slice none 0 0, .int .i64 0, .int .i64 0, .slice none 0 0] 33); simpa using this
  have x2 : W0.heap[w.heap.size + 1 + 1]? = some (.cells #[.slice none 0 0, .slice none 0 0, .slice none 0 0, .int .i64 0, .int .i64 0, .slice none 0 0] 33 (0, 0)) := by rw [hW0]; have := heap_alloc_new ((w.alloc (.cells #[.slice A0 top.length c0, .slice A1 levels.length c1, .slice A2 sieves.length c2, .int .i64 keep, .int .i64 time, .slice A5 times.length c5] 27)).alloc (.cells #[.slice none 0 0, .slice none 0 0, .slice none 0 0, .int .i64 0, .int .i64 0, .slice none 0 0] 33)) (.cells #[.slice none 0 0, .slice none 0 0, .slice none 0 0, .int .i64 0, .int .i64 0, .slice none 0 0] 33); simpa using this
  have HB := Lib.hid hbw
  have HS := Lib.hid hs0
  have HX := Lib.hid (show ∀ W, Below (w.heap.size + 1) W0 W → W.heap[w.heap.size]? = some (.cells #[.slice A0 top.length c0, .slice A1 levels.length c1, .slice A2 sieves.length c2, .int .i64 keep, .int .i64 time, .slice A5 times.length c5] 27 (0, 0)) from fun W hW => by rw [hW.block _ (by omega)]; exact x0)
  have HX1 := Lib.hid x1
  have HX2 := Lib.hid x2
  have C0 := Lib.hid (copyE W0 w.heap.size top.length c0 A0 top (h0.below hbw (Nat.le_refl _)) hbw.size s0.1)
  have C1 := Lib.hid (show ∀ W, Below (w.heap.size + 1) W0 W → w.heap.size ≤ W.heap.size → Calls Tryz.prog 43 #[.slice A1 levels.length c1] W (NewLs W levels) from fun W hW hz => copyLs W w.heap.size levels.length c1 A1 levels ((h1.below hbw (Nat.le_refl _)).below (hW.mono (Nat.le_succ _)) (Nat.le_refl _)) hz s1.1 s1.2)
  have C2 := Lib.hid (show ∀ W, Below (w.heap.size + 1) W0 W → w.heap.size ≤ W.heap.size → Calls Tryz.prog 44 #[.slice A2 sieves.length c2] W (NewSs W sieves) from fun W hW hz => copySs W w.heap.size sieves.length c2 A2 sieves ((h2.below hbw (Nat.le_refl _)).below (hW.mono (Nat.le_succ _)) (Nat.le_refl _)) hz s2.1 s2.2)
  have C5 := Lib.hid (show ∀ W, Below (w.heap.size + 1) W0 W → w.heap.size ≤ W.heap.size → Calls Tryz.prog 45 #[.slice A5 times.length c5] W (NewN W times) from fun W hW hz => copyN W w.heap.size times.length c5 A5 times ((h5.below hbw (Nat.le_refl _)).below (hW.mono (Nat.le_succ _)) (Nat.le_refl _)) hz s5)
  have HW0 := Lib.hid hW0
  clear h0 h1 h2 h5 s0 s1 s2 s5 hbw x0 x1 x2 hs0 hW0
  go_enter Tryz.func13, Tryz.ntmps13
  go_wp2_with fail
  rw [← HW0.out]
  go_at_call 42
  refine Calls.mono C0.out ?_
  rintro e w1 ⟨g0, k0, rfl, o0, d1⟩
  have hz0 := HS.out
  have hz1 := d1.size
  have D1 := Lib.hid (d1.mono (show w.heap.size + 1 ≤ W0.heap.size by omega))
  have O0 := Lib.hid o0
  have y2 : w1.heap[w.heap.size + 1 + 1]? = some (.cells #[.slice none 0 0, .slice none 0 0, .slice none 0 0, .int .i64 0, .int .i64 0, .slice none 0 0] 33 (0, 0)) := by rw [d1.block _ (by omega)]; exact HX2.out
  have Y1 := Lib.hid (show w1.heap[w.heap.size + 1]? = some (.cells #[.slice none 0 0, .slice none 0 0, .slice none 0 0, .int .i64 0, .int .i64 0, .slice none 0 0] 33 (0, 0)) by rw [d1.block _ (by omega)]; exact HX1.out)
  obtain ⟨q0, -, -, -, -, -⟩ := st_cells y2
  have f0 : w1.frozen? ⟨w.heap.size + 1 + 1, 0, none⟩ = false := box_free y2
  obtain ⟨W1, hW1⟩ : ∃ W, W = w1.setCell ⟨w.heap.size + 1 + 1, 0, none⟩ (.slice (some ⟨g0, 0, none⟩) top.length k0) := ⟨_, rfl⟩
  have E1 := Lib.hid (show Below (w.heap.size + 1) W0 W1 by rw [hW1]; exact D1.out.setCell (p := ⟨w.heap.size + 1 + 1, 0, none⟩) (by show w.heap.size + 1 ≤ w.heap.size + 1 + 1; omega) _)
  have z1 : W1.heap[w.heap.size + 1 + 1]? = some (.cells #[.slice (some ⟨g0, 0, none⟩) top.length k0, .slice none 0 0, .slice none 0 0, .int .i64 0, .int .i64 0, .slice none 0 0] 33 (0, 0)) := by rw [hW1]; exact heap_setCell_same _ _ _ _ _ _ y2
  have V1 := Lib.hid (show W1.heap[w.heap.size + 1]? = some (.cells #[.slice none 0 0, .slice none 0 0, .slice none 0 0, .int .i64 0, .int .i64 0, .slice none 0 0] 33 (0, 0)) by rw [hW1, heap_setCell_other _ _ _ _ (by simp)]; exact Y1.out)
  have O01 := Lib.hid (show W1.ownsRow W0.heap.size 83 4 (.slice (some ⟨g0, 0, none⟩) top.length k0) top.length (cellsE top) by rw [hW1]; exact rowSetFar O0.out _ _ _ (by omega))
  have Z1 := Lib.hid z1
  have hs1 : W1.heap.size = w1.heap.size := by rw [hW1]; simp [World.setCell]
  obtain ⟨-, e1, -, -, -, -⟩ := st_cells (HX.out W1 E1.out)
  have HW1 := Lib.hid hW1
  rw [hW1] at e1
  clear d1 o0 y2 z1 hW1
  go_wp2_with fail
  rw [← HW1.out]
  go_at_call 43
  refine Calls.mono (C1.out W1 E1.out (by omega)) ?_
  rintro e w2 ⟨g1, k1, vs1, rfl, o1, d2⟩
  have hz2 := d2.size
  have D2 := Lib.hid (E1.out.trans (d2.mono (show w.heap.size + 1 ≤ W1.heap.size by omega)))
  have y2 : w2.heap[w.heap.size + 1 + 1]? = some (.cells #[.slice (some ⟨g0, 0, none⟩) top.length k0, .slice none 0 0, .slice none 0 0, .int .i64 0, .int .i64 0, .slice none 0 0] 33 (0, 0)) := by rw [d2.block _ (by omega)]; exact Z1.out
  have Y1 := Lib.hid (show w2.heap[w.heap.size + 1]? = some (.cells #[.slice none 0 0, .slice none 0 0, .slice none 0 0, .int .i64 0, .int .i64 0, .slice none 0 0] 33 (0, 0)) by rw [d2.block _ (by omega)]; exact V1.out)
  obtain ⟨-, q1, -, -, -, -⟩ := st_cells y2
  have f1 : w2.frozen? ⟨w.heap.size + 1 + 1, 1, none⟩ = false := box_free y2
  have AP := Lib.hid (show ∀ u ∈ vs1, apartV (.slice (some ⟨g0, 0, none⟩) top.length k0) u from fun u hu => by
    obtain ⟨i, hi, rfl⟩ := List.getElem_of_mem hu
    exact apart_new O01.out (o1.each i (by rw [← o1.len]; exact hi) hi) (Nat.le_refl _))
  obtain ⟨W2, hW2⟩ : ∃ W, W = w2.setCell ⟨w.heap.size + 1 + 1, 1, none⟩ (.slice (some ⟨g1, 0, none⟩) levels.length k1) := ⟨_, rfl⟩
  have E2 := Lib.hid (show Below (w.heap.size + 1) W0 W2 by rw [hW2]; exact D2.out.setCell (p := ⟨w.heap.size + 1 + 1, 1, none⟩) (by show w.heap.size + 1 ≤ w.heap.size + 1 + 1; omega) _)
  have z2 : W2.heap[w.heap.size + 1 + 1]? = some (.cells #[.slice (some ⟨g0, 0, none⟩) top.length k0, .slice (some ⟨g1, 0, none⟩) levels.length k1, .slice none 0 0, .int .i64 0, .int .i64 0, .slice none 0 0] 33 (0, 0)) := by rw [hW2]; exact heap_setCell_same _ _ _ _ _ _ y2
  have V2 := Lib.hid (show W2.heap[w.heap.size + 1]? = some (.cells #[.slice none 0 0, .slice none 0 0, .slice none 0 0, .int .i64 0, .int .i64 0, .slice none 0 0] 33 (0, 0)) by rw [hW2, heap_setCell_other _ _ _ _ (by simp)]; exact Y1.out)
  have O02 := Lib.hid (show W2.ownsRow W0.heap.size 83 4 (.slice (some ⟨g0, 0, none⟩) top.length k0) top.length (cellsE top) by rw [hW2]; exact rowSetFar (rowBelow O01.out d2) _ _ _ (by omega))
  have O12 := Lib.hid (show OwnLs W2 W0.heap.size (.slice (some ⟨g1, 0, none⟩) levels.length k1) vs1 levels by rw [hW2]; exact (o1.base (by omega)).far _ _ _ (by omega))
  have Z2 := Lib.hid z2
  have hs2 : W2.heap.size = w2.heap.size := by rw [hW2]; simp [World.setCell]
  obtain ⟨-, -, e2, -, -, -⟩ := st_cells (HX.out W2 E2.out)
  have HW2 := Lib.hid hW2
  rw [hW2] at e2
  clear d2 o1 y2 z2 hW2 O01 Y1 V1 Z1 e1
  go_wp2_with fail
  rw [← HW2.out]
  go_at_call 44
  refine Calls.mono (C2.out W2 E2.out (by omega)) ?_
  rintro e w3 ⟨g2, k2, vs2, rfl, o2, d3⟩
  have hz3 := d3.size
  have D3 := Lib.hid (E2.out.trans (d3.mono (show w.heap.size + 1 ≤ W2.heap.size by omega)))
  have y2 : w3.heap[w.heap.size + 1 + 1]? = some (.cells #[.slice (some ⟨g0, 0, none⟩) top.length k0, .slice (some ⟨g1, 0, none⟩) levels.length k1, .slice none 0 0, .int .i64 0, .int .i64 0, .slice none 0 0] 33 (0, 0)) := by rw [d3.block _ (by omega)]; exact Z2.out
  have Y1 := Lib.hid (show w3.heap[w.heap.size + 1]? = some (.cells #[.slice none 0 0, .slice none 0 0, .slice none 0 0, .int .i64 0, .int .i64 0, .slice none 0 0] 33 (0, 0)) by rw [d3.block _ (by omega)]; exact V2.out)
  obtain ⟨-, -, q2, q3, q4, -⟩ := st_cells y2
  have f2 : w3.frozen? ⟨w.heap.size + 1 + 1, 2, none⟩ = false := box_free y2
  have f3 : w3.frozen? ⟨w.heap.size + 1 + 1, 3, none⟩ = false := box_free y2
  have f4 : w3.frozen? ⟨w.heap.size + 1 + 1, 4, none⟩ = false := box_free y2
  obtain ⟨W3, hW3⟩ : ∃ W, W = ((w3.setCell ⟨w.heap.size + 1 + 1, 2, none⟩ (.slice (some ⟨g2, 0, none⟩) sieves.length k2)).setCell ⟨w.heap.size + 1 + 1, 3, none⟩ (.int .i64 keep)).setCell ⟨w.heap.size + 1 + 1, 4, none⟩ (.int .i64 time) := ⟨_, rfl⟩
  have E3 := Lib.hid (show Below (w.heap.size + 1) W0 W3 by rw [hW3]; exact (((D3.out.setCell (p := ⟨w.heap.size + 1 + 1, 2, none⟩) (by show w.heap.size + 1 ≤ w.heap.size + 1 + 1; omega) _).setCell (p := ⟨w.heap.size + 1 + 1, 3, none⟩) (by show w.heap.size + 1 ≤ w.heap.size + 1 + 1; omega) _).setCell (p := ⟨w.heap.size + 1 + 1, 4, none⟩) (by show w.heap.size + 1 ≤ w.heap.size + 1 + 1; omega) _))
  have z2 : W3.heap[w.heap.size + 1 + 1]? = some (.cells #[.slice (some ⟨g0, 0, none⟩) top.length k0, .slice (some ⟨g1, 0, none⟩) levels.length k1, .slice (some ⟨g2, 0, none⟩) sieves.length k2, .int .i64 keep, .int .i64 time, .slice none 0 0] 33 (0, 0)) := by rw [hW3]; exact heap_setCell_same _ _ _ _ _ _ (heap_setCell_same _ _ _ _ _ _ (heap_setCell_same _ _ _ _ _ _ y2))
  have V3 := Lib.hid (show W3.heap[w.heap.size + 1]? = some (.cells #[.slice none 0 0, .slice none 0 0, .slice none 0 0, .int .i64 0, .int .i64 0, .slice none 0 0] 33 (0, 0)) by rw [hW3, heap_setCell_other _ _ _ _ (by simp), heap_setCell_other _ _ _ _ (by simp), heap_setCell_other _ _ _ _ (by simp)]; exact Y1.out)
  have O03 := Lib.hid (show W3.ownsRow W0.heap.size 83 4 (.slice (some ⟨g0, 0, none⟩) top.length k0) top.length (cellsE top) by rw [hW3]; exact rowSetFar (rowSetFar (rowSetFar (rowBelow O02.out d3) _ _ _ (by omega)) _ _ _ (by omega)) _ _ _ (by omega))
  have O13 := Lib.hid (show OwnLs W3 W0.heap.size (.slice (some ⟨g1, 0, none⟩) levels.length k1) vs1 levels by rw [hW3]; exact (((O12.out.below d3).far _ _ _ (by omega)).far _ _ _ (by omega)).far _ _ _ (by omega))
  have O23 := Lib.hid (show OwnSs W3 W0.heap.size (.slice (some ⟨g2, 0, none⟩) sieves.length k2) vs2 sieves by rw [hW3]; exact (((o2.base (by omega)).far _ _ _ (by omega)).far _ _ _ (by omega)).far _ _ _ (by omega))
  have Z3 := Lib.hid z2
  have hs3 : W3.heap.size = w3.heap.size := by rw [hW3]; simp [World.setCell]
  obtain ⟨-, -, -, e3, e4, e5⟩ := st_cells (HX.out w3 D3.out)
  have HW3 := Lib.hid hW3
  clear d3 o2 y2 z2 hW3 O02 O12 Y1 V2 Z2 e2
  go_wp2_with fail
  rw [← HW3.out]
  go_at_call 45
  refine Calls.mono (C5.out W3 E3.out (by omega)) ?_
  rintro e w5 ⟨g5, k5, rfl, o5, d5⟩
  have hz5 := d5.size
  have D5 := Lib.hid (E3.out.trans (d5.mono (show w.heap.size + 1 ≤ W3.heap.size by omega)))
  have y2 : w5.heap[w.heap.size + 1 + 1]? = some (.cells #[.slice (some ⟨g0, 0, none⟩) top.length k0, .slice (some ⟨g1, 0, none⟩) levels.length k1, .slice (some ⟨g2, 0, none⟩) sieves.length k2, .int .i64 keep, .int .i64 time, .slice none 0 0] 33 (0, 0)) := by rw [d5.block _ (by omega)]; exact Z3.out
  have y1 : w5.heap[w.heap.size + 1]? = some (.cells #[.slice none 0 0, .slice none 0 0, .slice none 0 0, .int .i64 0, .int .i64 0, .slice none 0 0] 33 (0, 0)) := by rw [d5.block _ (by omega)]; exact V3.out
  obtain ⟨q0', q1', q2', q3', q4', q5'⟩ := st_cells y2
  obtain ⟨p0, p1, p2, p3, p4, p5⟩ := st_cells y1
  have qz5 : w5.frozen? ⟨w.heap.size + 1 + 1, 5, none⟩ = false := box_free y2
  have pz0 : w5.frozen? ⟨w.heap.size + 1, 0, none⟩ = false := box_free y1
  have pz1 : w5.frozen? ⟨w.heap.size + 1, 1, none⟩ = false := box_free y1
  have pz2 : w5.frozen? ⟨w.heap.size + 1, 2, none⟩ = false := box_free y1
  have pz3 : w5.frozen? ⟨w.heap.size + 1, 3, none⟩ = false := box_free y1
  have pz4 : w5.frozen? ⟨w.heap.size + 1, 4, none⟩ = false := box_free y1
  have pz5 : w5.frozen? ⟨w.heap.size + 1, 5, none⟩ = false := box_free y1
  have O05 := Lib.hid (rowBelow O03.out d5)
  have O15 := Lib.hid (O13.out.below d5)
  have O25 := Lib.hid (O23.out.below d5)
  have O55 := Lib.hid (rowBase (base' := W0.heap.size) o5 (by omega))
  have HY1 := Lib.hid y1
  clear d5 o5 y2 y1 O03 O13 O23 V3 Z3 e3 e4 e5 q0 q1 q2 q3 q4 f0 f1 f2 f3 f4
  obtain ⟨WF, hWF⟩ : ∃ W, W = ((((((w5.setCell ⟨w.heap.size + 1 + 1, 5, none⟩ (.slice (some ⟨g5, 0, none⟩) times.length k5)).setCell ⟨w.heap.size + 1, 0, none⟩ (.slice (some ⟨g0, 0, none⟩) top.length k0)).setCell ⟨w.heap.size + 1, 1, none⟩ (.slice (some ⟨g1, 0, none⟩) levels.length k1)).setCell ⟨w.heap.size + 1, 2, none⟩ (.slice (some ⟨g2, 0, none⟩) sieves.length k2)).setCell ⟨w.heap.size + 1, 3, none⟩ (.int .i64 keep)).setCell ⟨w.heap.size + 1, 4, none⟩ (.int .i64 time)).setCell ⟨w.heap.size + 1, 5, none⟩ (.slice (some ⟨g5, 0, none⟩) times.length k5) := ⟨_, rfl⟩
  have HF6 := Lib.hid (show WF.heap[w.heap.size + 1]? = some (.cells #[.slice (some ⟨g0, 0, none⟩) top.length k0, .slice (some ⟨g1, 0, none⟩) levels.length k1, .slice (some ⟨g2, 0, none⟩) sieves.length k2, .int .i64 keep, .int .i64 time, .slice (some ⟨g5, 0, none⟩) times.length k5] 33 (0, 0)) by rw [hWF]; exact box_six (by rw [heap_setCell_other _ _ _ _ (by simp)]; exact HY1.out) _ _ _ _ _ _)
  have HT := Lib.hid (show WF.ownsRow w.heap.size 83 4 (.slice (some ⟨g0, 0, none⟩) top.length k0) top.length (cellsE top) by rw [hWF]; exact rowBase (rowSetFar (rowSetFar (rowSetFar (rowSetFar (rowSetFar (rowSetFar (rowSetFar (O05.out) _ _ _ (by omega)) _ _ _ (by omega)) _ _ _ (by omega)) _ _ _ (by omega)) _ _ _ (by omega)) _ _ _ (by omega)) _ _ _ (by omega)) (by omega))
  have HL := Lib.hid (show OwnLs WF w.heap.size (.slice (some ⟨g1, 0, none⟩) levels.length k1) vs1 levels by rw [hWF]; exact ((((((((O15.out).far _ _ _ (by omega)).far _ _ _ (by omega)).far _ _ _ (by omega)).far _ _ _ (by omega)).far _ _ _ (by omega)).far _ _ _ (by omega)).far _ _ _ (by omega)).base (by omega))
  have HSS := Lib.hid (show OwnSs WF w.heap.size (.slice (some ⟨g2, 0, none⟩) sieves.length k2) vs2 sieves by rw [hWF]; exact ((((((((O25.out).far _ _ _ (by omega)).far _ _ _ (by omega)).far _ _ _ (by omega)).far _ _ _ (by omega)).far _ _ _ (by omega)).far _ _ _ (by omega)).far _ _ _ (by omega)).base (by omega))
  have HN := Lib.hid (show WF.ownsRow w.heap.size 3 1 (.slice (some ⟨g5, 0, none⟩) times.length k5) times.length (intsC times) by rw [hWF]; exact rowBase (rowSetFar (rowSetFar (rowSetFar (rowSetFar (rowSetFar (rowSetFar (rowSetFar (O55.out) _ _ _ (by omega)) _ _ _ (by omega)) _ _ _ (by omega)) _ _ _ (by omega)) _ _ _ (by omega)) _ _ _ (by omega)) _ _ _ (by omega)) (by omega))
  have HBF := Lib.hid (show Below w.heap.size w WF by rw [hWF]; exact (((((((HB.out.trans (D5.out.mono (Nat.le_succ _))).setCell (p := ⟨w.heap.size + 1 + 1, 5, none⟩) (by show w.heap.size ≤ w.heap.size + 1 + 1; omega) _).setCell (p := ⟨w.heap.size + 1, 0, none⟩) (by show w.heap.size ≤ w.heap.size + 1; omega) _).setCell (p := ⟨w.heap.size + 1, 1, none⟩) (by show w.heap.size ≤ w.heap.size + 1; omega) _).setCell (p := ⟨w.heap.size + 1, 2, none⟩) (by show w.heap.size ≤ w.heap.size + 1; omega) _).setCell (p := ⟨w.heap.size + 1, 3, none⟩) (by show w.heap.size ≤ w.heap.size + 1; omega) _).setCell (p := ⟨w.heap.size + 1, 4, none⟩) (by show w.heap.size ≤ w.heap.size + 1; omega) _).setCell (p := ⟨w.heap.size + 1, 5, none⟩) (by show w.heap.size ≤ w.heap.size + 1; omega) _)
  have HWF := Lib.hid hWF
  clear hWF O05 O15 O25 O55
  go_wp2
  rw [← HWF.out]
  refine bodyPost_ret (v := .agg #[.slice (some ⟨g0, 0, none⟩) top.length k0, .slice (some ⟨g1, 0, none⟩) levels.length k1, .slice (some ⟨g2, 0, none⟩) sieves.length k2, .int .i64 keep, .int .i64 time, .slice (some ⟨g5, 0, none⟩) times.length k5]) ?_ rfl ⟨g0, g1, g2, g5, k0, k1, k2, k5, vs1, vs2, rfl, ⟨HT.out, HL.out, HSS.out, HN.out, AP.out⟩, HBF.out⟩
  exact results_cell_row rfl _ _ (w.heap.size + 1) 33 _ (0, 0) _ rfl HF6.out Tryz.underlying33 rfl store_size

end Go.Proofs.YtfhpkcamigkmdaaGreatDoor.W
