/-
  RunKeys, the model's and the program's.
-/
import Derived.Test.YtfpgjkanmanajaaED
namespace Go.Proofs.Ytfpgjkanmanajaa.W
open Go.RowKit K R

def keysO (l : List En) : List ByteArray := if runB l = true then keysL l else []

set_option maxHeartbeats 4000000 in
theorem runKeysS (w : World) (B n c : Nat) (A : Option Addr) (l : List En) (hr : Ents w B A n l) (hB : B ≤ w.heap.size) (hn : n ≤ 1073741824) (hf : ∀ e ∈ l, e.key.size ≤ maxLen) :
    Calls Try.prog 39 #[.slice A n c] w (New w (keysO l)) := by
  have hlen := hr.len
  subst hlen
  have HR := Lib.hid hr
  have HF := Lib.hid hf
  clear hr hf
  obtain ⟨b, hb⟩ : ∃ b, b = runB l := ⟨_, rfl⟩
  have HS := Lib.hid (show Calls Try.prog 25 #[.slice A l.length c] w fun e w' => e = .returned (.bool b) ∧ Below w.heap.size w w' from by rw [hb]; exact runS w B l.length c A l HR.out hB (by unfold maxLen; omega) HF.out)
  unfold keysO
  rw [← hb]
  clear hb
  cases b with
  | false =>
    go_enter Try.func39, Try.ntmps39
    go_wp2_with fail
    go_at_call 25
    refine HS.out.mono ?_
    rintro e w1 ⟨rfl, b1⟩
    have HB1 := Lib.hid b1
    clear b1
    go_wp2
    go_ret
    exact ⟨_, rfl, (Own.empty w1 w1.heap.size (Nat.le_refl _)).base HB1.out.size, HB1.out.alloc HB1.out.size _⟩
  | true =>
    go_enter Try.func39, Try.ntmps39
    go_wp2_with fail
    go_at_call 25
    refine HS.out.mono ?_
    rintro e w1 ⟨rfl, b1⟩
    have HB1 := Lib.hid b1
    clear b1
    go_wp2_with fail
    go_at_call 68
    refine Calls.mono (keysOfS w1 B l.length c A l (HR.out.below HB1.out hB) (Nat.le_trans hB HB1.out.size) hn) ?_
    rintro e w2 ⟨v2, rfl, o2, b2⟩
    have HO2 := Lib.hid (o2.base HB1.out.size)
    have HB2 := Lib.hid (HB1.out.trans (b2.mono HB1.out.size))
    clear o2 b2
    go_wp2
    go_ret
    exact ⟨_, rfl, HO2.out, HB2.out⟩

set_option maxHeartbeats 8000000 in
set_option maxRecDepth 100000 in
theorem runKeysI (w : World) (B n c : Nat) (A : Option Addr) (l : List En) (hr : Ents w B A n l) (hB : B ≤ w.heap.size) (hn : n ≤ 1073741824) (hf : ∀ e ∈ l, e.key.size ≤ maxLen) :
    Calls Try.prog 36 #[.slice A n c] w (New w (keysO l)) := by
  have hlen := hr.len
  subst hlen
  have HR := Lib.hid hr
  have HF := Lib.hid hf
  clear hr hf
  obtain ⟨b, hb⟩ : ∃ b, b = runB l := ⟨_, rfl⟩
  have HS := Lib.hid (show Calls Try.prog 24 #[.slice A l.length c] w fun e w' => e = .returned (.bool b) ∧ Below w.heap.size w w' from by rw [hb]; exact runI w B l.length c A l HR.out hB (by unfold maxLen; omega) HF.out)
  unfold keysO
  rw [← hb]
  clear hb
  cases b with
  | false =>
    go_enter Try.func36, Try.ntmps36
    go_wp2_with fail
    go_at_call 24
    refine HS.out.mono ?_
    rintro e w1 ⟨rfl, b1⟩
    have HB1 := Lib.hid b1
    clear b1
    go_wp2
    go_ret
    exact ⟨_, rfl, Own.none_ _ _, HB1.out⟩
  | true =>
    go_enter Try.func36, Try.ntmps36
    go_wp2_with fail
    go_at_call 24
    refine HS.out.mono ?_
    rintro e w1 ⟨rfl, b1⟩
    have HB1 := Lib.hid b1
    clear b1
    go_wp2_with fail
    go_loopw [3, 11] (fun s i wr => ∃ (k : Nat) (v : Value), k ≤ l.length ∧ i = .int .i64 (k : Nat) ∧ s = v ∧ Own wr w.heap.size v (keysUp l k) ∧ Below w.heap.size w wr) (fun _ i _ => l.length - (intOf i).toNat)
    case atStart => exact ⟨0, _, Nat.zero_le _, rfl, rfl, Own.none_ _ _, HB1.out⟩
    case round =>
      obtain ⟨k, s0, hk, rfl, hs0, ho, hbl⟩ := hrel
      have hs1 := hs0.symm
      clear hs0
      subst hs1
      have HO := Lib.hid ho
      have HBL := Lib.hid hbl
      clear ho hbl HB1
      by_cases hlt : k < l.length
      · obtain ⟨kb, ko, hA, hkb, c0, c1, c2, c3⟩ := HR.out.cell k hlt
        have hkb' : kb < w.heap.size := Nat.lt_of_lt_of_le hkb hB
        have r0 := (HBL.out.cell (p := ⟨kb, ko + k * 4, none⟩) hkb').trans c0
        have r1 := (HBL.out.cell (p := ⟨kb, ko + k * 4 + 1, none⟩) hkb').trans c1
        have r2 := (HBL.out.cell (p := ⟨kb, ko + k * 4 + 2, none⟩) hkb').trans c2
        have r3 := (HBL.out.cell (p := ⟨kb, ko + k * 4 + 3, none⟩) hkb').trans c3
        obtain ⟨x0, h0⟩ : ∃ y, y = l[k].key := ⟨_, rfl⟩
        obtain ⟨x1, h1⟩ : ∃ y, y = l[k].val := ⟨_, rfl⟩
        obtain ⟨x2, h2⟩ : ∃ y, y = l[k].gone := ⟨_, rfl⟩
        obtain ⟨x3, h3⟩ : ∃ y, y = l[k].time := ⟨_, rfl⟩
        rw [← h0] at r0
        rw [← h1] at r1
        rw [← h2] at r2
        rw [← h3] at r3
        have HKE := Lib.hid (show (en l k).key = x0 by rw [key_at hlt, h0])
        have z0 : (0 : Int) ≤ (k : Int) := by omega
        have z1 : (k : Int) < (l.length : Int) := by omega
        obtain ⟨WX, hWX⟩ : ∃ W, W = wr.alloc (.cells #[.string x0, .int .i64 x1, .bool x2, .int .i64 x3] 33) := ⟨_, rfl⟩
        have HBX := Lib.hid (show Below w.heap.size w WX by rw [hWX]; exact HBL.out.alloc HBL.out.size _)
        have HOX := Lib.hid (show Own WX w.heap.size s0 (keysUp l k) by rw [hWX]; exact HO.out.alloc _)
        have HYX := Lib.hid (show WX.heap[wr.heap.size]? = some (.cells #[.string x0, .int .i64 x1, .bool x2, .int .i64 x3] 33 (0, 0)) by rw [hWX]; exact heap_alloc_new _ _)
        obtain ⟨q, hq⟩ : ∃ q, newAt l k = q := ⟨_, rfl⟩
        have HFO := Lib.hid (show Calls Try.prog 76 #[.slice A l.length c, .int .i64 k] WX fun e w' => e = .returned (.bool (!q)) ∧ Same WX w' from by rw [← hq]; exact followsI WX B l.length c k A l (HR.out.below HBX.out hB) (by unfold maxLen; omega) hlt)
        have HWX := Lib.hid hWX
        have HQ := Lib.hid hq
        subst hA
        clear h0 h1 h2 h3 c0 c1 c2 c3 hWX hq
        go_upto_region 7 with fail
        rw [← HWX.out]
        go_wp2_with fail
        go_at_call 76
        refine HFO.out.mono ?_
        rintro e w5 ⟨rfl, m5⟩
        have hb5 := m5.below WX.heap.size
        have HB5 := Lib.hid (HBX.out.trans (hb5.mono HBX.out.size))
        have HO5 := Lib.hid (HOX.out.below hb5)
        have hs5 := hb5.size
        have HY5 := Lib.hid (show w5.heap[wr.heap.size]? = some (.cells #[.string x0, .int .i64 x1, .bool x2, .int .i64 x3] 33 (0, 0)) by rw [hb5.block _ (Array.getElem?_eq_some_iff.1 HYX.out).1]; exact HYX.out)
        have y0 : w5.cell? ⟨wr.heap.size, 0, none⟩ = some (.string x0) := by rw [cell_of_row _ _ _ _ _ _ HY5.out]; rfl
        clear m5 hb5 r0 r1 r2 r3
        cases q with
        | false =>
          go_wp2
          go_roundw
          case rel => exact ⟨k + 1, _, by omega, by go_num, rfl, by rw [keysUp_old HQ.out]; exact HO5.out, HB5.out⟩
          case measure => simp [intOf]; omega
        | true =>
          go_wp2_with (at_builtin; refine app_own rfl (.tmp 20) (.tmp 23) rfl _ w.heap.size _ (keysUp l k) rfl (HO5.out.alloc _) (w5.heap.size + 1) 1 1 _ [x0] rfl (one_strs w5 x0) (by have := keysUp_len l k; omega) (by have := HB5.out.size; simp; omega) ?_; intro vb wb ob gb; have OB := Lib.hid ob; have BB := Lib.hid (Below.app (HB5.out.alloc HB5.out.size _) (HO5.out.alloc _) (Nat.le_refl _) gb (by have := HB5.out.size; simp; omega)); clear ob gb)
          go_roundw
          case rel => exact ⟨k + 1, _, by omega, by go_num, rfl, by rw [keysUp_new HQ.out, HKE.out]; exact OB.out, BB.out⟩
          case measure => simp [intOf]; omega
      · have hke : k = l.length := by omega
        subst hke
        go_wp2
        go_ret
        exact ⟨_, rfl, HO.out, HBL.out⟩

end Go.Proofs.Ytfpgjkanmanajaa.W
