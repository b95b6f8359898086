/-
  Slices of entries that are the same, told so; the exact law of RunOk.
-/
import Derived.Test.YtfpgjkanmanajaaE8
import Derived.Test.YtfpgjkanmanajaaE5
import Derived.Deep.RegionHeld3
namespace Go.Proofs.Ytfpgjkanmanajaa.W
open Go.RowKit K R

set_option maxHeartbeats 2000000 in
theorem eqEn (k : ByteArray) (v : Int) (g : Bool) (t : Int) (w : World) :
    Calls Try.prog 48 #[.agg #[.string k, .int .i64 v, .bool g, .int .i64 t], .agg #[.string k, .int .i64 v, .bool g, .int .i64 t]] w fun e w' => e = .returned (.bool true) ∧ Below w.heap.size w w' := by
  have h : (k.toList == k.toList) = true := by simp
  cases g
  · go_enter Try.func48, Try.ntmps48
    go_wp2
    go_ret
    exact ⟨rfl, two_below _ _ _⟩
  · go_enter Try.func48, Try.ntmps48
    go_wp2
    go_ret
    exact ⟨rfl, two_below _ _ _⟩

set_option maxHeartbeats 4000000 in
theorem eqEnS (w : World) (B n c c2 : Nat) (A A2 : Option Addr) (l : List En) (hr : Ents w B A n l) (hr2 : Ents w B A2 n l) (hB : B ≤ w.heap.size) (hn : n ≤ maxLen) :
    Calls Try.prog 47 #[.slice A n c, .slice A2 n c2] w fun e w' => e = .returned (.bool true) ∧ Below w.heap.size w w' := by
  have hlen := hr.len
  subst hlen
  unfold maxLen at hn
  have HR := Lib.hid hr
  have HR2 := Lib.hid hr2
  clear hr hr2
  go_enter Try.func47, Try.ntmps47
  go_wp2_with fail
  go_loopw [5] (fun i wr => ∃ k : Nat, k ≤ l.length ∧ i = .int .i64 (k : Nat) ∧ Below w.heap.size w wr) (fun i _ => l.length - (intOf i).toNat)
  case atStart => exact ⟨0, Nat.zero_le _, rfl, Below.refl _ _⟩
  case round =>
    obtain ⟨k, hk, rfl, hb⟩ := hrel
    have HBL := Lib.hid hb
    clear hb
    by_cases hlt : k < l.length
    · obtain ⟨kb, ko, hA, hkb, c0, c1, c2, c3⟩ := HR.out.cell k hlt
      obtain ⟨jb, jo, hA2, hjb, d0, d1, d2, d3⟩ := HR2.out.cell k hlt
      subst hA hA2
      have hkb' : kb < w.heap.size := Nat.lt_of_lt_of_le hkb hB
      have hjb' : jb < w.heap.size := Nat.lt_of_lt_of_le hjb hB
      obtain ⟨x0, h0⟩ : ∃ y, y = l[k].key := ⟨_, rfl⟩
      obtain ⟨x1, h1⟩ : ∃ y, y = l[k].val := ⟨_, rfl⟩
      obtain ⟨x2, h2⟩ : ∃ y, y = l[k].gone := ⟨_, rfl⟩
      obtain ⟨x3, h3⟩ : ∃ y, y = l[k].time := ⟨_, rfl⟩
      rw [← h0] at c0 d0
      rw [← h1] at c1 d1
      rw [← h2] at c2 d2
      rw [← h3] at c3 d3
      have z0 : (0 : Int) ≤ (k : Int) := by omega
      have z1 : (k : Int) < (l.length : Int) := by omega
      have HSS := Lib.hid (show ∀ W, Below w.heap.size w W → (fun W : World => W.cell? ⟨kb, ko + k * 4, none⟩ = some (.string x0) ∧ W.cell? ⟨kb, ko + k * 4 + 1, none⟩ = some (.int .i64 x1) ∧ W.cell? ⟨kb, ko + k * 4 + 2, none⟩ = some (.bool x2) ∧ W.cell? ⟨kb, ko + k * 4 + 3, none⟩ = some (.int .i64 x3) ∧ W.cell? ⟨jb, jo + k * 4, none⟩ = some (.string x0) ∧ W.cell? ⟨jb, jo + k * 4 + 1, none⟩ = some (.int .i64 x1) ∧ W.cell? ⟨jb, jo + k * 4 + 2, none⟩ = some (.bool x2) ∧ W.cell? ⟨jb, jo + k * 4 + 3, none⟩ = some (.int .i64 x3)) W from fun W hW => ⟨(hW.cell (p := ⟨kb, ko + k * 4, none⟩) hkb').trans c0, (hW.cell (p := ⟨kb, ko + k * 4 + 1, none⟩) hkb').trans c1, (hW.cell (p := ⟨kb, ko + k * 4 + 2, none⟩) hkb').trans c2, (hW.cell (p := ⟨kb, ko + k * 4 + 3, none⟩) hkb').trans c3, (hW.cell (p := ⟨jb, jo + k * 4, none⟩) hjb').trans d0, (hW.cell (p := ⟨jb, jo + k * 4 + 1, none⟩) hjb').trans d1, (hW.cell (p := ⟨jb, jo + k * 4 + 2, none⟩) hjb').trans d2, (hW.cell (p := ⟨jb, jo + k * 4 + 3, none⟩) hjb').trans d3⟩)
      have HQ := Lib.hid (show ∀ W, Below w.heap.size w W → Calls Try.prog 48 #[.agg #[.string x0, .int .i64 x1, .bool x2, .int .i64 x3], .agg #[.string x0, .int .i64 x1, .bool x2, .int .i64 x3]] W fun e w' => e = .returned (.bool true) ∧ Below w.heap.size w w' from fun W hW => (eqEn x0 x1 x2 x3 W).mono fun _ _ ⟨he, hb⟩ => ⟨he, hW.trans (hb.mono hW.size)⟩)
      clear c0 c1 c2 c3 d0 d1 d2 d3 h0 h1 h2 h3
      go_wp2_with fail
      go_region_held3 (fun W : World => W.cell? ⟨kb, ko + k * 4, none⟩ = some (.string x0) ∧ W.cell? ⟨kb, ko + k * 4 + 1, none⟩ = some (.int .i64 x1) ∧ W.cell? ⟨kb, ko + k * 4 + 2, none⟩ = some (.bool x2) ∧ W.cell? ⟨kb, ko + k * 4 + 3, none⟩ = some (.int .i64 x3) ∧ W.cell? ⟨jb, jo + k * 4, none⟩ = some (.string x0) ∧ W.cell? ⟨jb, jo + k * 4 + 1, none⟩ = some (.int .i64 x1) ∧ W.cell? ⟨jb, jo + k * 4 + 2, none⟩ = some (.bool x2) ∧ W.cell? ⟨jb, jo + k * 4 + 3, none⟩ = some (.int .i64 x3)) (exact HSS.out _ (by first | exact HB9.out | exact bel2 HBL.out (by rfl) (by rfl) (by rfl) (by rfl))) (first | (go_at_call 48; refine Calls.mono (HQ.out _ (by first | exact HB9.out | exact bel2 HBL.out (by rfl) (by rfl) (by rfl) (by rfl))) ?_; rintro e w9 ⟨rfl, hb9⟩; have HB9 := Lib.hid hb9; clear hb9))
      all_goals
        go_wp2
        go_roundw
        case rel => exact ⟨k + 1, by omega, by go_num, HB9.out⟩
        case measure => simp [intOf]; omega
    · have hke : k = l.length := by omega
      subst hke
      go_wp2
      go_ret
      exact ⟨rfl, HBL.out⟩

set_option maxHeartbeats 4000000 in
theorem exactRunOk (w : World) (A : Option Addr) (n c : Nat) (l : List En) (hr : Ents w w.heap.size A n l) (hn : n ≤ maxLen) (hf : ∀ e ∈ l, e.key.size ≤ maxLen) :
    Calls Try.prog 16 #[.slice A n c] w fun e w' => e = .returned (.bool true) ∧ Below w.heap.size w w' := by
  have hlen := hr.len
  subst hlen
  have HR := Lib.hid hr
  have HF := Lib.hid hf
  clear hr hf
  obtain ⟨b, hb⟩ : ∃ b, b = runB l := ⟨_, rfl⟩
  have HS := Lib.hid (show ∀ (W : World) (A : Option Addr) (c : Nat), Ents W W.heap.size A l.length l → Calls Try.prog 25 #[.slice A l.length c] W fun e w' => e = .returned (.bool b) ∧ Below W.heap.size W w' from fun W A c h => by rw [hb]; exact runS W W.heap.size l.length c A l h (Nat.le_refl _) hn HF.out)
  have HI := Lib.hid (show ∀ (W : World) (A : Option Addr) (c : Nat), Ents W W.heap.size A l.length l → Calls Try.prog 24 #[.slice A l.length c] W fun e w' => e = .returned (.bool b) ∧ Below W.heap.size W w' from fun W A c h => by rw [hb]; exact runI W W.heap.size l.length c A l h (Nat.le_refl _) hn HF.out)
  clear hb
  go_enter Try.func16, Try.ntmps16
  go_wp2_with fail
  go_at_call 45
  refine Calls.mono (szEnS w w.heap.size l.length c A l HR.out (Nat.le_refl _) hn HF.out) ?_
  rintro e w1 ⟨x, rfl, hx0, hx1, hx2, hb1⟩
  have HB1 := Lib.hid hb1
  clear hb1
  by_cases hneg : x < 0
  · clear hx2
    go_wp2
    go_ret
    exact ⟨rfl, HB1.out⟩
  · have hlen := (hx2 (by omega)).1
    clear hx2
    go_wp2_with fail
    go_at_call 46
    refine Calls.mono (copyE w1 w.heap.size l.length c A l (HR.out.below HB1.out (Nat.le_refl _)) HB1.out.size hlen) ?_
    rintro e w2 ⟨g2, c2, rfl, o2, b2⟩
    have HB2 := Lib.hid (HB1.out.trans (b2.mono HB1.out.size))
    have HE2 := Lib.hid (OwnE.ents o2 rfl)
    clear o2 b2 HB1
    go_wp2_with fail
    go_at_call 25
    refine Calls.mono (HS.out w2 _ c2 HE2.out) ?_
    rintro e w3 ⟨rfl, b3⟩
    have HB3 := Lib.hid (HB2.out.trans (b3.mono HB2.out.size))
    clear b3 HB2 HE2
    go_wp2_with fail
    go_at_call 46
    refine Calls.mono (copyE w3 w.heap.size l.length c A l (HR.out.below HB3.out (Nat.le_refl _)) HB3.out.size hlen) ?_
    rintro e w4 ⟨g4, c4, rfl, o4, b4⟩
    have HB4 := Lib.hid (HB3.out.trans (b4.mono HB3.out.size))
    have HE4 := Lib.hid (OwnE.ents o4 rfl)
    clear o4 b4 HB3
    go_wp2_with fail
    go_at_call 24
    refine Calls.mono (HI.out w4 _ c4 HE4.out) ?_
    rintro e w5 ⟨rfl, b5⟩
    have HB5 := Lib.hid (HB4.out.trans (b5.mono HB4.out.size))
    have HE5 := Lib.hid ((HE4.out.below b5 (Nat.le_refl _)).more b5.size)
    clear b5 HB4 HE4
    have HC := Lib.hid (copyE w5 w.heap.size l.length c A l (HR.out.below HB5.out (Nat.le_refl _)) HB5.out.size hlen)
    cases b
    all_goals
      go_wp2_with fail
      go_at_call 46
      refine HC.out.mono ?_
      rintro e w6 ⟨g6, c6, rfl, o6, b6⟩
      have HB6 := Lib.hid (HB5.out.trans (b6.mono HB5.out.size))
      have HE6 := Lib.hid (OwnE.ents o6 rfl)
      have HE5b := Lib.hid ((HE5.out.below b6 (Nat.le_refl _)).more b6.size)
      clear o6 b6
      go_wp2_with fail
      go_at_call 47
      refine Calls.mono (eqEnS w6 w6.heap.size l.length c4 c6 _ _ l HE5b.out HE6.out (Nat.le_refl _) hn) ?_
      rintro e w7 ⟨rfl, b7⟩
      have HB7 := Lib.hid (HB6.out.trans (b7.mono HB6.out.size))
      clear b7
      go_wp2
      go_ret
      exact ⟨rfl, HB7.out⟩

end Go.Proofs.Ytfpgjkanmanajaa.W
