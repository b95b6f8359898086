/-
  Contracts of the three drawing functions of the bit laws: a short string and a small number are drawn, and nothing that was there is written.
-/
import Derived.Test.YtjankanjaljehaaW5
import Derived.Test.YtjankanjaljehaaW7
namespace Go.Proofs.Ytjankanjaljehaa.W
open Go.RowKit M

/-- a short string and a small number are drawn -/
def Pair (w : World) (e : Ending) (w' : World) : Prop :=
  ∃ (s : ByteArray) (x : Int), s.size ≤ 1000 ∧ -2 ≤ x ∧ x ≤ 2000 ∧ e = .returned (.tuple #[.string s, .int .i64 x]) ∧ Below w.heap.size w w'

set_option maxHeartbeats 400000 in
theorem drawOnes (w : World) (A : Option Addr) (n c : Nat) (hb : Bytes w w.heap.size A n) (hnc : n ≤ c) (hc : c ≤ maxLen) :
    Calls Try.prog 11 #[.slice A n c] w (Pair w) := by
  go_enter Try.func11, Try.ntmps11
  go_wp2_with fail
  go_at_call 22
  refine (openR w A n c hb hnc hc).mono ?_
  rintro e w1 ⟨A1, n1, c1, rfl, hr1, hb1⟩
  have HB1 := Lib.hid hb1
  have HR1 := Lib.hid hr1
  clear hb hr1 hb1
  go_wp2_with fail
  go_at_call 23
  refine (bitsR w1 w.heap.size 0 n1 c1 A1 HR1.out (by omega)).mono ?_
  rintro e w2 ⟨s, p2, hs, hp2, rfl, hr2, hg2⟩
  have HB2 := Lib.hid (HB1.out.grown hg2 HB1.out.size (fun k e => by injection e; omega))
  have HR2 := Lib.hid hr2
  clear hr2 hg2
  go_wp2_with fail
  go_at_call 24
  refine (pick w2 w.heap.size p2 n1 c1 A1 ((s.size : Int) + 2) HR2.out (by omega) (by omega)).mono ?_
  rintro e w3 ⟨x, rfl, hx0, hx1, hr3, hg3⟩
  have HB3 := Lib.hid (HB2.out.grown hg3 HB2.out.size (fun k e => by injection e; omega))
  have HR3 := Lib.hid hr3
  clear hr3 hg3
  have hx2 : x ≤ 1500 := by omega
  clear hx1
  go_wp2_with fail
  go_at_call 24
  refine (pick w3 w.heap.size (p2 + 1) n1 c1 A1 12 HR3.out (by omega) (by omega)).mono ?_
  rintro e w4 ⟨y, rfl, hy0, hy1, hr4, hg4⟩
  have HB4 := Lib.hid (HB3.out.grown hg4 HB3.out.size (fun k e => by injection e; omega))
  clear hr4 hg4
  have hy2 : y ≤ 11 := by omega
  clear hy1
  go_wp2
  go_ret2
  exact ⟨s, _, hs, by omega, by omega, rfl, HB4.out⟩

set_option maxHeartbeats 400000 in
theorem drawNext (w : World) (A : Option Addr) (n c : Nat) (hb : Bytes w w.heap.size A n) (hnc : n ≤ c) (hc : c ≤ maxLen) :
    Calls Try.prog 17 #[.slice A n c] w (Pair w) := by
  go_enter Try.func17, Try.ntmps17
  go_wp2_with fail
  go_at_call 22
  refine (openR w A n c hb hnc hc).mono ?_
  rintro e w1 ⟨A1, n1, c1, rfl, hr1, hb1⟩
  have HB1 := Lib.hid hb1
  have HR1 := Lib.hid hr1
  clear hb hr1 hb1
  go_wp2_with fail
  go_at_call 23
  refine (bitsR w1 w.heap.size 0 n1 c1 A1 HR1.out (by omega)).mono ?_
  rintro e w2 ⟨s, p2, hs, hp2, rfl, hr2, hg2⟩
  have HB2 := Lib.hid (HB1.out.grown hg2 HB1.out.size (fun k e => by injection e; omega))
  have HR2 := Lib.hid hr2
  clear hr2 hg2
  go_wp2_with fail
  go_at_call 24
  refine (pick w2 w.heap.size p2 n1 c1 A1 ((s.size : Int) + 2) HR2.out (by omega) (by omega)).mono ?_
  rintro e w3 ⟨x, rfl, hx0, hx1, hr3, hg3⟩
  have HB3 := Lib.hid (HB2.out.grown hg3 HB2.out.size (fun k e => by injection e; omega))
  have HR3 := Lib.hid hr3
  clear hr3 hg3
  have hx2 : x ≤ 1500 := by omega
  clear hx1
  go_wp2_with fail
  go_at_call 24
  refine (pick w3 w.heap.size (p2 + 1) n1 c1 A1 12 HR3.out (by omega) (by omega)).mono ?_
  rintro e w4 ⟨y, rfl, hy0, hy1, hr4, hg4⟩
  have HB4 := Lib.hid (HB3.out.grown hg4 HB3.out.size (fun k e => by injection e; omega))
  clear hr4 hg4
  have hy2 : y ≤ 11 := by omega
  clear hy1
  go_wp2
  go_ret2
  exact ⟨s, _, hs, by omega, by omega, rfl, HB4.out⟩

set_option maxHeartbeats 400000 in
theorem drawOne (w : World) (A : Option Addr) (n c : Nat) (hb : Bytes w w.heap.size A n) (hnc : n ≤ c) (hc : c ≤ maxLen) :
    Calls Try.prog 14 #[.slice A n c] w (Pair w) := by
  go_enter Try.func14, Try.ntmps14
  go_wp2_with fail
  go_at_call 22
  refine (openR w A n c hb hnc hc).mono ?_
  rintro e w1 ⟨A1, n1, c1, rfl, hr1, hb1⟩
  have HB1 := Lib.hid hb1
  have HR1 := Lib.hid hr1
  clear hb hr1 hb1
  go_wp2_with fail
  go_at_call 23
  refine (bitsR w1 w.heap.size 0 n1 c1 A1 HR1.out (by omega)).mono ?_
  rintro e w2 ⟨s, p2, hs, hp2, rfl, hr2, hg2⟩
  have HB2 := Lib.hid (HB1.out.grown hg2 HB1.out.size (fun k e => by injection e; omega))
  have HR2 := Lib.hid hr2
  clear hr2 hg2
  go_wp2_with fail
  go_at_call 28
  refine (onesS s _ w2 (by unfold maxLen; omega) (by omega) (by omega)).mono ?_
  rintro e w' ⟨rfl, rfl⟩
  have hcb := cntI_bd s s.size
  rw [Int.toNat_natCast]
  go_wp2_with fail
  go_at_call 24
  refine (pick w2 w.heap.size p2 n1 c1 A1 (cntI s s.size + 1) HR2.out (by omega) (by omega)).mono ?_
  rintro e w3 ⟨x, rfl, hx0, hx1, hr3, hg3⟩
  have HB3 := Lib.hid (HB2.out.grown hg3 HB2.out.size (fun k e => by injection e; omega))
  have HR3 := Lib.hid hr3
  clear hr3 hg3
  have hx2 : x ≤ 1500 := by omega
  clear hx1
  go_wp2_with fail
  go_at_call 24
  refine (pick w3 w.heap.size (p2 + 1) n1 c1 A1 12 HR3.out (by omega) (by omega)).mono ?_
  rintro e w4 ⟨y, rfl, hy0, hy1, hr4, hg4⟩
  have HB4 := Lib.hid (HB3.out.grown hg4 HB3.out.size (fun k e => by injection e; omega))
  clear hr4 hg4
  have hy2 : y ≤ 11 := by omega
  clear hy1
  go_wp2
  go_ret2
  exact ⟨s, _, hs, by omega, by omega, rfl, HB4.out⟩

/-- BitsOnes goes on by one behind a one, stays behind a nought, ends behind the end, begins with none -/
theorem ones_steps (s : ByteArray) (x : Int) (h : ¬ onesR s x < 0) :
    ∃ k : Nat, x = k ∧ k ≤ s.size ∧ okB s.data.toList = true ∧ onesR s 0 = 0 ∧ (k = s.size → onesR s ((k : Int) + 1) = -1) ∧
      (∀ hk : k < s.size, onesR s ((k : Int) + 1) = onesR s k + if (s[k].toNat : Int) = 49 then 1 else 0) := by
  unfold onesR at h ⊢
  split at h
  · rename_i hp
    obtain ⟨h1, h2, h3⟩ := hp
    obtain ⟨k, rfl⟩ := Int.eq_ofNat_of_zero_le h2
    refine ⟨k, rfl, by omega, h1, ?_, ?_, ?_⟩
    · rw [if_pos ⟨h1, by omega, by omega⟩]; simp [cntI, ones]
    · rintro rfl
      rw [if_neg (fun e => by omega)]
    · intro hk
      rw [if_pos ⟨h1, by omega, by omega⟩, if_pos ⟨h1, by omega, by omega⟩]
      rw [show ((k : Int) + 1).toNat = k + 1 by omega, Int.toNat_natCast, cntI_succ s k hk]
  · omega

end Go.Proofs.Ytjankanjaljehaa.W
