/-
  The four laws of bit strings, at every slice of bytes that can be read: each returns true and writes nothing that was there.
-/
import Derived.Test.YtjankanjaljehaaW8
namespace Go.Proofs.Ytjankanjaljehaa.W
open Go.RowKit M

set_option maxHeartbeats 1000000 in
set_option maxRecDepth 100000 in
theorem lawOnes (w : World) (A : Option Addr) (n c : Nat) (hb : Bytes w w.heap.size A n) (hnc : n ≤ c) (hc : c ≤ maxLen) :
    Calls Try.prog 3 #[.slice A n c] w fun e w' => e = .returned (.bool true) ∧ Below w.heap.size w w' := by
  by_cases hbig : (1048576 : Int) < (n : Int)
  · clear hb
    go_enter Try.func3, Try.ntmps3
    go_wp2
    go_ret
    exact ⟨rfl, Below.refl _ _⟩
  · go_enter Try.func3, Try.ntmps3
    go_wp2_with fail
    go_at_call 11
    refine (drawOnes w A n c hb hnc hc).mono ?_
    rintro e w1 ⟨s, x, hs, hx1, hx2, rfl, hb1⟩
    have hsm : s.size ≤ maxLen := by unfold maxLen; omega
    have HB1 := Lib.hid hb1
    clear hb hb1 hbig hnc hc
    by_cases hneg : onesR s x < 0
    · go_wp2_with (first | (go_at_call 12; refine (bitsOnesI _ _ _ hsm).mono ?_; rintro e w2 ⟨rfl, hb2⟩) | (go_at_call 13; refine (bitsOnesS _ _ _ hsm).mono ?_; rintro e w' ⟨rfl, rfl⟩))
      go_ret
      exact ⟨rfl, HB1.out.trans (hb2.mono HB1.out.size)⟩
    · obtain ⟨k, rfl, hk, hok, h00, hend, hstep⟩ := ones_steps s x hneg
      have hrb := onesR_le s k
      have HE := Lib.hid hend
      have HT := Lib.hid hstep
      clear hend hstep hok
      have hneg2 : decide (onesR s (k : Int) < 0) = false := by simpa using hneg
      go_wp2_with fail
      go_at_call 12
      refine (bitsOnesI _ _ _ hsm).mono ?_
      rintro e w2 ⟨rfl, hb'⟩
      have HB2 := Lib.hid (HB1.out.trans (hb'.mono HB1.out.size))
      clear hb'
      go_wp2_with fail
      go_at_call 13
      refine (bitsOnesS _ _ _ hsm).mono ?_
      rintro e w' ⟨rfl, rfl⟩
      go_wp2_with fail
      go_at_call 12
      refine (bitsOnesI _ _ _ hsm).mono ?_
      rintro e w3 ⟨rfl, hb'⟩
      have HB3 := Lib.hid (HB2.out.trans (hb'.mono HB2.out.size))
      clear hb'
      by_cases hkl : k = s.size
      · have h1 := HE.out hkl
        subst hkl
        go_wp2
        go_ret
        exact ⟨rfl, HB3.out⟩
      · have hlt : k < s.size := by omega
        have hkl2 : ((k : Int) == (s.size : Int)) = false := by simp; omega
        have h1 := HT.out hlt
        by_cases hc : (s[k].toNat : Int) = 49
        · rw [if_pos hc] at h1
          have hc1 : ((s[k].toNat : Int) == 49) = true := by simp [hc]
          clear hc
          go_wp2
          go_ret
          exact ⟨rfl, HB3.out⟩
        · rw [if_neg hc, Int.add_zero] at h1
          have hc1 : ((s[k].toNat : Int) == 49) = false := by simp [hc]
          clear hc
          go_wp2_with fail
          go_at_call 12
          refine (bitsOnesI _ _ _ hsm).mono ?_
          rintro e w4 ⟨rfl, hb'⟩
          have HB4 := Lib.hid (HB3.out.trans (hb'.mono HB3.out.size))
          clear hb'
          go_wp2
          go_ret
          exact ⟨rfl, HB4.out⟩

/-- the one with a number is a one, and so many are ahead -/
theorem one_found (s : ByteArray) (x : Int) (k : Nat) (h : oneO s x = some k) : ∃ hk : k < s.size, (s[k].toNat : Int) = 49 ∧ onesR s k = x := by
  unfold oneO at h
  split at h
  · rename_i hp
    obtain ⟨h1, h2, h3⟩ := oneIdx_some _ _ _ h
    rw [len_l] at h1
    refine ⟨h1, ?_, ?_⟩
    · rw [at_k s k h1] at h2
      injection h2 with h2
      rw [h2]; rfl
    · unfold onesR
      rw [if_pos ⟨hp.1, by omega, by omega⟩, Int.toNat_natCast]
      unfold cntI
      rw [h3]; omega
  · cases h
/-- the next one is not ahead of the place -/
theorem next_found (s : ByteArray) (x : Int) (k : Nat) (h : nextO s x = some k) : x ≤ (k : Int) := by
  unfold nextO at h
  split at h
  · rename_i hp
    rw [Option.map_eq_some_iff] at h
    obtain ⟨j, _, rfl⟩ := h
    omega
  · cases h
theorem next_bad (s : ByteArray) (x : Int) (h : ¬ (okB s.data.toList = true ∧ 0 ≤ x ∧ x ≤ s.size)) : nextO s x = none := by
  unfold nextO; rw [if_neg h]
/-- all ones are counted: there is none with that number, and there is one with the number below it if there are any -/
theorem back_facts (s : ByteArray) (h : okB s.data.toList = true) : ∃ a : Nat, a ≤ 400 ∧ onesR s (s.size : Int) = a ∧ oneO s (a : Int) = none ∧
    (a = 0 ∧ oneO s ((a : Int) - 1) = none ∨ 0 < a ∧ ∃ k : Nat, oneO s ((a : Int) - 1) = some k ∧ (a : Int) - 1 ≤ (k : Int)) := by
  have hl := ok_len h
  have ho := ones_le s.data.toList
  refine ⟨ones s.data.toList, by omega, ?_, ?_, ?_⟩
  · unfold onesR
    rw [if_pos ⟨h, by omega, by omega⟩, Int.toNat_natCast, cnt_all]
  · unfold oneO
    rw [if_pos ⟨h, by omega⟩, Int.toNat_natCast]
    exact (oneIdx_none _ _).mpr (Nat.le_refl _)
  · by_cases h0 : ones s.data.toList = 0
    · left
      refine ⟨h0, ?_⟩
      unfold oneO
      rw [if_neg (fun e => by omega)]
    · right
      refine ⟨by omega, ?_⟩
      unfold oneO
      rw [if_pos ⟨h, by omega⟩]
      cases hk : oneIdx s.data.toList ((ones s.data.toList : Int) - 1).toNat with
      | none => rw [oneIdx_none] at hk; omega
      | some k =>
        refine ⟨k, rfl, ?_⟩
        have h3 := (oneIdx_some _ _ _ hk).2.2
        have h4 := ones_take_le s.data.toList k
        omega

set_option maxHeartbeats 1000000 in
set_option maxRecDepth 100000 in
theorem lawOne (w : World) (A : Option Addr) (n c : Nat) (hb : Bytes w w.heap.size A n) (hnc : n ≤ c) (hc : c ≤ maxLen) :
    Calls Try.prog 4 #[.slice A n c] w fun e w' => e = .returned (.bool true) ∧ Below w.heap.size w w' := by
  by_cases hbig : (1048576 : Int) < (n : Int)
  · clear hb
    go_enter Try.func4, Try.ntmps4
    go_wp2
    go_ret
    exact ⟨rfl, Below.refl _ _⟩
  · go_enter Try.func4, Try.ntmps4
    go_wp2_with fail
    go_at_call 14
    refine (drawOne w A n c hb hnc hc).mono ?_
    rintro e w1 ⟨s, x, hs, hx1, hx2, rfl, hb1⟩
    have hsm : s.size ≤ maxLen := by unfold maxLen; omega
    have HB1 := Lib.hid hb1
    clear hb hb1 hbig hnc hc
    have hS := fun W => bitsOneS s x W hsm (by omega)
    have hI := fun W => bitsOneI s x W hsm (by omega)
    cases ho : oneO s x with
    | none =>
      rw [ho, posV_none] at hS hI
      have HS := Lib.hid hS
      have HI := Lib.hid hI
      clear hS hI ho
      go_wp2_with fail
      go_at_call 15
      refine (HS.out _).mono ?_
      rintro e w' ⟨rfl, rfl⟩
      go_wp2_with fail
      go_at_call 16
      refine (HI.out _).mono ?_
      rintro e w2 ⟨rfl, hb'⟩
      have HB2 := Lib.hid (HB1.out.trans (hb'.mono HB1.out.size))
      clear hb'
      go_wp2
      go_ret
      exact ⟨rfl, HB2.out⟩
    | some k =>
      rw [ho, posV_some] at hS hI
      obtain ⟨hk, hc, hr⟩ := one_found s x k ho
      have HS := Lib.hid hS
      have HI := Lib.hid hI
      have hc1 : ((s[k].toNat : Int) == 49) = true := by simp [hc]
      have HR := Lib.hid (fun W => bitsOnesI s k W hsm)
      rw [hr] at HR
      clear hS hI ho hc hr
      go_wp2_with fail
      go_at_call 15
      refine (HS.out _).mono ?_
      rintro e w' ⟨rfl, rfl⟩
      go_wp2_with fail
      go_at_call 16
      refine (HI.out _).mono ?_
      rintro e w2 ⟨rfl, hb'⟩
      have HB2 := Lib.hid (HB1.out.trans (hb'.mono HB1.out.size))
      clear hb'
      go_wp2_with fail
      go_at_call 12
      refine (HR.out _).mono ?_
      rintro e w3 ⟨rfl, hb'⟩
      have HB3 := Lib.hid (HB2.out.trans (hb'.mono HB2.out.size))
      clear hb'
      go_wp2
      go_ret
      exact ⟨rfl, HB3.out⟩

set_option maxHeartbeats 1000000 in
set_option maxRecDepth 100000 in
theorem lawNext (w : World) (A : Option Addr) (n c : Nat) (hb : Bytes w w.heap.size A n) (hnc : n ≤ c) (hc : c ≤ maxLen) :
    Calls Try.prog 5 #[.slice A n c] w fun e w' => e = .returned (.bool true) ∧ Below w.heap.size w w' := by
  by_cases hbig : (1048576 : Int) < (n : Int)
  · clear hb
    go_enter Try.func5, Try.ntmps5
    go_wp2
    go_ret
    exact ⟨rfl, Below.refl _ _⟩
  · go_enter Try.func5, Try.ntmps5
    go_wp2_with fail
    go_at_call 17
    refine (drawNext w A n c hb hnc hc).mono ?_
    rintro e w1 ⟨s, x, hs, hx1, hx2, rfl, hb1⟩
    have hsm : s.size ≤ maxLen := by unfold maxLen; omega
    have HB1 := Lib.hid hb1
    clear hb hb1 hbig hnc hc
    have hS := fun W => bitsNextS s x W hsm
    have hI := fun W => bitsNextI s x W hsm
    by_cases hp : okB s.data.toList = true ∧ 0 ≤ x ∧ x ≤ s.size
    · obtain ⟨hok, hp1, hp2⟩ := hp
      have hp3 : ¬ (s.size : Int) < x := by omega
      have hd1 : decide (x < 0) = false := by simpa using hp1
      have hrl := onesR_le s x
      have hO := fun W => bitsOneI s (onesR s x) W hsm (by omega)
      rw [next_is] at hO
      clear hrl
      cases ho : nextO s x with
      | none =>
        rw [ho, posV_none] at hS hI hO
        have HS := Lib.hid hS
        have HI := Lib.hid hI
        have HO := Lib.hid hO
        clear hS hI hO ho
        go_wp2_with fail
        go_at_call 18
        refine (HS.out _).mono ?_
        rintro e w' ⟨rfl, rfl⟩
        go_wp2_with fail
        go_at_call 19
        refine (HI.out _).mono ?_
        rintro e w2 ⟨rfl, hb'⟩
        have HB2 := Lib.hid (HB1.out.trans (hb'.mono HB1.out.size))
        clear hb'
        go_wp2_with fail
        go_at_call 20
        refine (okS _ _ hsm).mono ?_
        rintro e w' ⟨rfl, rfl⟩
        go_wp2_with fail
        go_at_call 12
        refine (bitsOnesI _ _ _ hsm).mono ?_
        rintro e w3 ⟨rfl, hb'⟩
        have HB3 := Lib.hid (HB2.out.trans (hb'.mono HB2.out.size))
        clear hb'
        go_wp2_with fail
        go_at_call 16
        refine (HO.out _).mono ?_
        rintro e w4 ⟨rfl, hb'⟩
        have HB4 := Lib.hid (HB3.out.trans (hb'.mono HB3.out.size))
        clear hb'
        go_wp2
        go_ret
        exact ⟨rfl, HB4.out⟩
      | some k =>
        have hkx := next_found s x k ho
        rw [ho, posV_some] at hS hI hO
        have HS := Lib.hid hS
        have HI := Lib.hid hI
        have HO := Lib.hid hO
        clear hS hI hO ho
        go_wp2_with fail
        go_at_call 18
        refine (HS.out _).mono ?_
        rintro e w' ⟨rfl, rfl⟩
        go_wp2_with fail
        go_at_call 19
        refine (HI.out _).mono ?_
        rintro e w2 ⟨rfl, hb'⟩
        have HB2 := Lib.hid (HB1.out.trans (hb'.mono HB1.out.size))
        clear hb'
        go_wp2_with fail
        go_at_call 20
        refine (okS _ _ hsm).mono ?_
        rintro e w' ⟨rfl, rfl⟩
        go_wp2_with fail
        go_at_call 12
        refine (bitsOnesI _ _ _ hsm).mono ?_
        rintro e w3 ⟨rfl, hb'⟩
        have HB3 := Lib.hid (HB2.out.trans (hb'.mono HB2.out.size))
        clear hb'
        go_wp2_with fail
        go_at_call 16
        refine (HO.out _).mono ?_
        rintro e w4 ⟨rfl, hb'⟩
        have HB4 := Lib.hid (HB3.out.trans (hb'.mono HB3.out.size))
        clear hb'
        go_wp2
        go_ret
        exact ⟨rfl, HB4.out⟩
    · rw [next_bad s x hp, posV_none] at hS hI
      have HS := Lib.hid hS
      have HI := Lib.hid hI
      clear hS hI
      by_cases hok : okB s.data.toList = true
      · by_cases hx0 : x < 0
        · clear hp
          go_wp2_with fail
          go_at_call 18
          refine (HS.out _).mono ?_
          rintro e w' ⟨rfl, rfl⟩
          go_wp2_with fail
          go_at_call 19
          refine (HI.out _).mono ?_
          rintro e w2 ⟨rfl, hb'⟩
          have HB2 := Lib.hid (HB1.out.trans (hb'.mono HB1.out.size))
          clear hb'
          go_wp2_with fail
          go_at_call 20
          refine (okS _ _ hsm).mono ?_
          rintro e w' ⟨rfl, rfl⟩
          go_wp2
          go_ret
          exact ⟨rfl, HB2.out⟩
        · have hx3 : (s.size : Int) < x := by
            rcases (by omega : (s.size : Int) < x ∨ x ≤ (s.size : Int)) with h | h
            · exact h
            · exact absurd ⟨hok, by omega, h⟩ hp
          have hd1 : decide (x < 0) = false := by simpa using hx0
          clear hp
          go_wp2_with fail
          go_at_call 18
          refine (HS.out _).mono ?_
          rintro e w' ⟨rfl, rfl⟩
          go_wp2_with fail
          go_at_call 19
          refine (HI.out _).mono ?_
          rintro e w2 ⟨rfl, hb'⟩
          have HB2 := Lib.hid (HB1.out.trans (hb'.mono HB1.out.size))
          clear hb'
          go_wp2_with fail
          go_at_call 20
          refine (okS _ _ hsm).mono ?_
          rintro e w' ⟨rfl, rfl⟩
          go_wp2
          go_ret
          exact ⟨rfl, HB2.out⟩
      · have hok' : okB s.data.toList = false := by simpa using hok
        clear hok hp
        go_wp2_with fail
        go_at_call 18
        refine (HS.out _).mono ?_
        rintro e w' ⟨rfl, rfl⟩
        go_wp2_with fail
        go_at_call 19
        refine (HI.out _).mono ?_
        rintro e w2 ⟨rfl, hb'⟩
        have HB2 := Lib.hid (HB1.out.trans (hb'.mono HB1.out.size))
        clear hb'
        go_wp2_with fail
        go_at_call 20
        refine (okS _ _ hsm).mono ?_
        rintro e w' ⟨rfl, rfl⟩
        go_wp2
        go_ret
        exact ⟨rfl, HB2.out⟩

set_option maxHeartbeats 1000000 in
set_option maxRecDepth 100000 in
theorem lawBack (w : World) (A : Option Addr) (n c : Nat) (hb : Bytes w w.heap.size A n) (hnc : n ≤ c) (hc : c ≤ maxLen) :
    Calls Try.prog 6 #[.slice A n c] w fun e w' => e = .returned (.bool true) ∧ Below w.heap.size w w' := by
  by_cases hbig : (1048576 : Int) < (n : Int)
  · clear hb
    go_enter Try.func6, Try.ntmps6
    go_wp2
    go_ret
    exact ⟨rfl, Below.refl _ _⟩
  · go_enter Try.func6, Try.ntmps6
    go_wp2_with fail
    go_at_call 11
    refine (drawOnes w A n c hb hnc hc).mono ?_
    rintro e w1 ⟨s, x, hs, hx1, hx2, rfl, hb1⟩
    have hsm : s.size ≤ maxLen := by unfold maxLen; omega
    have HB1 := Lib.hid hb1
    clear hb hb1 hbig hnc hc
    by_cases hneg : onesR s x < 0
    · go_wp2_with (first | (go_at_call 12; refine (bitsOnesI _ _ _ hsm).mono ?_; rintro e w2 ⟨rfl, hb2⟩) | (go_at_call 13; refine (bitsOnesS _ _ _ hsm).mono ?_; rintro e w' ⟨rfl, rfl⟩))
      go_ret
      exact ⟨rfl, HB1.out.trans (hb2.mono HB1.out.size)⟩
    · have hok : okB s.data.toList = true := by
        obtain ⟨_, _, _, hok, _⟩ := ones_steps s x hneg
        exact hok
      have hneg2 : decide (onesR s x < 0) = false := by simpa using hneg
      obtain ⟨a, ha, hall, hover, hlast⟩ := back_facts s hok
      have hA := fun W => bitsOnesI s (s.size : Int) W hsm
      rw [hall] at hA
      have hO := fun W => bitsOneI s (a : Int) W hsm (by omega)
      rw [hover, posV_none] at hO
      have hL := fun W => bitsOneI s ((a : Int) - 1) W hsm (by omega)
      have HA := Lib.hid hA
      have HO := Lib.hid hO
      clear hA hO hok hall hover
      rcases hlast with ⟨rfl, hl⟩ | ⟨ha0, k, hl, hk⟩
      · rw [hl, posV_none] at hL
        have HL := Lib.hid hL
        clear hL hl
        go_wp2_with fail
        go_at_call 12
        refine (bitsOnesI _ _ _ hsm).mono ?_
        rintro e w2 ⟨rfl, hb'⟩
        have HB2 := Lib.hid (HB1.out.trans (hb'.mono HB1.out.size))
        clear hb'
        go_wp2_with fail
        go_at_call 13
        refine (bitsOnesS _ _ _ hsm).mono ?_
        rintro e w' ⟨rfl, rfl⟩
        go_wp2_with fail
        go_at_call 12
        refine (HA.out _).mono ?_
        rintro e w3 ⟨rfl, hb'⟩
        have HB3 := Lib.hid (HB2.out.trans (hb'.mono HB2.out.size))
        clear hb'
        go_wp2_with fail
        go_at_call 16
        refine (HO.out _).mono ?_
        rintro e w4 ⟨rfl, hb'⟩
        have HB4 := Lib.hid (HB3.out.trans (hb'.mono HB3.out.size))
        clear hb'
        go_wp2_with fail
        go_at_call 16
        refine (HL.out _).mono ?_
        rintro e w5 ⟨rfl, hb'⟩
        have HB5 := Lib.hid (HB4.out.trans (hb'.mono HB4.out.size))
        clear hb'
        go_wp2
        go_ret
        exact ⟨rfl, HB5.out⟩
      · rw [hl, posV_some] at hL
        have HL := Lib.hid hL
        clear hL hl
        have hk' : decide ((a : Int) - 1 ≤ (k : Int)) = true := by simpa using hk
        go_wp2_with fail
        go_at_call 12
        refine (bitsOnesI _ _ _ hsm).mono ?_
        rintro e w2 ⟨rfl, hb'⟩
        have HB2 := Lib.hid (HB1.out.trans (hb'.mono HB1.out.size))
        clear hb'
        go_wp2_with fail
        go_at_call 13
        refine (bitsOnesS _ _ _ hsm).mono ?_
        rintro e w' ⟨rfl, rfl⟩
        go_wp2_with fail
        go_at_call 12
        refine (HA.out _).mono ?_
        rintro e w3 ⟨rfl, hb'⟩
        have HB3 := Lib.hid (HB2.out.trans (hb'.mono HB2.out.size))
        clear hb'
        go_wp2_with fail
        go_at_call 16
        refine (HO.out _).mono ?_
        rintro e w4 ⟨rfl, hb'⟩
        have HB4 := Lib.hid (HB3.out.trans (hb'.mono HB3.out.size))
        clear hb'
        go_wp2_with fail
        go_at_call 16
        refine (HL.out _).mono ?_
        rintro e w5 ⟨rfl, hb'⟩
        have HB5 := Lib.hid (HB4.out.trans (hb'.mono HB4.out.size))
        clear hb'
        go_wp2
        go_ret
        exact ⟨rfl, HB5.out⟩

end Go.Proofs.Ytjankanjaljehaa.W
