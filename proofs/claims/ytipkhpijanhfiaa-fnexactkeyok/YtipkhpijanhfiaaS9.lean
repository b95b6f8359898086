/-
  The contract of the exact laws' look for marks: a slice that holds the marks holds them.
-/
import Derived.Test.YtipkhpijanhfiaaS8
import Derived.Deep.RegionWith
namespace Go.Proofs.Ytipkhpijanhfiaa.W
open Go.RowKit K

theorem Below.of_drew {B : Nat} {w w' : World} (h : Below B w.drew w') : Below B w w' := ⟨h.os, h.tape, h.output, h.size, h.block⟩

set_option maxHeartbeats 1000000 in
theorem heldS (w : World) (B n c K0 : Nat) (A : Option Addr) (hr : Strs w B A n (marks K0 n)) (hB : B ≤ w.heap.size) (h0 : 0 < K0) (h1 : K0 + n ≤ 1073741824) :
    Calls Try.prog 33 #[.slice A n c, .int .i64 (K0 : Nat)] w fun e w' => e = .returned (.int .i64 ((K0 + n : Nat) : Int)) ∧ Below w.heap.size w w' := by
  have HR := Lib.hid hr
  clear hr
  go_enter Try.func33, Try.ntmps33
  go_wp2
  go_loopw [1, 5] (fun kv i wr => ∃ k : Nat, k ≤ n ∧ i = .int .i64 (k : Nat) ∧ kv = .int .i64 ((K0 + k : Nat) : Int) ∧ Below w.heap.size w wr) (fun _ i _ => n - (intOf i).toNat)
  case atStart => exact ⟨0, Nat.zero_le _, rfl, rfl, Below.refl _ _⟩
  case round =>
    obtain ⟨k, hk, rfl, rfl, hb⟩ := hrel
    have HB := Lib.hid hb
    have hsz := hb.size
    clear hb
    by_cases hlt : k < n
    · obtain ⟨b, off, hA, hbB, hc⟩ := (HR.out.below HB.out hB).cell k (by rw [marks_len]; exact hlt)
      rw [marks_get] at hc
      subst hA
      have HMT := Lib.hid (fun W => markT (K0 + k) W (by omega) (by omega))
      rw [show ((K0 + k : Nat) : Int) = (K0 : Int) + (k : Int) by omega] at HMT
      have hbw : b < wr.heap.size := by omega
      have HC := Lib.hid hc
      go_wp2
      go_region_with ((go_at_call 45; refine (HMT.out _).mono ?_; rintro e w2 ⟨rfl, hb2⟩; have hc2 : w2.cell? ⟨b, off + k, none⟩ = some (.string (markB (K0 + k))) := (hb2.cell (p := ⟨b, off + k, none⟩) hbw).trans HC.out))
      all_goals
        have HB2 := Lib.hid (HB.out.trans (Below.mono (Below.of_drew hb2) hsz))
        clear hb2
        go_wp2
        go_roundw
        case rel => exact ⟨k + 1, by omega, by go_num, by go_num, HB2.out⟩
        case measure => simp [intOf]; omega
    · have hke : k = n := by omega
      subst hke
      go_wp2
      go_ret
      exact ⟨ret_int (by omega), HB.out⟩

end Go.Proofs.Ytipkhpijanhfiaa.W
