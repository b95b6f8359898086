/-
  The contract of the exact laws' comparison of slices of strings.
-/
import Derived.Test.YtipkhpijanhfiaaS2
namespace Go.Proofs.Ytipkhpijanhfiaa.W
open Go.RowKit K

set_option maxHeartbeats 1000000 in
theorem eqL (w : World) (B n c n2 c2 : Nat) (A A2 : Option Addr) (l l2 : List ByteArray) (hr : Strs w B A n l) (hr2 : Strs w B A2 n2 l2) (hn : n ≤ maxLen) (hn2 : n2 ≤ maxLen) :
    Calls Try.prog 31 #[.slice A n c, .slice A2 n2 c2] w fun e w' => e = .returned (.bool (sameL l l2)) ∧ Same w w' := by
  have hlen := hr.len
  subst hlen
  have hlen2 := hr2.len
  subst hlen2
  unfold maxLen at hn hn2
  have HR := Lib.hid hr
  have HR2 := Lib.hid hr2
  clear hr hr2
  by_cases hll : l.length = l2.length
  · have HLL := Lib.hid hll
    have hne : ((l.length : Int) != (l2.length : Int)) = false := by simp [hll]
    clear hll
    go_enter Try.func31, Try.ntmps31
    go_wp2
    go_loopw [5] (fun i wr => ∃ k : Nat, k ≤ l.length ∧ i = .int .i64 k ∧ Hid (l.take k = l2.take k) ∧ Same w wr) (fun i _ => l.length - (intOf i).toNat)
    case atStart => exact ⟨0, Nat.zero_le _, rfl, Lib.hid rfl, Same.refl w⟩
    case round =>
      obtain ⟨k, hk, rfl, hg, hsm⟩ := hrel
      have HS := Lib.hid hsm
      clear hsm
      by_cases hlt : k < l.length
      · have hlt2 : k < l2.length := by have := HLL.out; omega
        obtain ⟨b, off, hA, hb, hc⟩ := (HS.out.strs HR.out).cell k hlt
        subst hA
        obtain ⟨b2, off2, hA2, hb2, hc2⟩ := (HS.out.strs HR2.out).cell k hlt2
        subst hA2
        have hx0 : (0 : Int) ≤ (k : Int) := by omega
        have hx1 : (k : Int) < (l.length : Int) := by omega
        have hx2 : (k : Int) < (l2.length : Int) := by omega
        rcases Bool.eq_false_or_eq_true (l[k].toList == l2[k].toList) with he | he
        · have HE := Lib.hid he
          go_wp2
          go_quiet (fail)
          go_wp2
          go_roundw
          case rel => exact ⟨k + 1, by omega, by go_num, Lib.hid (same_step hlt hlt2 HE.out hg.out), HS.out.drewN _⟩
          case measure => simp [intOf]; omega
        · have HE := Lib.hid he
          go_wp2
          go_quiet (fail)
          go_wp2
          go_ret
          exact ⟨ret_bool (same_at hlt hlt2 HE.out).symm, HS.out.drewN _⟩
      · have hke : k = l.length := by omega
        subst hke
        go_wp2
        go_ret
        exact ⟨ret_bool (same_end HLL.out hg.out).symm, HS.out⟩
  · have hne : ((l.length : Int) != (l2.length : Int)) = true := by simp; omega
    have HLL := Lib.hid hll
    clear hll
    go_enter Try.func31, Try.ntmps31
    go_wp2
    go_ret
    exact ⟨ret_bool (same_len HLL.out).symm, Same.refl w⟩

end Go.Proofs.Ytipkhpijanhfiaa.W
