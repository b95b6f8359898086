/-
  Contracts of the model's KeyBegins and KeyFirst, at every string and every slice that can be read.
-/
import Derived.Test.YtipkhpijanhfiaaS2
namespace Go.Proofs.Ytipkhpijanhfiaa.W
open Go.RowKit K

set_option maxHeartbeats 400000 in
theorem begS (k h : ByteArray) (w : World) :
    Calls Try.prog 24 #[.string k, .string h] w fun e w' => e = .returned (.bool (begB k h)) ∧ w = w' := by
  by_cases hle : h.size ≤ k.size
  · have hle2 : (h.size : Int) ≤ (k.size : Int) := by omega
    go_enter Try.func24, Try.ntmps24
    go_wp2
    go_ret
    exact ⟨ret_bool (by simp [begB, hle]), rfl⟩
  · have hle2 : ¬ (h.size : Int) ≤ (k.size : Int) := by omega
    go_enter Try.func24, Try.ntmps24
    go_wp2
    go_ret
    exact ⟨ret_bool (by simp [begB, hle]), rfl⟩

def strS (o : Option ByteArray) : ByteArray := o.getD ⟨#[]⟩
def strB (o : Option ByteArray) : Bool := o.isSome

set_option maxHeartbeats 1000000 in
theorem firstS (w : World) (B n c : Nat) (A : Option Addr) (l : List ByteArray) (f : ByteArray) (hr : Strs w B A n l) (hn : n ≤ maxLen) (hf : Fit l) :
    Calls Try.prog 26 #[.slice A n c, .string f] w fun e w' => e = .returned (.tuple #[.string (strS (firstK l f)), .bool (strB (firstK l f))]) ∧ Same w w' := by
  have hlen := hr.len
  subst hlen
  have hn0 := hn
  unfold maxLen at hn
  have HR := Lib.hid hr
  have HF := Lib.hid hf
  clear hr hf
  go_enter Try.func26, Try.ntmps26
  go_wp2
  go_loopw [6] (fun i wr => ∃ k : Nat, k ≤ l.length ∧ i = .int .i64 k ∧ aheadK l f k ∧ Same w wr) (fun i _ => l.length - (intOf i).toNat)
  case atStart => exact ⟨0, Nat.zero_le _, rfl, aheadK_zero l f, Same.refl w⟩
  case round =>
    obtain ⟨k, hk, rfl, hg, hsm⟩ := hrel
    have HG := Lib.hid hg
    have HS := Lib.hid hsm
    clear hg hsm
    by_cases hlt : k < l.length
    · have hx1 : (k : Int) < (l.length : Int) := by omega
      rcases Bool.eq_false_or_eq_true (keysB l) with hkb | hkb
      · have HK := Lib.hid hkb
        go_wp2_with fail
        go_at_call 15
        refine (keysS wr B l.length c A l (HS.out.strs HR.out) hn0 HF.out).mono ?_
        rintro e w2 ⟨rfl, hs2⟩
        have HS2 := Lib.hid (HS.out.trans hs2)
        obtain ⟨b, off, hA, hb, hc⟩ := (HS2.out.strs HR.out).cell k hlt
        subst hA
        clear hs2 HS
        rcases Bool.eq_false_or_eq_true (Op.bytesLess l[k].toList f.toList) with he | he
        · have HE := Lib.hid he
          go_wp2
          go_roundw
          case rel => exact ⟨k + 1, by omega, by go_num, aheadK_succ hlt HG.out HE.out, HS2.out⟩
          case measure => simp [intOf]; omega
        · have HE := Lib.hid he
          go_wp2
          go_ret2
          exact ⟨by rw [first_hit HK.out hlt HG.out HE.out]; rfl, HS2.out⟩
      · have HK := Lib.hid hkb
        go_wp2_with fail
        go_at_call 15
        refine (keysS wr B l.length c A l (HS.out.strs HR.out) hn0 HF.out).mono ?_
        rintro e w2 ⟨rfl, hs2⟩
        have HS2 := Lib.hid (HS.out.trans hs2)
        clear hs2 HS
        go_wp2
        go_ret2
        exact ⟨by rw [first_bad HK.out]; rfl, HS2.out⟩
    · have hke : k = l.length := by omega
      subst hke
      go_wp2
      go_ret2
      exact ⟨by rw [first_miss HG.out]; rfl, HS.out⟩

end Go.Proofs.Ytipkhpijanhfiaa.W
