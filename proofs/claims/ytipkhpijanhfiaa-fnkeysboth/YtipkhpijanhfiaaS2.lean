/-
  Contracts of functions that only read slices of strings: the model's KeysOk and KeyFirst, KeyBegins, and the laws' comparisons. Each at every slice that can be read.
-/
import Derived.Test.YtipkhpijanhfiaaS1
namespace Go.Proofs.Ytipkhpijanhfiaa.W
open Go.RowKit K

/-- nothing has turned but draws -/
def Same (w w' : World) : Prop := ∃ m, w' = w.drewN m
theorem Same.refl (w : World) : Same w w := ⟨0, rfl⟩
theorem Same.drewN {w w' : World} (h : Same w w') (n : Nat) : Same w (w'.drewN n) := by
  obtain ⟨m, rfl⟩ := h; exact ⟨m + n, by rw [World.drewN_drewN]⟩
theorem Same.strs {w w' : World} (h : Same w w') {B n : Nat} {A : Option Addr} {l : List ByteArray} (hs : Strs w B A n l) : Strs w' B A n l := by
  obtain ⟨m, rfl⟩ := h; exact hs.drewN m
theorem Same.below {w w' : World} (h : Same w w') (B : Nat) : Below B w w' := by
  obtain ⟨m, rfl⟩ := h; exact below_drewN (Below.refl _ _) m
theorem Same.trans {a b c : World} (h : Same a b) (k : Same b c) : Same a c := by
  obtain ⟨m, rfl⟩ := k; exact h.drewN m
theorem quiet_mine {P : Program} {f : FuncId} {args : Array Value} {w : World} {n : Nat} {v : Value}
    (h : Calls P f args (w.drewN n) fun e w' => e = .returned v ∧ w.drewN n = w') : Calls P f args (w.drewN n) fun e w'' => e = .returned v ∧ ∃ m, w'' = w.drewN m :=
  h.mono fun _ _ ⟨he, hm⟩ => ⟨he, n, hm.symm⟩

/-- each string is one that Go can hold -/
def Fit (l : List ByteArray) : Prop := ∀ s ∈ l, s.size ≤ maxLen
theorem Fit.get {l : List ByteArray} (h : Fit l) {k : Nat} (hk : k < l.length) : l[k].size ≤ maxLen := h _ (List.getElem_mem hk)

set_option maxHeartbeats 1000000 in
theorem keysS (w : World) (B n c : Nat) (A : Option Addr) (l : List ByteArray) (hr : Strs w B A n l) (hn : n ≤ maxLen) (hf : Fit l) :
    Calls Try.prog 15 #[.slice A n c] w fun e w' => e = .returned (.bool (keysB l)) ∧ Same w w' := by
  have hlen := hr.len
  subst hlen
  unfold maxLen at hn
  have HF := Lib.hid hf
  have HR := Lib.hid hr
  clear hf hr
  go_enter Try.func15, Try.ntmps15
  go_wp2
  go_loopw [3] (fun i wr => ∃ k : Nat, k ≤ l.length ∧ i = .int .i64 k ∧ good l k ∧ Same w wr) (fun i _ => l.length - (intOf i).toNat)
  case atStart => exact ⟨0, Nat.zero_le _, rfl, good_zero l, Same.refl w⟩
  case round =>
    obtain ⟨k, hk, rfl, hg, hsm⟩ := hrel
    have HG := Lib.hid hg
    have HS := Lib.hid hsm
    clear hg hsm
    by_cases hlt : k < l.length
    · obtain ⟨b, off, hA, hb, hc⟩ := (HS.out.strs HR.out).cell k hlt
      subst hA
      have hsz := HF.out.get hlt
      have hx0 : (0 : Int) ≤ (k : Int) := by omega
      have hx1 : (k : Int) < (l.length : Int) := by omega
      rcases Bool.eq_false_or_eq_true (keyB l[k]) with hkb | hkb
      · by_cases h0 : k = 0
        · subst h0
          rw [Nat.add_zero] at hc
          have HK := Lib.hid hkb
          go_wp2
          go_quiet ((go_at_call 28; exact quiet_mine (keyS _ _ hsz)))
          go_wp2
          go_roundw
          case rel => exact ⟨1, by omega, by go_num, good_one hlt HK.out, HS.out.drewN _⟩
          case measure => simp [intOf]; omega
        · obtain ⟨j, hj⟩ : ∃ j, k = j + 1 := ⟨k - 1, by omega⟩
          have hjl : j < l.length := by omega
          obtain ⟨b', off', hA', _, hcj⟩ := (HS.out.strs HR.out).cell j hjl
          simp only [Option.some.injEq, Addr.mk.injEq, and_true] at hA'
          obtain ⟨rfl, rfl⟩ := hA'
          have hy0 : (0 : Int) ≤ (j : Int) := by omega
          have hy1 : (j : Int) < (l.length : Int) := by omega
          have hsub : IntKind.i64.wrap ((k : Int) - 1) = (j : Int) := by rw [IntWalk.i64_in _ ⟨by omega, by omega⟩]; omega
          have hpos : 0 < k := by omega
          have HJ := Lib.hid hj
          have HK := Lib.hid hkb
          clear hj
          rcases Bool.eq_false_or_eq_true (Op.bytesLess l[j].toList l[k].toList) with hlb | hlb
          · have HL := Lib.hid hlb
            go_wp2
            go_quiet ((go_at_call 28; exact quiet_mine (keyS _ _ hsz)))
            clear hsub
            go_wp2
            go_roundw
            case rel =>
              have hj := HJ.out
              subst hj
              exact ⟨j + 2, by omega, by go_num, good_succ HG.out hlt HK.out HL.out, HS.out.drewN _⟩
            case measure => simp [intOf]; omega
          · have HL := Lib.hid hlb
            go_wp2
            go_quiet ((go_at_call 28; exact quiet_mine (keyS _ _ hsz)))
            clear hsub
            go_wp2
            go_ret
            have hj := HJ.out
            subst hj
            exact ⟨ret_bool (bad_order hlt HL.out).symm, HS.out.drewN _⟩
      · have HK := Lib.hid hkb
        go_wp2
        go_quiet ((go_at_call 28; exact quiet_mine (keyS _ _ hsz)))
        go_wp2
        go_ret
        exact ⟨ret_bool (bad_key hlt HK.out).symm, HS.out.drewN _⟩
    · have hke : k = l.length := by omega
      subst hke
      go_wp2
      go_ret
      exact ⟨ret_bool (by rw [good_end HG.out]; exact decide_eq_decide.mpr (by omega)), HS.out⟩

set_option maxHeartbeats 1000000 in
theorem samesL (w : World) (B n c n2 c2 : Nat) (A A2 : Option Addr) (l l2 : List ByteArray) (hr : Strs w B A n l) (hr2 : Strs w B A2 n2 l2) (hn : n ≤ maxLen) (hn2 : n2 ≤ maxLen) :
    Calls Try.prog 16 #[.slice A n c, .slice A2 n2 c2] w fun e w' => e = .returned (.bool (sameL l l2)) ∧ Same w w' := by
  have hlen := hr.len
  subst hlen
  have hlen2 := hr2.len
  subst hlen2
  unfold maxLen at hn hn2
  have HR := Lib.hid hr
  have HR2 := Lib.hid hr2
  clear hr hr2
  by_cases hll : l.length = l2.length
  · have HLL := Lib.hid hll
    have hne : ((l.length : Int) != (l2.length : Int)) = false := by simp [hll]
    clear hll
    go_enter Try.func16, Try.ntmps16
    go_wp2
    go_loopw [5] (fun i wr => ∃ k : Nat, k ≤ l.length ∧ i = .int .i64 k ∧ Hid (l.take k = l2.take k) ∧ Same w wr) (fun i _ => l.length - (intOf i).toNat)
    case atStart => exact ⟨0, Nat.zero_le _, rfl, Lib.hid rfl, Same.refl w⟩
    case round =>
      obtain ⟨k, hk, rfl, hg, hsm⟩ := hrel
      have HS := Lib.hid hsm
      clear hsm
      by_cases hlt : k < l.length
      · have hlt2 : k < l2.length := by have := HLL.out; omega
        obtain ⟨b, off, hA, hb, hc⟩ := (HS.out.strs HR.out).cell k hlt
        subst hA
        obtain ⟨b2, off2, hA2, hb2, hc2⟩ := (HS.out.strs HR2.out).cell k hlt2
        subst hA2
        have hx0 : (0 : Int) ≤ (k : Int) := by omega
        have hx1 : (k : Int) < (l.length : Int) := by omega
        have hx2 : (k : Int) < (l2.length : Int) := by omega
        rcases Bool.eq_false_or_eq_true (l[k].toList == l2[k].toList) with he | he
        · have HE := Lib.hid he
          go_wp2
          go_quiet (fail)
          go_wp2
          go_roundw
          case rel => exact ⟨k + 1, by omega, by go_num, Lib.hid (same_step hlt hlt2 HE.out hg.out), HS.out.drewN _⟩
          case measure => simp [intOf]; omega
        · have HE := Lib.hid he
          go_wp2
          go_quiet (fail)
          go_wp2
          go_ret
          exact ⟨ret_bool (same_at hlt hlt2 HE.out).symm, HS.out.drewN _⟩
      · have hke : k = l.length := by omega
        subst hke
        go_wp2
        go_ret
        exact ⟨ret_bool (same_end HLL.out hg.out).symm, HS.out⟩
  · have hne : ((l.length : Int) != (l2.length : Int)) = true := by simp; omega
    have HLL := Lib.hid hll
    clear hll
    go_enter Try.func16, Try.ntmps16
    go_wp2
    go_ret
    exact ⟨ret_bool (same_len HLL.out).symm, Same.refl w⟩

set_option maxHeartbeats 1000000 in
theorem inS_ (w : World) (B n c : Nat) (A : Option Addr) (l : List ByteArray) (s : ByteArray) (hr : Strs w B A n l) (hn : n ≤ maxLen) :
    Calls Try.prog 20 #[.slice A n c, .string s] w fun e w' => e = .returned (.bool (inL l s)) ∧ w = w' := by
  have hlen := hr.len
  subst hlen
  unfold maxLen at hn
  have HR := Lib.hid hr
  clear hr
  go_enter Try.func20, Try.ntmps20
  go_wp2
  go_loop [5] (fun i => ∃ k : Nat, k ≤ l.length ∧ i = .int .i64 k ∧ notIn l s k) (fun i => l.length - (intOf i).toNat)
  case atStart => exact ⟨0, Nat.zero_le _, rfl, notIn_zero l s⟩
  case round =>
    obtain ⟨k, hk, rfl, hg⟩ := hrel
    have HG := Lib.hid hg
    clear hg
    by_cases hlt : k < l.length
    · obtain ⟨b, off, hA, hb, hc⟩ := HR.out.cell k hlt
      subst hA
      rcases Bool.eq_false_or_eq_true (l[k].toList == s.toList) with he | he
      · have HE := Lib.hid he
        go_wp2
        go_ret
        exact ⟨ret_bool (inL_at hlt HE.out).symm, rfl⟩
      · have HE := Lib.hid he
        go_wp2
        go_round
        case rel => exact ⟨k + 1, by omega, by go_num, notIn_succ hlt HG.out HE.out⟩
        case measure => simp [intOf]; omega
    · have hke : k = l.length := by omega
      subst hke
      go_wp2
      go_ret
      exact ⟨ret_bool (notIn_end HG.out).symm, rfl⟩

end Go.Proofs.Ytipkhpijanhfiaa.W
