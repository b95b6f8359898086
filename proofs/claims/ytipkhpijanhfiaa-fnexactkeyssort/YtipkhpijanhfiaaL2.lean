/-
  The laws of keys, as walks over the contracts of the program's functions, which come in as one premise (it is proved of the landed code elsewhere).
-/
import Derived.Test.YtipkhpijanhfiaaDK4
import Derived.Test.YtipkhpijanhfiaaS3
namespace Go.Proofs.Ytipkhpijanhfiaa.W
open Go.RowKit K

/-- what the program's key functions answer -/
structure ImplKeys : Prop where
  key : ∀ (s : ByteArray) (w : World), s.size ≤ maxLen → Calls Try.prog 21 #[.string s] w fun e w' => e = .returned (.bool (keyB s)) ∧ Same w w'
  keys : ∀ (w : World) (n c : Nat) (A : Option Addr) (l : List ByteArray), Strs w w.heap.size A n l → n ≤ c → c ≤ maxLen → Fit l →
    Calls Try.prog 14 #[.slice A n c] w fun e w' => e = .returned (.bool (keysB l)) ∧ Below w.heap.size w w'
  sort : ∀ (w : World) (n c : Nat) (A : Option Addr) (l : List ByteArray), Strs w w.heap.size A n l → n ≤ c → c ≤ maxLen → n ≤ 1048576 → Fit l → Calls Try.prog 17 #[.slice A n c] w (New w (sort l))
  beg : ∀ (k h : ByteArray) (w : World), k.size ≤ maxLen → h.size ≤ maxLen → Calls Try.prog 23 #[.string k, .string h] w fun e w' => e = .returned (.bool (begB k h)) ∧ Below w.heap.size w w'
  first : ∀ (w : World) (n c : Nat) (A : Option Addr) (l : List ByteArray) (f : ByteArray), Strs w w.heap.size A n l → n ≤ c → c ≤ maxLen → Fit l → f.size ≤ maxLen →
    Calls Try.prog 27 #[.slice A n c, .string f] w fun e w' => e = .returned (.tuple #[.string (strS (firstK l f)), .bool (strB (firstK l f))]) ∧ Below w.heap.size w w'

theorem Strs.take {w : World} {B n : Nat} {A : Option Addr} {l : List ByteArray} (h : Strs w B A n l) {k : Nat} (hk : k ≤ n) : Strs w B A k (l.take k) :=
  ⟨by rw [List.length_take, h.len]; omega, fun i hi => by
    rw [List.length_take] at hi
    obtain ⟨b, off, hA, hb, hc⟩ := h.cell i (by omega)
    exact ⟨b, off, hA, hb, by rw [List.getElem_take]; exact hc⟩⟩
/-- the rest of a slice, as the model lays it -/
theorem Strs.drop {w : World} {B n c : Nat} {A : Option Addr} {l : List ByteArray} (h : Strs w B A n l) (hc : n ≤ c) {k : Nat} (hk : k ≤ n) :
    Strs w B (if c = k then A else A.map (·.add k)) (n - k) (l.drop k) :=
  ⟨by rw [List.length_drop, h.len], fun i hi => by
    rw [List.length_drop] at hi
    obtain ⟨b, off, hA, hb, hcell⟩ := h.cell (k + i) (by omega)
    have hlen := h.len
    rw [if_neg (by omega), hA]
    refine ⟨b, off + k, ?_, hb, ?_⟩
    · simp only [Option.map_some]
      unfold Addr.add
      split
      · rename_i h0; subst h0; rfl
      · rfl
    · rw [List.getElem_drop, Nat.add_assoc]; exact hcell⟩
theorem Fit.take {l : List ByteArray} (h : Fit l) (k : Nat) : Fit (l.take k) := fun s hs => h s (List.mem_of_mem_take hs)
theorem Fit.drop {l : List ByteArray} (h : Fit l) (k : Nat) : Fit (l.drop k) := fun s hs => h s (List.mem_of_mem_drop hs)
theorem Fit.sort {l : List ByteArray} (h : Fit l) : Fit (sort l) := fun s hs => h s (mem_sort.mp hs).1
theorem Own.strs {w : World} {base : Nat} {A : Option Addr} {n c : Nat} {l : List ByteArray} (h : Own w base (.slice A n c) l) : Strs w w.heap.size A n l ∧ n ≤ c ∧ c ≤ maxLen := by
  obtain ⟨A', c', hv, h1, h2, h3⟩ := h.parts
  injection hv with e1 e2 e3
  subst e1 e2 e3
  exact ⟨h3, h1, h2⟩

set_option maxHeartbeats 1000000 in
theorem lawKeysOk (H : ImplKeys) (w : World) (A A2 : Option Addr) (n c n2 c2 : Nat) (hb : Bytes w w.heap.size A n) (hnc : n ≤ c) (hc : c ≤ maxLen) :
    Calls Try.prog 3 #[.slice A n c, .slice A2 n2 c2] w fun e w' => e = .returned (.bool true) ∧ Below w.heap.size w w' := by
  by_cases hbig : (1048576 : Int) < (n : Int)
  · clear hb
    go_enter Try.func3, Try.ntmps3
    go_wp2
    go_ret
    exact ⟨rfl, Below.refl _ _⟩
  · by_cases hbig2 : (1048576 : Int) < (n2 : Int)
    · clear hb
      go_enter Try.func3, Try.ntmps3
      go_wp2
      go_ret
      exact ⟨rfl, Below.refl _ _⟩
    · have hd1 : decide ((1048576 : Int) < (n : Int)) = false := by simpa using hbig
      have hd2 : decide ((1048576 : Int) < (n2 : Int)) = false := by simpa using hbig2
      go_enter Try.func3, Try.ntmps3
      go_wp2_with fail
      go_at_call 13
      refine (drawKeysOk w A n c hb hnc hc).mono ?_
      rintro e w1 ⟨A1, c1, l, hl, hsh, rfl, ho1, hb1⟩
      have HO1 := Lib.hid ho1
      have HB1 := Lib.hid hb1
      have HF := Lib.hid hsh.fit
      clear hb ho1 hb1 hsh hd1 hd2 hnc hc
      obtain ⟨hs1, hc1, hm1⟩ := HO1.out.strs
      have HS1 := Lib.hid hs1
      clear hs1
      go_wp2_with fail
      go_at_call 14
      refine (H.keys w1 l.length c1 A1 l HS1.out hc1 hm1 HF.out).mono ?_
      rintro e w2 ⟨rfl, hb2⟩
      have HB2 := Lib.hid (HB1.out.trans (hb2.mono HB1.out.size))
      have HO2 := Lib.hid (HO1.out.below hb2)
      have HS2 := Lib.hid HO2.out.strs.1
      clear hb2
      go_wp2_with fail
      go_at_call 15
      refine (keysS w2 w2.heap.size _ _ _ l HS2.out (by omega) HF.out).mono ?_
      rintro e w3 ⟨rfl, hsm⟩
      have HB3 := Lib.hid (HB2.out.trans ((hsm.below w2.heap.size).mono HB2.out.size))
      have HO3 := Lib.hid (HO2.out.below (hsm.below _))
      have HS3 := Lib.hid HO3.out.strs.1
      clear hsm
      rcases Bool.eq_false_or_eq_true (keysB l) with hkb | hkb
      · obtain ⟨k, hk, hkv⟩ : ∃ k : Nat, k ≤ l.length ∧ (n2 : Int) % ((l.length : Int) + 1) = (k : Int) := ⟨n2 % (l.length + 1), Nat.le_of_lt_succ (Nat.mod_lt n2 (Nat.succ_pos l.length)), by simp⟩
        have hkt := keys_take hkb k
        have hss := sort_same hkb
        have HT1 := Lib.hid hkt.1
        have HT2 := Lib.hid hkt.2
        have HSS := Lib.hid hss
        clear hkt hss
        go_wp2_with fail
        go_at_call 14
        refine (H.keys w3 k c1 A1 (l.take k) (HS3.out.take hk) (by omega) hm1 (HF.out.take k)).mono ?_
        rw [HT1.out]
        rintro e w4 ⟨rfl, hb4⟩
        have HB4 := Lib.hid (HB3.out.trans (hb4.mono HB3.out.size))
        have HO4 := Lib.hid (HO3.out.below hb4)
        have HS4 := Lib.hid HO4.out.strs.1
        clear hb4
        have hdrop := HS4.out.drop hc1 hk
        by_cases hck : c1 = k
        · rw [if_pos hck] at hdrop
          subst hck
          clear hdrop
          go_wp2_with fail
          go_at_call 14
          refine (H.keys w4 0 0 A1 [] (Strs.nil _ _ _) (Nat.le_refl _) (by unfold maxLen; omega) (fun s hs => by cases hs)).mono ?_
          rw [show keysB [] = true from rfl]
          rintro e w5 ⟨rfl, hb5⟩
          have HB5 := Lib.hid (HB4.out.trans (hb5.mono HB4.out.size))
          have HO5 := Lib.hid (HO4.out.below hb5)
          have HS5 := Lib.hid HO5.out.strs.1
          clear hb5
          go_wp2_with fail
          go_at_call 17
          refine (H.sort w5 l.length c1 A1 l HS5.out hc1 hm1 (by omega) HF.out).mono ?_
          rw [HSS.out]
          rintro e w6 ⟨v6, rfl, ho6, hb6⟩
          have HB6 := Lib.hid (HB5.out.trans (hb6.mono HB5.out.size))
          have HO6 := Lib.hid (HO5.out.below hb6)
          have HS6 := Lib.hid HO6.out.strs.1
          obtain ⟨A7, c7, hv7, _, _, hs7⟩ := ho6.parts
          subst hv7
          have HS7 := Lib.hid hs7
          clear ho6 hb6 hs7
          go_wp2_with fail
          go_at_call 16
          refine (samesL w6 w6.heap.size l.length c7 l.length c1 A7 A1 l l HS7.out HS6.out (by omega) (by omega)).mono ?_
          rw [sameL_self]
          rintro e w7 ⟨rfl, hsm⟩
          have HB7 := Lib.hid (HB6.out.trans ((hsm.below w6.heap.size).mono HB6.out.size))
          clear hsm
          go_wp2
          go_ret
          exact ⟨rfl, HB7.out⟩
        · rw [if_neg hck] at hdrop
          have HD := Lib.hid hdrop
          clear hdrop
          go_wp2_with fail
          go_at_call 14
          refine (H.keys w4 _ _ _ _ HD.out (by omega) (by omega) (HF.out.drop _)).mono ?_
          rw [HT2.out]
          rintro e w5 ⟨rfl, hb5⟩
          have HB5 := Lib.hid (HB4.out.trans (hb5.mono HB4.out.size))
          have HO5 := Lib.hid (HO4.out.below hb5)
          have HS5 := Lib.hid HO5.out.strs.1
          clear hb5
          go_wp2_with fail
          go_at_call 17
          refine (H.sort w5 l.length c1 A1 l HS5.out hc1 hm1 (by omega) HF.out).mono ?_
          rw [HSS.out]
          rintro e w6 ⟨v6, rfl, ho6, hb6⟩
          have HB6 := Lib.hid (HB5.out.trans (hb6.mono HB5.out.size))
          have HO6 := Lib.hid (HO5.out.below hb6)
          have HS6 := Lib.hid HO6.out.strs.1
          obtain ⟨A7, c7, hv7, _, _, hs7⟩ := ho6.parts
          subst hv7
          have HS7 := Lib.hid hs7
          clear ho6 hb6 hs7
          go_wp2_with fail
          go_at_call 16
          refine (samesL w6 w6.heap.size l.length c7 l.length c1 A7 A1 l l HS7.out HS6.out (by omega) (by omega)).mono ?_
          rw [sameL_self]
          rintro e w7 ⟨rfl, hsm⟩
          have HB7 := Lib.hid (HB6.out.trans ((hsm.below w6.heap.size).mono HB6.out.size))
          clear hsm
          go_wp2
          go_ret
          exact ⟨rfl, HB7.out⟩
      · go_wp2_with fail
        go_at_call 15
        refine (keysS w3 w3.heap.size _ _ _ l HS3.out (by omega) HF.out).mono ?_
        rintro e w4 ⟨rfl, hsm⟩
        have HB4 := Lib.hid (HB3.out.trans ((hsm.below w3.heap.size).mono HB3.out.size))
        clear hsm
        go_wp2
        go_ret
        exact ⟨rfl, HB4.out⟩

end Go.Proofs.Ytipkhpijanhfiaa.W
