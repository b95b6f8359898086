/-
  Two more laws of keys as walks over the contracts of the program's functions: sorting, and the first key that is not ahead.
-/
import Derived.Test.YtipkhpijanhfiaaL3
namespace Go.Proofs.Ytipkhpijanhfiaa.W
open Go.RowKit K

theorem strS_some (k : ByteArray) : strS (some k) = k := rfl
theorem strB_some (k : ByteArray) : strB (some k) = true := rfl
theorem in_sort {l : List ByteArray} {k : Nat} (h : k < l.length) : inL (sort l) l[k] = keyB l[k] := by
  rw [Bool.eq_iff_iff, inL_iff, mem_sort]
  exact ⟨fun e => e.2, fun e => ⟨List.getElem_mem h, e⟩⟩
theorem sort_in {l : List ByteArray} {k : Nat} (h : k < (sort l).length) : inL l (sort l)[k] = true :=
  inL_iff.mpr (mem_sort.mp (List.getElem_mem h)).1
theorem sort_lt {l : List ByteArray} {j : Nat} (h : j + 1 < (sort l).length) : lt (sort l)[j] (sort l)[j + 1] = true :=
  adj_iff.mp (adj_asc.mpr (sort_asc l)) j h

set_option maxHeartbeats 2000000 in
theorem lawKeysSort (H : ImplKeys) (w : World) (A : Option Addr) (n c : Nat) (hb : Bytes w w.heap.size A n) (hnc : n ≤ c) (hc : c ≤ maxLen) :
    Calls Try.prog 4 #[.slice A n c] w fun e w' => e = .returned (.bool true) ∧ Below w.heap.size w w' := by
  by_cases hbig : (1048576 : Int) < (n : Int)
  · clear hb
    go_enter Try.func4, Try.ntmps4
    go_wp2
    go_ret
    exact ⟨rfl, Below.refl _ _⟩
  · go_enter Try.func4, Try.ntmps4
    go_wp2_with fail
    go_at_call 18
    refine (drawKeysSort w A n c hb hnc hc).mono ?_
    rintro e w1 ⟨A1, c1, l, hl, hsh, rfl, ho1, hb1⟩
    have S1 := Lib.hid ho1.strs.1
    have hc1 := ho1.strs.2.1
    have hm1 := ho1.strs.2.2
    have B1 := Lib.hid hb1
    have FL := Lib.hid hsh.fit
    have hsz1 := hb1.size
    clear hb ho1 hb1 hsh hnc hc hbig
    have hls := sort_len l
    go_wp2_with fail
    go_at_call 17
    (with_reducible refine (H.sort w1 l.length c1 A1 l S1.out hc1 hm1 (by omega) FL.out).mono ?_)
    rintro e w2 ⟨v2, rfl, o2, b2⟩
    obtain ⟨A2, c2, hv2, hc2, hm2, s2⟩ := o2.parts
    subst hv2
    have SK2 := Lib.hid s2
    have S2 := Lib.hid ((S1.out.below b2 (Nat.le_refl _)).more b2.size)
    have B2 := Lib.hid (B1.out.trans (b2.mono hsz1))
    have hsz2 := B2.out.size
    clear o2 b2 s2 S1 B1
    go_wp2_with fail
    go_at_call 19
    (with_reducible refine (sortS w2 w2.heap.size l.length c1 A1 l S2.out (Nat.le_refl _) (by omega) FL.out).mono ?_)
    rintro e w3 ⟨v3, rfl, o3, b3⟩
    obtain ⟨A3, c3, hv3, hc3, hm3, s3⟩ := o3.parts
    subst hv3
    have SS3 := Lib.hid s3
    have SK3 := Lib.hid ((SK2.out.below b3 (Nat.le_refl _)).more b3.size)
    have S3 := Lib.hid ((S2.out.below b3 (Nat.le_refl _)).more b3.size)
    have B3 := Lib.hid (B2.out.trans (b3.mono hsz2))
    have hsz3 := B3.out.size
    clear o3 b3 s3 S2 SK2 B2
    go_wp2_with fail
    go_at_call 16
    (with_reducible refine (samesL w3 w3.heap.size (sort l).length c2 (sort l).length c3 A2 A3 (sort l) (sort l) SK3.out SS3.out (by omega) (by omega)).mono ?_)
    rw [sameL_self]
    rintro e w4 ⟨rfl, m4⟩
    have S4 := Lib.hid (m4.strs S3.out)
    have SK4 := Lib.hid (m4.strs SK3.out)
    have M4 := Lib.hid m4
    clear m4 S3 SK3 SS3
    go_wp2_with fail
    go_loopw [5] (fun i wr => ∃ k : Nat, k ≤ l.length ∧ i = .int .i64 (k : Nat) ∧ Same w4 wr) (fun i _ => l.length - (intOf i).toNat)
    case atStart => exact ⟨0, Nat.zero_le _, rfl, Same.refl _⟩
    case round =>
      obtain ⟨k, hk, rfl, hsm⟩ := hrel
      have HS := Lib.hid hsm
      clear hsm
      by_cases hlt : k < l.length
      · obtain ⟨b, off, hA, hbb, hcc⟩ := (HS.out.strs S4.out).cell k hlt
        subst hA
        have hfit := FL.out.get hlt
        have hin := in_sort hlt
        have hx0 : (0 : Int) ≤ (k : Int) := by omega
        have hx1 : (k : Int) < (l.length : Int) := by omega
        go_wp2
        go_quiet ((first | (go_at_call 20; exact quiet_mine (inS_ _ _ _ _ _ (sort l) _ ((HS.out.strs SK4.out).drewN _) (by omega))) | (go_at_call 21; exact Calls.quiet_of (H.key _ _ hfit))))
        clear hin
        go_wp2
        go_roundw
        case rel => exact ⟨k + 1, by omega, by go_num, HS.out.drewN _⟩
        case measure => simp [intOf]; omega
      · go_wp2_with fail
        go_loopw [6] (fun i wr => ∃ k : Nat, k ≤ (sort l).length ∧ i = .int .i64 (k : Nat) ∧ Same w4 wr) (fun i _ => (sort l).length - (intOf i).toNat)
        case atStart => exact ⟨0, Nat.zero_le _, rfl, HS.out⟩
        case round =>
          obtain ⟨q, hq, rfl, hsm2⟩ := hrel
          have HS2 := Lib.hid hsm2
          clear hsm2 HS
          by_cases hltq : q < (sort l).length
          · obtain ⟨b, off, hA, hbb, hcc⟩ := (HS2.out.strs SK4.out).cell q hltq
            subst hA
            have hin := sort_in hltq
            have hx0 : (0 : Int) ≤ (q : Int) := by omega
            have hx1 : (q : Int) < ((sort l).length : Int) := by omega
            by_cases h0 : q = 0
            · subst h0
              rw [Nat.add_zero] at hcc
              go_wp2
              go_quiet ((go_at_call 20; exact quiet_mine (inS_ _ _ _ _ _ l _ ((HS2.out.strs S4.out).drewN _) (by omega))))
              clear hin
              go_wp2
              go_roundw
              case rel => exact ⟨1, by omega, by go_num, HS2.out.drewN _⟩
              case measure => simp [intOf]; omega
            · obtain ⟨j, hj⟩ : ∃ j, q = j + 1 := ⟨q - 1, by omega⟩
              have hjl : j < (sort l).length := by omega
              obtain ⟨b', off', hA', _, hcj⟩ := (HS2.out.strs SK4.out).cell j hjl
              simp only [Option.some.injEq, Addr.mk.injEq, and_true] at hA'
              obtain ⟨rfl, rfl⟩ := hA'
              have hy0 : (0 : Int) ≤ (j : Int) := by omega
              have hy1 : (j : Int) < ((sort l).length : Int) := by omega
              have hsub : IntKind.i64.wrap ((q : Int) - 1) = (j : Int) := by rw [IntWalk.i64_in _ ⟨by omega, by omega⟩]; omega
              have hpos : 0 < q := by omega
              have hlb : Op.bytesLess (sort l)[j].toList (sort l)[q].toList = true := by
                subst hj; exact sort_lt hltq
              clear hj
              go_wp2
              go_quiet ((go_at_call 20; exact quiet_mine (inS_ _ _ _ _ _ l _ ((HS2.out.strs S4.out).drewN _) (by omega))))
              clear hin hlb hsub
              go_wp2
              go_roundw
              case rel => exact ⟨q + 1, by omega, by go_num, HS2.out.drewN _⟩
              case measure => simp [intOf]; omega
          · have BR := Lib.hid (B3.out.trans (((M4.out.trans HS2.out).below w3.heap.size).mono hsz3))
            have hszr := BR.out.size
            have hgr : w3.heap.size ≤ wr.heap.size := ((M4.out.trans HS2.out).below w3.heap.size).size
            have SKr := Lib.hid ((HS2.out.strs SK4.out).more hgr)
            clear S4 SK4 HS2 M4 B3
            go_wp2_with fail
            go_at_call 17
            (with_reducible refine (H.sort wr (sort l).length c2 A2 (sort l) SKr.out hc2 hm2 (by omega) FL.out.sort).mono ?_)
            rw [sort_sort]
            rintro e w6 ⟨v6, rfl, o6, b6⟩
            obtain ⟨A6, c6, hv6, hc6, hm6, s6⟩ := o6.parts
            subst hv6
            have S6 := Lib.hid s6
            have SK6 := Lib.hid ((SKr.out.below b6 (Nat.le_refl _)).more b6.size)
            have B6 := Lib.hid (BR.out.trans (b6.mono hszr))
            have hsz6 := B6.out.size
            clear o6 b6 s6 SKr BR
            go_wp2_with fail
            go_at_call 16
            (with_reducible refine (samesL w6 w6.heap.size (sort l).length c6 (sort l).length c2 A6 A2 (sort l) (sort l) S6.out SK6.out (by omega) (by omega)).mono ?_)
            rw [sameL_self]
            rintro e w7 ⟨rfl, m7⟩
            have B7 := Lib.hid (B6.out.trans ((m7.below w6.heap.size).mono hsz6))
            clear m7
            go_wp2
            go_ret
            exact ⟨rfl, B7.out⟩

set_option maxHeartbeats 2000000 in
theorem lawKeyFirst (H : ImplKeys) (w : World) (A : Option Addr) (n c : Nat) (hb : Bytes w w.heap.size A n) (hnc : n ≤ c) (hc : c ≤ maxLen) :
    Calls Try.prog 6 #[.slice A n c] w fun e w' => e = .returned (.bool true) ∧ Below w.heap.size w w' := by
  by_cases hbig : (1048576 : Int) < (n : Int)
  · clear hb
    go_enter Try.func6, Try.ntmps6
    go_wp2
    go_ret
    exact ⟨rfl, Below.refl _ _⟩
  · go_enter Try.func6, Try.ntmps6
    go_wp2_with fail
    go_at_call 25
    refine (drawKeyFirst w A n c hb hnc hc).mono ?_
    rintro e w1 ⟨A1, c1, l, f, hl, hsh, hf6, rfl, ho1, hb1⟩
    have S1 := Lib.hid ho1.strs.1
    have hc1 := ho1.strs.2.1
    have hm1 := ho1.strs.2.2
    have B1 := Lib.hid hb1
    have FL := Lib.hid hsh.fit
    have hsz1 := hb1.size
    have hfm : f.size ≤ maxLen := by unfold maxLen; omega
    clear hb ho1 hb1 hsh hnc hc hbig
    have hS := firstS w1 w1.heap.size l.length c1 A1 l f S1.out (by omega) FL.out
    have hI := fun W (h : Strs W W.heap.size A1 l.length l) => H.first W l.length c1 A1 l f h hc1 hm1 FL.out hfm
    rcases Bool.eq_false_or_eq_true (keysB l) with hkb | hkb
    · cases ho : firstK l f with
      | none =>
        rw [ho] at hS hI
        have HN := Lib.hid (first_none hkb ho)
        have HI := Lib.hid hI
        have HSS := Lib.hid hS
        have HK := Lib.hid hkb
        clear hS hI ho
        go_wp2_with fail
        go_at_call 26
        (with_reducible refine HSS.out.mono ?_)
        rintro e w2 ⟨rfl, m2⟩
        have S2 := Lib.hid ((m2.strs S1.out).more (m2.below w1.heap.size).size)
        have B2 := Lib.hid (B1.out.trans ((m2.below w1.heap.size).mono hsz1))
        have hsz2 := B2.out.size
        clear m2 S1 B1 HSS
        go_wp2_with fail
        go_at_call 27
        (with_reducible refine (HI.out w2 S2.out).mono ?_)
        rintro e w3 ⟨rfl, b3⟩
        have S3 := Lib.hid ((S2.out.below b3 (Nat.le_refl _)).more b3.size)
        have B3 := Lib.hid (B2.out.trans (b3.mono hsz2))
        have hsz3 := B3.out.size
        clear b3 S2 B2
        go_wp2_with fail
        go_at_call 15
        (with_reducible refine (keysS w3 w3.heap.size l.length c1 A1 l S3.out (by omega) FL.out).mono ?_)
        rw [hkb]
        rintro e w4 ⟨rfl, m4⟩
        have S4 := Lib.hid (m4.strs S3.out)
        have B4 := Lib.hid (B3.out.trans ((m4.below w3.heap.size).mono hsz3))
        clear m4 S3 B3 hkb
        go_wp2_with fail
        go_loop [9] (fun i => ∃ q : Nat, q ≤ l.length ∧ i = .int .i64 (q : Nat)) (fun i => l.length - (intOf i).toNat)
        case atStart => exact ⟨0, Nat.zero_le _, rfl⟩
        case round =>
          obtain ⟨q, hq, rfl⟩ := hrel
          by_cases hlt : q < l.length
          · obtain ⟨b, off, hA, hbb, hcc⟩ := S4.out.cell q hlt
            subst hA
            have hlb : Op.bytesLess l[q].toList f.toList = true := HN.out _ (List.getElem_mem hlt)
            go_wp2
            go_round
            case rel => exact ⟨q + 1, by omega, by go_num⟩
            case measure => simp [intOf]; omega
          · go_wp2
            go_ret
            exact ⟨rfl, B4.out⟩
      | some k =>
        rw [ho] at hS hI
        simp only [strS_some, strB_some] at hS hI
        obtain ⟨hmem, hkf, hleast⟩ := first_some ho
        have HM := Lib.hid (inL_iff.mpr hmem)
        have HKF := Lib.hid hkf
        have HL := Lib.hid hleast
        clear hmem hkf hleast
        have HI := Lib.hid hI
        have HSS := Lib.hid hS
        have HK := Lib.hid hkb
        clear hS hI ho
        go_wp2_with fail
        go_at_call 26
        (with_reducible refine HSS.out.mono ?_)
        rintro e w2 ⟨rfl, m2⟩
        have S2 := Lib.hid ((m2.strs S1.out).more (m2.below w1.heap.size).size)
        have B2 := Lib.hid (B1.out.trans ((m2.below w1.heap.size).mono hsz1))
        have hsz2 := B2.out.size
        clear m2 S1 B1 HSS
        go_wp2_with fail
        go_at_call 27
        (with_reducible refine (HI.out w2 S2.out).mono ?_)
        rintro e w3 ⟨rfl, b3⟩
        have S3 := Lib.hid ((S2.out.below b3 (Nat.le_refl _)).more b3.size)
        have B3 := Lib.hid (B2.out.trans (b3.mono hsz2))
        have hsz3 := B3.out.size
        clear b3 S2 B2
        go_wp2_with fail
        go_at_call 15
        (with_reducible refine (keysS w3 w3.heap.size l.length c1 A1 l S3.out (by omega) FL.out).mono ?_)
        rw [hkb]
        rintro e w4 ⟨rfl, m4⟩
        have S4 := Lib.hid (m4.strs S3.out)
        have B4 := Lib.hid (B3.out.trans ((m4.below w3.heap.size).mono hsz3))
        clear m4 S3 B3 hkb
        go_wp2_with fail
        go_loop [9] (fun i => ∃ q : Nat, q ≤ l.length ∧ i = .int .i64 (q : Nat)) (fun i => l.length - (intOf i).toNat)
        case atStart => exact ⟨0, Nat.zero_le _, rfl⟩
        case round =>
          obtain ⟨q, hq, rfl⟩ := hrel
          by_cases hlt : q < l.length
          · obtain ⟨b, off, hA, hbb, hcc⟩ := S4.out.cell q hlt
            subst hA
            rcases Bool.eq_false_or_eq_true (Op.bytesLess l[q].toList f.toList) with hlb | hlb
            · go_wp2
              go_round
              case rel => exact ⟨q + 1, by omega, by go_num⟩
              case measure => simp [intOf]; omega
            · have hlk : Op.bytesLess l[q].toList k.toList = false := HL.out _ (List.getElem_mem hlt) hlb
              go_wp2
              go_round
              case rel => exact ⟨q + 1, by omega, by go_num⟩
              case measure => simp [intOf]; omega
          · have hkf : Op.bytesLess k.toList f.toList = false := HKF.out
            go_wp2_with fail
            go_at_call 20
            (with_reducible refine (inS_ w4 w3.heap.size l.length c1 A1 l _ S4.out (by omega)).mono ?_)
            rintro e w5 ⟨rfl, rfl⟩
            have hin : inL l k = true := HM.out
            go_wp2
            go_ret
            exact ⟨rfl, B4.out⟩
    · rw [first_bad hkb] at hS hI
      have HI := Lib.hid hI
      have HSS := Lib.hid hS
      clear hS hI
      go_wp2_with fail
      go_at_call 26
      (with_reducible refine HSS.out.mono ?_)
      rintro e w2 ⟨rfl, m2⟩
      have S2 := Lib.hid ((m2.strs S1.out).more (m2.below w1.heap.size).size)
      have B2 := Lib.hid (B1.out.trans ((m2.below w1.heap.size).mono hsz1))
      have hsz2 := B2.out.size
      clear m2 S1 B1 HSS
      go_wp2_with fail
      go_at_call 27
      (with_reducible refine (HI.out w2 S2.out).mono ?_)
      rintro e w3 ⟨rfl, b3⟩
      have S3 := Lib.hid ((S2.out.below b3 (Nat.le_refl _)).more b3.size)
      have B3 := Lib.hid (B2.out.trans (b3.mono hsz2))
      have hsz3 := B3.out.size
      clear b3 S2 B2
      go_wp2_with fail
      go_at_call 15
      (with_reducible refine (keysS w3 w3.heap.size l.length c1 A1 l S3.out (by omega) FL.out).mono ?_)
      rw [hkb]
      rintro e w4 ⟨rfl, m4⟩
      have B4 := Lib.hid (B3.out.trans ((m4.below w3.heap.size).mono hsz3))
      clear m4
      go_wp2
      go_ret
      exact ⟨rfl, B4.out⟩

end Go.Proofs.Ytipkhpijanhfiaa.W
