/-
  The law FnRunKeys (P36), as a walk over the contracts.
-/
import Derived.Test.YtjjalagmlbaafaaER
import Derived.Test.YtjjalagmlbaafaaEQ
import Derived.Test.YtjjalagmlbaafaaI4
namespace Go.Proofs.Ytjjalagmlbaafaa.W
open Go.RowKit K R

theorem keysK_few {W : World} {A : Option Addr} {c : Nat} {l : List En} (h : Few W A c l) : Calls Try.prog 35 #[.slice A l.length c] W (New W (keysO l)) :=
  runKeysI W W.heap.size l.length c A l h.ents (Nat.le_refl _) (by have := h.len; omega) h.fit
theorem keysS_few {W : World} {A : Option Addr} {c : Nat} {l : List En} (h : Few W A c l) : Calls Try.prog 38 #[.slice A l.length c] W (New W (keysO l)) :=
  runKeysS W W.heap.size l.length c A l h.ents (Nat.le_refl _) (by have := h.len; omega) h.fit
theorem runK_few {W : World} {A : Option Addr} {c : Nat} {l : List En} (h : Few W A c l) : Calls Try.prog 24 #[.slice A l.length c] W fun e w' => e = .returned (.bool (runB l)) ∧ Below W.heap.size W w' :=
  runS W W.heap.size l.length c A l h.ents (Nat.le_refl _) (by have := h.len; unfold maxLen; omega) h.fit
theorem samesT {W : World} {A A2 : Option Addr} {c c2 : Nat} {l : List ByteArray} (h : Strs W W.heap.size A l.length l) (h2 : Strs W W.heap.size A2 l.length l) (hl : l.length ≤ 1000) : Calls Try.prog 36 #[.slice A l.length c, .slice A2 l.length c2] W fun e w' => e = .returned (.bool true) ∧ Below W.heap.size W w' := by
  have hm : l.length ≤ maxLen := by unfold maxLen; omega
  have h := samesL W W.heap.size l.length c l.length c2 A A2 l l h h2 hm hm
  rw [sameL_self] at h
  exact h.mono fun _ _ ⟨he, hs⟩ => ⟨he, hs.below _⟩
theorem keysK_le (l : List En) : (keysO l).length ≤ l.length := by
  unfold keysO
  split
  · exact keysL_len _
  · exact Nat.zero_le _
theorem emptyS (w : World) : Own (w.alloc (.cells #[] 9)) w.heap.size (.slice (some ⟨w.heap.size, 0, none⟩) 0 0) [] := Own.empty w w.heap.size (Nat.le_refl _)

set_option maxHeartbeats 8000000 in
set_option maxRecDepth 100000 in
theorem lawRunKeys (w : World) (A : Option Addr) (n c : Nat) (hb0 : Bytes w w.heap.size A n) (hnc : n ≤ c) (hc : c ≤ maxLen) :
    Calls Try.prog 11 #[.slice A n c] w fun e w' => e = .returned (.bool true) ∧ Below w.heap.size w w' := by
  by_cases hbig : (1048576 : Int) < (n : Int)
  · clear hb0
    go_enter Try.func11, Try.ntmps11
    go_wp2
    go_ret
    exact ⟨rfl, Below.refl _ _⟩
  go_enter Try.func11, Try.ntmps11
  go_wp2_with fail
  go_at_call 37
  refine Calls.mono (drawRunKeys w A n c hb0 hnc hc) ?_
  rintro e w1 ⟨A1, c1, l, rfl, hf, hb⟩
  have HF := Lib.hid hf
  have HB := Lib.hid hb
  have hl45 := hf.len
  have hkl := keysK_le l
  clear hb0 hf hb
  go_wp2_with fail
  go_at_call 35
  refine Calls.mono (keysK_few HF.out) ?_
  rintro e w2 ⟨kv_, rfl, ok_, b_⟩
  obtain ⟨A2, c2, hkv_, -, -, sk_⟩ := ok_.parts
  subst hkv_
  replace HF := Lib.hid (HF.out.below b_)
  replace HB := Lib.hid (HB.out.trans (b_.mono HB.out.size))
  have HK := Lib.hid sk_
  clear ok_ b_ sk_
  go_wp2_with fail
  go_at_call 38
  refine Calls.mono (keysS_few HF.out) ?_
  rintro e w3 ⟨kv_, rfl, ok_, b_⟩
  obtain ⟨A3, c3, hkv_, -, -, sk_⟩ := ok_.parts
  subst hkv_
  replace HK := Lib.hid ((HK.out.below b_ (Nat.le_refl _)).more b_.size)
  replace HF := Lib.hid (HF.out.below b_)
  replace HB := Lib.hid (HB.out.trans (b_.mono HB.out.size))
  have HM := Lib.hid sk_
  clear ok_ b_ sk_
  go_wp2_with fail
  go_at_call 36
  refine Calls.mono (samesT (l := keysO l) HK.out HM.out (by omega)) ?_
  rintro e w4 ⟨rfl, b_⟩
  replace HK := Lib.hid ((HK.out.below b_ (Nat.le_refl _)).more b_.size)
  replace HM := Lib.hid ((HM.out.below b_ (Nat.le_refl _)).more b_.size)
  replace HF := Lib.hid (HF.out.below b_)
  replace HB := Lib.hid (HB.out.trans (b_.mono HB.out.size))
  clear b_
  clear HM
  have HC := Lib.hid (runK_few HF.out)
  rcases Bool.eq_false_or_eq_true (runB l) with hrun | hrun
  · rw [hrun] at HC
    go_wp2_with fail
    go_at_call 24
    refine Calls.mono (HC.out) ?_
    rintro e w5 ⟨rfl, b_⟩
    replace HK := Lib.hid ((HK.out.below b_ (Nat.le_refl _)).more b_.size)
    replace HF := Lib.hid (HF.out.below b_)
    replace HB := Lib.hid (HB.out.trans (b_.mono HB.out.size))
    clear b_
    clear HC
    have hko : keysO l = keysL l := by unfold keysO; rw [if_pos hrun]
    have HSK := Lib.hid (keys_sort hrun)
    rw [hko] at HK hkl
    rw [hko]
    clear hko hrun
    obtain ⟨ks, hks⟩ : ∃ ks, ks = keysL l := ⟨_, rfl⟩
    rw [← hks] at HK HSK hkl
    rw [← hks]
    clear hks
    go_wp2_with fail
    go_loopw [5, 6] (fun s i wr => ∃ (v : Value) (k : Nat), k ≤ l.length ∧ i = .int .i64 (k : Nat) ∧ s = v ∧ Own wr w5.heap.size v ((l.take k).map (·.key)) ∧ Below w5.heap.size w5 wr) (fun _ i _ => l.length - (intOf i).toNat)
    case atStart => exact ⟨_, 0, Nat.zero_le _, rfl, rfl, emptyS w5, (Below.refl _ _).alloc (Nat.le_refl _) _⟩
    case round =>
      obtain ⟨v, k, hk, rfl, hv, ho, hb⟩ := hrel
      have hv1 := hv.symm
      clear hv
      subst hv1
      have HOL := Lib.hid ho
      have HBL := Lib.hid hb
      clear ho hb
      by_cases hlt : k < l.length
      · obtain ⟨kb, ko, hA, hkb, d0, -, -, -⟩ := (HF.out.below HBL.out).ents.cell k hlt
        subst hA
        obtain ⟨x0, h0⟩ : ∃ y, y = l[k].key := ⟨_, rfl⟩
        rw [← h0] at d0
        have z0 : (0 : Int) ≤ (k : Int) := by omega
        have z1 : (k : Int) < (l.length : Int) := by omega
        have HN := Lib.hid (show (l.take (k + 1)).map (·.key) = (l.take k).map (·.key) ++ [x0] by rw [List.take_succ_eq_append_getElem hlt, List.map_append, h0]; rfl)
        have hsl : ((l.take k).map (·.key)).length ≤ l.length := by rw [List.length_map, List.length_take]; omega
        clear h0
        go_wp2_with (at_builtin; refine app_own rfl (.tmp 35) (.tmp 41) rfl _ w5.heap.size _ ((l.take k).map (·.key)) rfl (HOL.out.alloc _) (wr.heap.size + 1) 1 1 _ [x0] rfl (one_strs wr x0) (by omega) (by have := HBL.out.size; simp; omega) ?_; intro vb wb ob gb; have OB := Lib.hid ob; have BB := Lib.hid (Below.app (HBL.out.alloc HBL.out.size _) (HOL.out.alloc _) (Nat.le_refl _) gb (by have := HBL.out.size; simp; omega)); clear ob gb)
        go_roundw
        case rel => exact ⟨_, k + 1, by omega, by go_num, rfl, by rw [HN.out]; exact OB.out, BB.out⟩
        case measure => simp [intOf]; omega
      · have hke : k = l.length := by omega
        subst hke
        rw [List.take_length] at HOL
        have HFIT := Lib.hid (show Fit (l.map (·.key)) from fun s hs => by
          obtain ⟨e, he, rfl⟩ := List.mem_map.mp hs
          exact HF.out.fit e he)
        have hml : (l.map (·.key)).length = l.length := List.length_map _
        obtain ⟨al, hal⟩ : ∃ al, al = l.map (·.key) := ⟨_, rfl⟩
        rw [← hal] at HOL HSK hml HFIT
        clear hal
        obtain ⟨A7, c7, hv7, -, -, s7⟩ := HOL.out.parts
        subst hv7
        have b_ := HBL.out
        have HC := Lib.hid (sortI wr wr.heap.size al.length c7 A7 al s7 (Nat.le_refl _) (by omega) HFIT.out)
        rw [HSK.out] at HC
        clear s7 hml
        replace HK := Lib.hid ((HK.out.below b_ (Nat.le_refl _)).more b_.size)
        replace HB := Lib.hid (HB.out.trans (b_.mono HB.out.size))
        clear b_ HBL
        go_wp2_with fail
        go_at_call 39
        refine Calls.mono (HC.out) ?_
        rintro e w21 ⟨kv_, rfl, ok_, b_⟩
        obtain ⟨A8, c8, hkv_, -, -, sk_⟩ := ok_.parts
        subst hkv_
        replace HK := Lib.hid ((HK.out.below b_ (Nat.le_refl _)).more b_.size)
        replace HB := Lib.hid (HB.out.trans (b_.mono HB.out.size))
        have HS7 := Lib.hid sk_
        clear ok_ b_ sk_
        go_wp2_with fail
        go_at_call 36
        refine Calls.mono (samesT (l := ks) HS7.out HK.out (by omega)) ?_
        rintro e w22 ⟨rfl, b_⟩
        replace HK := Lib.hid ((HK.out.below b_ (Nat.le_refl _)).more b_.size)
        replace HS7 := Lib.hid ((HS7.out.below b_ (Nat.le_refl _)).more b_.size)
        replace HB := Lib.hid (HB.out.trans (b_.mono HB.out.size))
        clear b_
        go_wp2
        go_ret
        exact ⟨rfl, HB.out⟩
  · rw [hrun] at HC
    go_wp2_with fail
    go_at_call 24
    refine Calls.mono (HC.out) ?_
    rintro e w5 ⟨rfl, b_⟩
    replace HK := Lib.hid ((HK.out.below b_ (Nat.le_refl _)).more b_.size)
    replace HF := Lib.hid (HF.out.below b_)
    replace HB := Lib.hid (HB.out.trans (b_.mono HB.out.size))
    clear b_
    clear HC hrun
    go_wp2_with fail
    go_at_call 38
    refine Calls.mono (keysS_few HF.out) ?_
    rintro e w6 ⟨kv_, rfl, ok_, b_⟩
    obtain ⟨A4, c4, hkv_, -, -, sk_⟩ := ok_.parts
    subst hkv_
    replace HK := Lib.hid ((HK.out.below b_ (Nat.le_refl _)).more b_.size)
    replace HF := Lib.hid (HF.out.below b_)
    replace HB := Lib.hid (HB.out.trans (b_.mono HB.out.size))
    have HM := Lib.hid sk_
    clear ok_ b_ sk_
    go_wp2_with fail
    go_at_call 36
    refine Calls.mono (samesT (l := keysO l) HK.out HM.out (by omega)) ?_
    rintro e w7 ⟨rfl, b_⟩
    replace HK := Lib.hid ((HK.out.below b_ (Nat.le_refl _)).more b_.size)
    replace HM := Lib.hid ((HM.out.below b_ (Nat.le_refl _)).more b_.size)
    replace HF := Lib.hid (HF.out.below b_)
    replace HB := Lib.hid (HB.out.trans (b_.mono HB.out.size))
    clear b_
    go_wp2
    go_ret
    exact ⟨rfl, HB.out⟩

end Go.Proofs.Ytjjalagmlbaafaa.W
