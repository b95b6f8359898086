/-
  Two more laws of keys as walks over the contracts of the program's functions: beginnings, and sorting two lists either way.
-/
import Derived.Test.YtipkhpijanhfiaaL2
import Derived.Lib.Strings
namespace Go.Proofs.Ytipkhpijanhfiaa.W
open Go.RowKit K

theorem beg_iff (k h : ByteArray) : begB k h = true ↔ h.size ≤ k.size ∧ k.data.toList.take h.size = h.data.toList := by
  unfold begB
  rw [Lib.extract_toList, ByteArray.toList_eq]
  simp
theorem beg_empty (k : ByteArray) : begB k ⟨#[]⟩ = true := by
  rw [beg_iff]; exact ⟨Nat.zero_le _, rfl⟩
theorem beg_self (k : ByteArray) : begB k k = true := by
  rw [beg_iff]; exact ⟨Nat.le_refl _, List.take_of_length_le (by rw [len_l]; exact Nat.le_refl _)⟩
theorem beg_append (h k : ByteArray) : begB (h ++ k) h = true := by
  rw [beg_iff]
  refine ⟨by rw [ByteArray.size_append]; omega, ?_⟩
  have : (h ++ k).data.toList = h.data.toList ++ k.data.toList := by simp
  rw [this, List.take_append_of_le_length (by rw [len_l]; exact Nat.le_refl _), List.take_of_length_le (by rw [len_l]; exact Nat.le_refl _)]
theorem less_append : ∀ (a t : List UInt8), (Op.bytesLess a (a ++ t) || a == a ++ t) = true
  | [], [] => by simp
  | [], _ :: _ => by simp [Op.bytesLess]
  | x :: a, t => by
    have ih := less_append a t
    rw [List.cons_append, Op.bytesLess]
    simp only [Bool.or_eq_true, beq_iff_eq] at ih
    rcases ih with ih | ih
    · simp [ih]
    · rw [← ih]; simp
theorem beg_le (k h : ByteArray) (hb : begB k h = true) : (Op.bytesLess h.toList k.toList || h.toList == k.toList) = true ∧ h.size ≤ k.size := by
  rw [beg_iff] at hb
  refine ⟨?_, hb.1⟩
  rw [ByteArray.toList_eq, ByteArray.toList_eq]
  have := less_append h.data.toList (k.data.toList.drop h.size)
  rw [← hb.2, List.take_append_drop] at this
  rw [← hb.2]; exact this

set_option maxHeartbeats 1000000 in
theorem lawKeyBegins (H : ImplKeys) (w : World) (A : Option Addr) (n c : Nat) (hb : Bytes w w.heap.size A n) (hnc : n ≤ c) (hc : c ≤ maxLen) :
    Calls Try.prog 5 #[.slice A n c] w fun e w' => e = .returned (.bool true) ∧ Below w.heap.size w w' := by
  by_cases hbig : (1048576 : Int) < (n : Int)
  · clear hb
    go_enter Try.func5, Try.ntmps5
    go_wp2
    go_ret
    exact ⟨rfl, Below.refl _ _⟩
  · go_enter Try.func5, Try.ntmps5
    go_wp2_with fail
    go_at_call 22
    refine (drawKeyBegins w A n c hb hnc hc).mono ?_
    rintro e w1 ⟨k, h, hk, hh, rfl, hb1⟩
    have HB1 := Lib.hid hb1
    have hkm : k.size ≤ maxLen := by unfold maxLen; omega
    have hhm : h.size ≤ maxLen := by unfold maxLen; omega
    clear hb hb1 hnc hc hbig
    go_wp2_with fail
    go_at_call 23
    refine (H.beg k h w1 hkm hhm).mono ?_
    rintro e w2 ⟨rfl, hb2⟩
    have HB2 := Lib.hid (HB1.out.trans (hb2.mono HB1.out.size))
    clear hb2
    go_wp2_with fail
    go_at_call 24
    refine (begS k h w2).mono ?_
    rintro e w' ⟨rfl, rfl⟩
    go_wp2_with fail
    go_at_call 23
    refine (H.beg k ⟨#[]⟩ w2 hkm (by show 0 ≤ maxLen; omega)).mono ?_
    rw [beg_empty]
    rintro e w3 ⟨rfl, hb3⟩
    have HB3 := Lib.hid (HB2.out.trans (hb3.mono HB2.out.size))
    clear hb3
    go_wp2_with fail
    go_at_call 23
    refine (H.beg k k w3 hkm hkm).mono ?_
    rw [beg_self]
    rintro e w4 ⟨rfl, hb4⟩
    have HB4 := Lib.hid (HB3.out.trans (hb4.mono HB3.out.size))
    clear hb4
    go_wp2_with fail
    go_at_call 23
    refine (H.beg (h ++ k) h w4 (by rw [ByteArray.size_append]; unfold maxLen; omega) hhm).mono ?_
    rw [beg_append]
    rintro e w5 ⟨rfl, hb5⟩
    have HB5 := Lib.hid (HB4.out.trans (hb5.mono HB4.out.size))
    clear hb5
    rcases Bool.eq_false_or_eq_true (begB k h) with hbg | hbg
    · have hle := beg_le k h hbg
      have hle1 := hle.1
      have hle2 : (h.size : Int) ≤ (k.size : Int) := by have := hle.2; omega
      clear hle
      go_wp2
      go_ret
      exact ⟨rfl, HB5.out⟩
    · go_wp2
      go_ret
      exact ⟨rfl, HB5.out⟩

theorem Bytes.up {w : World} {B B' n : Nat} {A : Option Addr} (h : Bytes w B A n) (hB : B ≤ B') : Bytes w B' A n := fun i hi => by
  obtain ⟨b, off, z, hA, hb, hz, hc⟩ := h i hi
  exact ⟨b, off, z, hA, by omega, hz, hc⟩
theorem Fit.nil : Fit [] := fun s hs => by cases hs
theorem Strs.size_is {w : World} {B n m : Nat} {A : Option Addr} {l : List ByteArray} (h : Strs w B A n l) (e : n = m) : Strs w B A m l := e ▸ h
/-- a new slice, joined of two that can be read: what the program's sort makes of it -/
theorem Own.fit2 {a b : List ByteArray} (ha : Fit a) (hb : Fit b) : Fit (a ++ b) := by
  intro s hs
  rcases List.mem_append.mp hs with h | h
  · exact ha s h
  · exact hb s h

set_option maxHeartbeats 2000000 in
theorem lawKeysBoth (H : ImplKeys) (w : World) (A A2 : Option Addr) (n c n2 c2 : Nat) (hb : Bytes w w.heap.size A n) (hnc : n ≤ c) (hc : c ≤ maxLen) (hbb : Bytes w w.heap.size A2 n2) (hnc2 : n2 ≤ c2) (hc2 : c2 ≤ maxLen) :
    Calls Try.prog 7 #[.slice A n c, .slice A2 n2 c2] w fun e w' => e = .returned (.bool true) ∧ Below w.heap.size w w' := by
  by_cases hbig : (1048576 : Int) < (n : Int)
  · clear hb hbb
    go_enter Try.func7, Try.ntmps7
    go_wp2
    go_ret
    exact ⟨rfl, Below.refl _ _⟩
  · by_cases hbig2 : (1048576 : Int) < (n2 : Int)
    · clear hb hbb
      go_enter Try.func7, Try.ntmps7
      go_wp2
      go_ret
      exact ⟨rfl, Below.refl _ _⟩
    · have HBB := Lib.hid hbb
      clear hbb
      go_enter Try.func7, Try.ntmps7
      go_wp2_with fail
      go_at_call 18
      refine (drawKeysSort w A n c hb hnc hc).mono ?_
      rintro e w1 ⟨A1, c1, a, hla, hsha, rfl, ho1, hb1⟩
      have OA1 := Lib.hid ho1
      have B1 := Lib.hid hb1
      have FA := Lib.hid hsha.fit
      have hsz1 := hb1.size
      clear hb ho1 hb1 hsha hnc hc
      go_wp2_with fail
      go_at_call 18
      refine (drawKeysSort w1 A2 n2 c2 ((HBB.out.keep fun b o h => B1.out.cell (p := ⟨b, o, none⟩) h).up hsz1) hnc2 hc2).mono ?_
      rintro e w2 ⟨A3, c3, b, hlb, hshb, rfl, ho2, hb2⟩
      have OA2 := Lib.hid (OA1.out.below hb2)
      have OB2 := Lib.hid (ho2.base hsz1)
      have B2 := Lib.hid (B1.out.trans (hb2.mono hsz1))
      have FB := Lib.hid hshb.fit
      have hsz2 := B2.out.size
      clear ho2 hb2 hshb hnc2 hc2 HBB OA1 B1
      have SA := Lib.hid OA2.out.strs.1
      have SB := Lib.hid OB2.out.strs.1
      have hca := OA2.out.strs.2.1
      have hma := OA2.out.strs.2.2
      have hcb := OB2.out.strs.2.1
      have hmb := OB2.out.strs.2.2
      clear OA2 OB2
      have E5 := Lib.hid (Own.empty w2 w2.heap.size (Nat.le_refl _))
      have G5 := Lib.hid ((Below.refl w2.heap.size w2).alloc (Nat.le_refl _) (.cells #[] 9))
      go_wp2_with (first | (at_builtin; refine app_own rfl (.tmp 21) (.tmp 22) rfl _ w2.heap.size _ [] rfl E5.out w2.heap.size a.length c1 A1 a rfl (SA.out.below G5.out (Nat.le_refl _)) (by simp; omega) (by simp) ?_; intro va5 wa5 oa5 ga5; have OA5 := Lib.hid oa5; have BA5 := Lib.hid (Below.app G5.out E5.out (Nat.le_refl _) ga5 (by simp)); clear oa5 ga5) | (at_builtin; refine app_own rfl (.tmp 23) (.tmp 24) rfl _ w2.heap.size _ ([] ++ a) rfl OA5.out w2.heap.size b.length c3 A3 b rfl (SB.out.below BA5.out (Nat.le_refl _)) (by simp; omega) BA5.out.size ?_; intro vb5 wb5 ob5 gb5; have OB5 := Lib.hid ob5; have BB5 := Lib.hid (Below.app BA5.out OA5.out (Nat.le_refl _) gb5 BA5.out.size); clear ob5 gb5; obtain ⟨Ab5, cb5, hvb5, hcb5, hmb5, sb5⟩ := OB5.out.parts; subst hvb5; have SB5 := Lib.hid sb5; clear sb5))
      go_at_call 17
      (with_reducible refine (H.sort wb5 (a.length + b.length) cb5 Ab5 ([] ++ a ++ b) (SB5.out.size_is (by simp)) (by simpa using hcb5) hmb5 (by omega) (Own.fit2 (Own.fit2 Fit.nil FA.out) FB.out)).mono ?_)
      rw [List.nil_append]
      rintro e w5 ⟨v5, rfl, o5, b5⟩
      have B5 := Lib.hid (BB5.out.trans (b5.mono BB5.out.size))
      obtain ⟨AX, cX, hv5, hcX, hmX, sX⟩ := o5.parts
      subst hv5
      have SX := Lib.hid sX
      have SA5 := Lib.hid ((SA.out.below B5.out (Nat.le_refl _)).more B5.out.size)
      have SBB5 := Lib.hid ((SB.out.below B5.out (Nat.le_refl _)).more B5.out.size)
      have BW5 := Lib.hid (B2.out.trans (B5.out.mono hsz2))
      have hsz5 := BW5.out.size
      clear o5 b5 sX SA SB E5 G5 OA5 BA5 OB5 BB5 SB5 B5 B2
      have E6 := Lib.hid (Own.empty w5 w5.heap.size (Nat.le_refl _))
      have G6 := Lib.hid ((Below.refl w5.heap.size w5).alloc (Nat.le_refl _) (.cells #[] 9))
      go_wp2_with (first | (at_builtin; refine app_own rfl (.tmp 27) (.tmp 28) rfl _ w5.heap.size _ [] rfl E6.out w5.heap.size b.length c3 A3 b rfl (SBB5.out.below G6.out (Nat.le_refl _)) (by simp; omega) (by simp) ?_; intro va6 wa6 oa6 ga6; have OA6 := Lib.hid oa6; have BA6 := Lib.hid (Below.app G6.out E6.out (Nat.le_refl _) ga6 (by simp)); clear oa6 ga6) | (at_builtin; refine app_own rfl (.tmp 29) (.tmp 30) rfl _ w5.heap.size _ ([] ++ b) rfl OA6.out w5.heap.size a.length c1 A1 a rfl (SA5.out.below BA6.out (Nat.le_refl _)) (by simp; omega) BA6.out.size ?_; intro vb6 wb6 ob6 gb6; have OB6 := Lib.hid ob6; have BB6 := Lib.hid (Below.app BA6.out OA6.out (Nat.le_refl _) gb6 BA6.out.size); clear ob6 gb6; obtain ⟨Ab6, cb6, hvb6, hcb6, hmb6, sb6⟩ := OB6.out.parts; subst hvb6; have SB6 := Lib.hid sb6; clear sb6))
      go_at_call 17
      (with_reducible refine (H.sort wb6 (b.length + a.length) cb6 Ab6 ([] ++ b ++ a) (SB6.out.size_is (by simp)) (by simpa using hcb6) hmb6 (by omega) (Own.fit2 (Own.fit2 Fit.nil FB.out) FA.out)).mono ?_)
      rw [List.nil_append, sort_comm b a]
      rintro e w6 ⟨v6, rfl, o6, b6⟩
      have B6 := Lib.hid (BB6.out.trans (b6.mono BB6.out.size))
      obtain ⟨AY, cY, hv6, hcY, hmY, sY⟩ := o6.parts
      subst hv6
      have SY := Lib.hid sY
      have SA6 := Lib.hid ((SA5.out.below B6.out (Nat.le_refl _)).more B6.out.size)
      have SBB6 := Lib.hid ((SBB5.out.below B6.out (Nat.le_refl _)).more B6.out.size)
      have SX6 := Lib.hid ((SX.out.below B6.out (Nat.le_refl _)).more B6.out.size)
      have BW6 := Lib.hid (BW5.out.trans (B6.out.mono hsz5))
      have hsz6 := BW6.out.size
      clear o6 b6 sY SA5 SBB5 SX E6 G6 OA6 BA6 OB6 BB6 SB6 B6 BW5
      have hlx := sort_len (a ++ b)
      rw [List.length_append] at hlx
      have hlsa := sort_len a
      have hlsb := sort_len b
      go_wp2_with fail
      go_at_call 17
      (with_reducible refine (H.sort w6 a.length c1 A1 a SA6.out hca hma (by omega) FA.out).mono ?_)
      rintro e w7 ⟨v7, rfl, o7, b7⟩
      obtain ⟨A7, c7, hv7, hc7, hm7, s7⟩ := o7.parts
      subst hv7
      have S7 := Lib.hid s7
      have SA7 := Lib.hid ((SA6.out.below b7 (Nat.le_refl _)).more b7.size)
      have SBB7 := Lib.hid ((SBB6.out.below b7 (Nat.le_refl _)).more b7.size)
      have SX7 := Lib.hid ((SX6.out.below b7 (Nat.le_refl _)).more b7.size)
      have SY7 := Lib.hid ((SY.out.below b7 (Nat.le_refl _)).more b7.size)
      have BW7 := Lib.hid (BW6.out.trans (b7.mono hsz6))
      have hsz7 := BW7.out.size
      clear o7 b7 s7 SA6 SBB6 SX6 SY BW6
      go_wp2_with fail
      go_at_call 19
      (with_reducible refine (sortS w7 w7.heap.size a.length c1 A1 a SA7.out (Nat.le_refl _) (by omega) FA.out).mono ?_)
      rintro e w8 ⟨v8, rfl, o8, b8⟩
      obtain ⟨A8, c8, hv8, hc8, hm8, s8⟩ := o8.parts
      subst hv8
      have S8 := Lib.hid s8
      have S78 := Lib.hid ((S7.out.below b8 (Nat.le_refl _)).more b8.size)
      have SA8 := Lib.hid ((SA7.out.below b8 (Nat.le_refl _)).more b8.size)
      have SBB8 := Lib.hid ((SBB7.out.below b8 (Nat.le_refl _)).more b8.size)
      have SX8 := Lib.hid ((SX7.out.below b8 (Nat.le_refl _)).more b8.size)
      have SY8 := Lib.hid ((SY7.out.below b8 (Nat.le_refl _)).more b8.size)
      have BW8 := Lib.hid (BW7.out.trans (b8.mono hsz7))
      have hsz8 := BW8.out.size
      clear o8 b8 s8 SA7 SBB7 SX7 SY7 S7 BW7
      go_wp2_with fail
      go_at_call 16
      (with_reducible refine (samesL w8 w8.heap.size _ c7 _ c8 A7 A8 (sort a) (sort a) S78.out S8.out (by omega) (by omega)).mono ?_)
      rw [sameL_self]
      rintro e w9 ⟨rfl, m9⟩
      have b9 := m9.below w8.heap.size
      have SA9 := Lib.hid ((SA8.out.below b9 (Nat.le_refl _)).more b9.size)
      have SBB9 := Lib.hid ((SBB8.out.below b9 (Nat.le_refl _)).more b9.size)
      have SX9 := Lib.hid ((SX8.out.below b9 (Nat.le_refl _)).more b9.size)
      have SY9 := Lib.hid ((SY8.out.below b9 (Nat.le_refl _)).more b9.size)
      have BW9 := Lib.hid (BW8.out.trans (b9.mono hsz8))
      have hsz9 := BW9.out.size
      clear m9 b9 SA8 SBB8 SX8 SY8 S78 S8 BW8
      go_wp2_with fail
      go_at_call 16
      (with_reducible refine (samesL w9 w9.heap.size _ cX _ cY AX AY (sort (a ++ b)) (sort (a ++ b)) SX9.out SY9.out (by omega) (by omega)).mono ?_)
      rw [sameL_self]
      rintro e wa ⟨rfl, ma⟩
      have ba := ma.below w9.heap.size
      have SAa := Lib.hid ((SA9.out.below ba (Nat.le_refl _)).more ba.size)
      have SBBa := Lib.hid ((SBB9.out.below ba (Nat.le_refl _)).more ba.size)
      have SXa := Lib.hid ((SX9.out.below ba (Nat.le_refl _)).more ba.size)
      have BWa := Lib.hid (BW9.out.trans (ba.mono hsz9))
      have hsza := BWa.out.size
      clear ma ba SA9 SBB9 SX9 SY9 BW9
      go_wp2_with fail
      go_at_call 17
      (with_reducible refine (H.sort wa a.length c1 A1 a SAa.out hca hma (by omega) FA.out).mono ?_)
      rintro e wb ⟨vb, rfl, ob, bb⟩
      obtain ⟨Ab, cb, hvb, hcb', hmb', sb⟩ := ob.parts
      subst hvb
      have OPB := Lib.hid ob
      have SBBb := Lib.hid ((SBBa.out.below bb (Nat.le_refl _)).more bb.size)
      have SXb := Lib.hid (SXa.out.below bb (Nat.le_refl _))
      have BWb := Lib.hid (BWa.out.trans (bb.mono hsza))
      have hszab := bb.size
      have hszb := BWb.out.size
      clear ob bb sb SAa SBBa SXa BWa
      go_wp2_with fail
      go_at_call 17
      (with_reducible refine (H.sort wb b.length c3 A3 b SBBb.out hcb hmb (by omega) FB.out).mono ?_)
      rintro e wc ⟨vc, rfl, oc, bc⟩
      obtain ⟨Ac, cc, hvc, hcc', hmc', sc⟩ := oc.parts
      subst hvc
      have SC := Lib.hid sc
      have OPC := Lib.hid (OPB.out.below bc)
      have SXc := Lib.hid (SXb.out.below bc hszab)
      have BWc := Lib.hid (BWb.out.trans (bc.mono hszb))
      have hszc := BWc.out.size
      have hszac : wa.heap.size ≤ wc.heap.size := by have := bc.size; omega
      clear oc bc sc SBBb SXb BWb OPB
      go_wp2_with (at_builtin; refine app_own_g (by rfl) (.tmp 45) (.tmp 47) rfl _ wa.heap.size _ (sort a) rfl OPC.out wc.heap.size (sort b).length cc Ac (sort b) rfl SC.out (by omega) hszac ?_; intro vd wd od gd; have OD := Lib.hid od; have BD := Lib.hid (Below.app (B := wa.heap.size) (Below.refl _ _) OPC.out (Nat.le_refl _) gd hszac); have BDw := Lib.hid (Below.app BWc.out OPC.out hsza gd hszc); clear od gd; obtain ⟨Ad, cd, hvd, hcd, hmd, sd⟩ := OD.out.parts; subst hvd; have SD := Lib.hid sd; clear sd)
      go_at_call 17
      (with_reducible refine (H.sort wd ((sort a).length + (sort b).length) cd Ad (sort a ++ sort b) (SD.out.size_is (by simp)) (by simpa using hcd) hmd (by omega) (Own.fit2 FA.out.sort FB.out.sort)).mono ?_)
      rw [sort_both]
      rintro e we ⟨ve, rfl, oe, be⟩
      obtain ⟨Ae, ce, hve, hce', hme', se⟩ := oe.parts
      subst hve
      have SE := Lib.hid se
      have SXe := Lib.hid (((SXc.out.below BD.out (Nat.le_refl _)).below be (Nat.le_trans hszac BD.out.size)).more (Nat.le_trans hszac (Nat.le_trans BD.out.size be.size)))
      have BWe := Lib.hid (BDw.out.trans (be.mono BDw.out.size))
      clear oe be se SXc BWc OPC SC OD BD BDw SD
      go_wp2_with fail
      go_at_call 16
      (with_reducible refine (samesL we we.heap.size _ ce _ cX Ae AX (sort (a ++ b)) (sort (a ++ b)) SE.out SXe.out (by omega) (by omega)).mono ?_)
      rw [sameL_self]
      rintro e wf ⟨rfl, mf⟩
      have BWf := Lib.hid (BWe.out.trans ((mf.below we.heap.size).mono BWe.out.size))
      clear mf
      go_wp2
      go_ret
      exact ⟨rfl, BWf.out⟩

end Go.Proofs.Ytipkhpijanhfiaa.W
