/-
  Stronger contracts of the functions that draw keys and key lists: what is drawn is a key, and a list of keys.
-/
import Derived.Test.YtakadkhgcjndmaaJ3
import Derived.Test.YtakadkhgcjndmaaJ4
namespace Go.Proofs.Ytakadkhgcjndmaa.W
open Go.RowKit K

/-- a string with P is drawn, in at most d draws -/
def StrP (P : ByteArray → Prop) (d g p n c : Nat) (A : Option Addr) (w : World) (e : Ending) (w' : World) : Prop :=
  ∃ (s : ByteArray) (p' : Nat), P s ∧ p' ≤ p + d ∧ e = .returned (.string s) ∧ Rd w' g p' A n c ∧ w.grownBy w' (some g)
/-- it is a key -/
def isK (s : ByteArray) : Prop := keyB s = true
theorem isK_size {s : ByteArray} (h : isK s) : s.size ≤ 5 := by unfold isK keyB at h; simp only [Bool.and_eq_true, decide_eq_true_eq] at h; exact h.1
theorem isK_nil : isK ⟨#[]⟩ := rfl
/-- one letter -/
def oneL (s : ByteArray) : Prop := s.size ≤ 1 ∧ s.data.toList.all letterB = true
theorem isK_app {s t : ByteArray} (h : isK s) (ht : oneL t) (h5 : s.size < 5) : isK (s ++ t) := by
  unfold isK keyB at h ⊢
  simp only [Bool.and_eq_true, decide_eq_true_eq] at h ⊢
  have e : (s ++ t).data.toList = s.data.toList ++ t.data.toList := by simp
  refine ⟨by rw [ByteArray.size_append]; have := ht.1; omega, ?_⟩
  rw [e, List.all_append, h.2, ht.2]; rfl
theorem isK_ext {s : ByteArray} (h : isK s) (U : Nat) : isK (s.extract 0 U) := by
  unfold isK keyB at h ⊢
  simp only [Bool.and_eq_true, decide_eq_true_eq] at h ⊢
  have e : (s.extract 0 U).data.toList = s.data.toList.take U := by
    rw [← ByteArray.toList_eq, ext_l, ByteArray.toList_eq]; simp
  refine ⟨?_, ?_⟩
  · have h1 : (s.extract 0 U).size = (s.extract 0 U).data.toList.length := rfl
    have h2 : s.size = s.data.toList.length := rfl
    rw [h1, e, List.length_take]; omega
  · rw [e, List.all_eq_true]
    intro x hx
    exact (List.all_eq_true.mp h.2) x (List.mem_of_mem_take hx)

/-- at the loop's head: so many letters are to come -/
def LoopKK (w : World) (g p n c : Nat) (A : Option Addr) (out nv : Value) (wr : World) : Prop :=
  ∃ (s : ByteArray) (k q : Nat), out = .string s ∧ nv = .int .i64 (k : Nat) ∧ isK s ∧ s.size + k ≤ 5 ∧ q + k ≤ p + 6 ∧ Rd wr g q A n c ∧ w.grownBy wr (some g)

set_option maxHeartbeats 1000000 in
theorem keyK (w : World) (g p n c : Nat) (A : Option Addr) (hr : Rd w g p A n c) (hp : p ≤ 950000) :
    Calls Try.prog 97 #[.pointer (some ⟨g, 0, none⟩)] w (StrP isK 10 g p n c A w) := by
  have hp1 : p ≤ 1000000 := by omega
  go_enter Try.func97, Try.ntmps97
  go_wp2_with fail
  go_at_call 70
  refine (pick w g p n c A 6 hr hp1 (by omega)).mono ?_
  rintro e w1 ⟨x, rfl, hx0, hx1, hr1, hg1⟩
  obtain ⟨X, rfl⟩ := Int.eq_ofNat_of_zero_le hx0
  have hX : X < 6 := by omega
  have HR1 := Lib.hid hr1
  have HG1 := Lib.hid hg1
  clear hr hx1 hr1 hg1
  go_wp2_with fail
  go_loopw [3, 4] (fun out nv wr => LoopKK w g p n c A out nv wr) (fun _ nv _ => (intOf nv).toNat)
  case atStart => exact ⟨_, X, p + 1, rfl, rfl, isK_nil, by show 0 + X ≤ 5; omega, by omega, HR1.out, HG1.out⟩
  case round =>
    obtain ⟨s, k, q, rfl, rfl, hsk, hs, hq, hr2, hg2⟩ := hrel
    have HR2 := Lib.hid hr2
    have HG2 := Lib.hid hg2
    have HSK := Lib.hid hsk
    have hglt : g < wr.heap.size := (Array.getElem?_eq_some_iff.1 hr2.blk).1
    clear hr2 hg2 HR1 HG1 hsk
    by_cases hk : 0 < k
    · go_wp2_with fail
      go_at_call 88
      refine (ofR oneL _ g q n c wr.heap.size 5 A (HR2.out.alloc _) (by omega) (by omega) (by omega) (by omega) (lits_at wr [⟨#[97]⟩, ⟨#[98]⟩, ⟨#[97]⟩, ⟨#[99]⟩, ⟨#[100]⟩] _ oneL (by unfold oneL; decide)) (by simp)).mono ?_
      rintro e w2 ⟨t, ht, rfl, hr3, hg3⟩
      have HG3 := Lib.hid (HG2.out.trans ((World.grownBy_alloc _ _ _).trans hg3))
      have HR3 := Lib.hid hr3
      have HT := Lib.hid ht
      have ht1 := ht.1
      clear hr3 hg3 ht
      go_wp2
      go_roundw
      case rel => exact ⟨s ++ t, k - 1, q + 1, rfl, by go_num, isK_app HSK.out HT.out (by omega), by have := HT.out.1; simp only [ByteArray.size_append]; omega, by omega, HR3.out, HG3.out⟩
      case measure => simp [intOf]; omega
    · have hk0 : k = 0 := by omega
      subst hk0
      go_wp2
      go_ret
      exact ⟨s, q, HSK.out, by omega, rfl, HR2.out, HG2.out⟩

/-- all are keys -/
def allK (l : List ByteArray) : Prop := ∀ s ∈ l, isK s
theorem allK.get {l : List ByteArray} (h : allK l) {k : Nat} (hk : k < l.length) : isK l[k] := h _ (List.getElem_mem hk)
theorem allK.short {l : List ByteArray} (h : allK l) : Short l := fun s hs => by have := isK_size (h s hs); omega
theorem allK.nil : allK [] := fun s hs => by cases hs
theorem allK.put {l : List ByteArray} {s : ByteArray} (h : allK l) (hs : isK s) : allK (put l s) := by
  intro x hx
  rcases mem_put.mp hx with rfl | hx
  · exact hs
  · exact h x hx

set_option maxHeartbeats 1000000 in
theorem nearK (w : World) (g p n c : Nat) (A : Option Addr) (B m cc : Nat) (V : Option Addr) (l : List ByteArray) (hr : Rd w g p A n c) (hp : p ≤ 900000) (hs : Strs w B V m l) (hB : B ≤ w.heap.size)
    (hne : ∀ b o, V = some ⟨b, o, none⟩ → b ≠ g) (hsh : allK l) (hm : m ≤ 1000000) :
    Calls Try.prog 92 #[.pointer (some ⟨g, 0, none⟩), .slice V m cc] w (StrP isK 20 g p n c A w) := by
  have hlen := hs.len
  subst hlen
  by_cases h0 : l.length = 0
  · have h0' : ((l.length : Int) == 0) = true := by simp [h0]
    clear h0 hne hs
    go_enter Try.func92, Try.ntmps92
    go_wp2_with fail
    go_at_call 97
    refine (keyK w g p n c A hr (by omega)).mono ?_
    rintro e w1 ⟨s, p', h1, h2, rfl, h3, h4⟩
    have H1 := Lib.hid h1
    clear h1
    go_wp2
    go_ret
    exact ⟨s, p', H1.out, by omega, rfl, h3, h4⟩
  · have h0' : ((l.length : Int) == 0) = false := by rw [beq_eq_false_iff_ne]; omega
    have hpos : 0 < l.length := by omega
    have HS := Lib.hid hs
    have HNE := Lib.hid hne
    have HSH := Lib.hid hsh
    clear h0 hs hne hsh
    go_enter Try.func92, Try.ntmps92
    go_wp2_with fail
    go_at_call 70
    refine (pick w g p n c A 4 hr (by omega) (by omega)).mono ?_
    rintro e w1 ⟨x, rfl, hx0, hx1, hr1, hg1⟩
    obtain ⟨X, rfl⟩ := Int.eq_ofNat_of_zero_le hx0
    have HR1 := Lib.hid hr1
    have HG1 := Lib.hid hg1
    clear hx0 hx1 hr1 hg1 hr
    by_cases hX : X = 0
    · subst hX
      go_wp2_with fail
      go_at_call 97
      refine (keyK w1 g (p + 1) n c A HR1.out (by omega)).mono ?_
      rintro e w2 ⟨s, p', h1, h2, rfl, h3, h4⟩
      have H4 := Lib.hid (HG1.out.trans h4)
      have H3 := Lib.hid h3
      have H1 := Lib.hid h1
      clear h3 h4 h1
      go_wp2
      go_ret
      exact ⟨s, p', H1.out, by omega, rfl, H3.out, H4.out⟩
    · have hX' : ((X : Int) == 0) = false := by simp; omega
      go_wp2_with fail
      go_at_call 70
      refine (pick w1 g (p + 1) n c A (l.length : Int) HR1.out (by omega) (by omega)).mono ?_
      rintro e w2 ⟨y, rfl, hy0, hy1, hr2, hg2⟩
      obtain ⟨Y, rfl⟩ := Int.eq_ofNat_of_zero_le hy0
      have hY : Y < l.length := by omega
      have HG2 := Lib.hid (HG1.out.trans hg2)
      have HR2 := Lib.hid hr2
      clear hy0 hy1 hr2 hg2
      obtain ⟨b, off, hV, hb, hc⟩ := (HS.out.grown HG2.out hB HNE.out).cell Y hY
      subst hV
      have hk6 := HSH.out.get hY
      obtain ⟨kk, hkk⟩ : ∃ kk, kk = l[Y] := ⟨_, rfl⟩
      rw [← hkk] at hc hk6
      have hks := isK_size hk6
      have HK6 := Lib.hid hk6
      clear hkk hk6
      go_wp2_with fail
      go_at_call 70
      refine (pick w2 g (p + 1 + 1) n c A 4 HR2.out (by omega) (by omega)).mono ?_
      rintro e w3 ⟨z, rfl, hz0, hz1, hr3, hg3⟩
      obtain ⟨Z, rfl⟩ := Int.eq_ofNat_of_zero_le hz0
      have HG3 := Lib.hid (HG2.out.trans hg3)
      have HR3 := Lib.hid hr3
      clear hz0 hz1 hr3 hg3 hc
      by_cases hZ0 : Z = 0
      · subst hZ0
        go_wp2_with fail
        go_at_call 70
        refine (pick w3 g (p + 1 + 1 + 1) n c A ((kk.size : Int) + 1) HR3.out (by omega) (by omega)).mono ?_
        rintro e w4 ⟨u, rfl, hu0, hu1, hr4, hg4⟩
        obtain ⟨U, rfl⟩ := Int.eq_ofNat_of_zero_le hu0
        have hU : U ≤ kk.size := by omega
        have HG4 := Lib.hid (HG3.out.trans hg4)
        have HR4 := Lib.hid hr4
        clear hu0 hu1 hr4 hg4
        go_wp2
        go_ret
        exact ⟨kk.extract 0 U, _, isK_ext HK6.out U, by omega, rfl, HR4.out, HG4.out⟩
      · have hZ0' : ((Z : Int) == 0) = false := by simp; omega
        by_cases hZ1 : Z = 1
        · subst hZ1
          by_cases hk5 : kk.size < 5
          · have hk5' : (kk.size : Int) < 5 := by omega
            have hglt : g < w3.heap.size := (Array.getElem?_eq_some_iff.1 HR3.out.blk).1
            go_wp2_with fail
            go_at_call 88
            refine (ofR oneL _ g (p + 1 + 1 + 1) n c w3.heap.size 3 A (HR3.out.alloc _) (by omega) (by omega) (by omega) (by omega) (lits_at w3 [⟨#[97]⟩, ⟨#[98]⟩, ⟨#[100]⟩] _ oneL (by unfold oneL; decide)) (by simp)).mono ?_
            rintro e w4 ⟨t, ht, rfl, hr4, hg4⟩
            have HG4 := Lib.hid (HG3.out.trans ((World.grownBy_alloc _ _ _).trans hg4))
            have HR4 := Lib.hid hr4
            have HT := Lib.hid ht
            have ht1 := ht.1
            clear hr4 hg4 ht
            go_wp2
            go_ret
            exact ⟨kk ++ t, _, isK_app HK6.out HT.out hk5, by omega, rfl, HR4.out, HG4.out⟩
          · have hk5' : ¬ (kk.size : Int) < 5 := by omega
            go_wp2
            go_ret
            exact ⟨kk, _, HK6.out, by omega, rfl, HR3.out, HG3.out⟩
        · have hZ1' : ((Z : Int) == 1) = false := by simp; omega
          go_wp2
          go_ret
          exact ⟨kk, _, HK6.out, by omega, rfl, HR3.out, HG3.out⟩

/-- a slice of keys is drawn -/
def ListK (L d base g p n c : Nat) (A : Option Addr) (w : World) (e : Ending) (w' : World) : Prop :=
  ∃ (v : Value) (l : List ByteArray) (p' : Nat), l.length ≤ L ∧ allK l ∧ p' ≤ p + d ∧ e = .returned v ∧ Own w' base v l ∧ Rd w' g p' A n c ∧ w.grownBy w' (some g)
/-- at the loop's head: so many keys are to come -/
def LoopLK (w : World) (M g p n c : Nat) (A : Option Addr) (keys nv : Value) (wr : World) : Prop :=
  ∃ (l : List ByteArray) (k q : Nat), nv = .int .i64 (k : Nat) ∧ l.length + k ≤ M ∧ k ≤ M ∧ q + 20 * k ≤ p + 1 + 20 * M ∧ allK l ∧ Own wr w.heap.size keys l ∧ Rd wr g q A n c ∧ w.grownBy wr (some g)

set_option maxHeartbeats 1000000 in
theorem keysK (w : World) (g p n c M : Nat) (A : Option Addr) (hr : Rd w g p A n c) (hp : p ≤ 800000) (hM : M ≤ 100) :
    Calls Try.prog 69 #[.pointer (some ⟨g, 0, none⟩), .int .i64 (M : Nat)] w (ListK M 2100 w.heap.size g p n c A w) := by
  have hglt : g < w.heap.size := (Array.getElem?_eq_some_iff.1 hr.blk).1
  have HR := Lib.hid (hr.alloc (.cells #[] 9))
  clear hr
  go_enter Try.func69, Try.ntmps69
  go_wp2_with fail
  go_at_call 70
  refine (pick _ g p n c A ((M : Int) + 1) HR.out (by omega) (by omega)).mono ?_
  rintro e w1 ⟨x, rfl, hx0, hx1, hr1, hg1⟩
  obtain ⟨X, rfl⟩ := Int.eq_ofNat_of_zero_le hx0
  have hX : X ≤ M := by omega
  have HR1 := Lib.hid hr1
  have HO1 := Lib.hid ((Own.empty w w.heap.size (Nat.le_refl _)).grown hg1 hglt)
  have HG1 := Lib.hid ((World.grownBy_alloc w (.cells #[] 9) (some g)).trans hg1)
  clear hx0 hx1 hr1 hg1
  go_wp2_with fail
  go_loopw [5, 6] (fun keys nv wr => LoopLK w M g p n c A keys nv wr) (fun _ nv _ => (intOf nv).toNat)
  case atStart => exact ⟨[], X, p + 1, rfl, by simp; omega, hX, by omega, allK.nil, HO1.out, HR1.out, HG1.out⟩
  case round =>
    obtain ⟨l, k, q, rfl, hl, hkM, hq, hsh, ho, hr2, hg2⟩ := hrel
    have HSH := Lib.hid hsh
    have HR2 := Lib.hid hr2
    have HG2 := Lib.hid hg2
    have HO := Lib.hid ho
    have hsz := hg2.size
    clear hsh ho hr2 hg2 HR1 HO1 HG1
    by_cases hk : 0 < k
    · obtain ⟨V, cc, hv, hc1, hm1, hs1⟩ := HO.out.parts
      subst hv
      go_wp2_with fail
      go_at_call 92
      refine (nearK wr g q n c A wr.heap.size l.length cc V l HR2.out (by omega) hs1 (Nat.le_refl _) (HO.out.far hglt) HSH.out (by omega)).mono ?_
      rintro e w2 ⟨s, q2, hs6, hq2, rfl, hr3, hg3⟩
      have HO3 := Lib.hid (HO.out.grown hg3 hglt)
      have HS3 := Lib.hid (hs1.grown hg3 (Nat.le_refl _) (HO.out.far hglt))
      have HR3 := Lib.hid hr3
      have HG3 := Lib.hid (HG2.out.trans hg3)
      have hsz3 := hg3.size
      have HP := Lib.hid (HSH.out.put hs6)
      clear hs1 hr3 hg3 hc1 hm1 hs6
      go_wp2_with fail
      go_at_call 106
      refine (putS w2 wr.heap.size _ _ _ l s HS3.out hsz3 (by omega)).mono ?_
      intro e w3 hput
      obtain ⟨v3, rfl, hb3, ho3⟩ := hput.own HO3.out (by omega)
      have HO4 := Lib.hid ho3
      have HR4 := Lib.hid (HR3.out.below hb3 (Array.getElem?_eq_some_iff.1 HR3.out.blk).1)
      have HG4 := Lib.hid (grown_below HG3.out hb3)
      have hpl := length_put l s
      clear hput hb3 ho3
      go_wp2
      go_roundw
      case rel => exact ⟨put l s, k - 1, q2, by go_num, by omega, by omega, by omega, HP.out, HO4.out, HR4.out, HG4.out⟩
      case measure => simp [intOf]; omega
    · have hk0 : k = 0 := by omega
      subst hk0
      go_wp2
      go_ret
      exact ⟨_, l, q, by omega, HSH.out, by omega, rfl, HO.out, HR2.out, HG2.out⟩

/-- a key and a short string are drawn -/
def KeyL2 (w : World) (e : Ending) (w' : World) : Prop := ∃ s t : ByteArray, isK s ∧ isK t ∧ e = .returned (.tuple #[.string s, .string t]) ∧ Below w.heap.size w w'

set_option maxHeartbeats 400000 in
theorem drawKey (w : World) (A : Option Addr) (n c : Nat) (hb : Bytes w w.heap.size A n) (hnc : n ≤ c) (hc : c ≤ maxLen) :
    Calls Try.prog 48 #[.slice A n c] w (KeyL2 w) := by
  go_enter Try.func48, Try.ntmps48
  go_wp2_with fail
  go_at_call 68
  refine (openR w A n c hb hnc hc).mono ?_
  rintro e w1 ⟨A1, n1, c1, rfl, hr1, hb1⟩
  have HB1 := Lib.hid hb1
  have HR1 := Lib.hid hr1
  have hgl : w.heap.size < w1.heap.size := (Array.getElem?_eq_some_iff.1 hr1.blk).1
  clear hb hr1 hb1
  go_wp2_with fail
  go_at_call 97
  refine (keyK w1 w.heap.size 0 n1 c1 A1 HR1.out (by omega)).mono ?_
  rintro e w2 ⟨s, p2, hs5, hp2, rfl, hr2, hg2⟩
  have HB2 := Lib.hid (HB1.out.grown hg2 HB1.out.size (fun k e => by injection e; omega))
  have HR2 := Lib.hid hr2
  have hsz2 := hg2.size
  have HS5 := Lib.hid hs5
  clear hr2 hg2 hs5
  go_wp2_with fail
  go_at_call 92
  refine (nearK _ w.heap.size p2 n1 c1 A1 (w2.heap.size + 1) 1 1 _ [s] (HR2.out.alloc _) (by omega) (one_strs w2 s) (by simp) (fun b o e => by injection e with e; injection e with e; omega) (fun x hx => by rw [List.mem_singleton.mp hx]; exact HS5.out) (by omega)).mono ?_
  rintro e w3 ⟨t, p3, ht6, hp3, rfl, hr3, hg3⟩
  have HB3 := Lib.hid ((HB2.out.alloc HB2.out.size _).grown hg3 (le_alloc HB2.out.size _) (fun k e => by injection e; omega))
  have HT := Lib.hid ht6
  clear hr3 hg3 ht6
  go_wp2
  go_ret2
  exact ⟨s, t, HS5.out, HT.out, rfl, HB3.out⟩

end Go.Proofs.Ytakadkhgcjndmaa.W
