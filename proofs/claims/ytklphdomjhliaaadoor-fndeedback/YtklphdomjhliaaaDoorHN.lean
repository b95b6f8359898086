/-
  The laws FnDeedBack, FnDeedStrict and FnDeedOne, as walks over the contracts.
-/
import Derived.Test.YtklphdomjhliaaaDoorHK
import Derived.Test.YtklphdomjhliaaaDoorHM
namespace Go.Proofs.YtklphdomjhliaaaDoor.W
open Go.RowKit K R B

/-- a deed's box stands, whatever is laid behind -/
def Stays (W0 : World) (g : Nat) (k : Int) (key : ByteArray) (num : Int) : Prop := ∀ W, Below W0.heap.size W0 W → W.cell? ⟨g, 0, none⟩ = some (.int .i64 k) ∧ W.cell? ⟨g, 1, none⟩ = some (.string key) ∧ W.cell? ⟨g, 2, none⟩ = some (.int .i64 num)
theorem Stays.mk {w1 : World} {k : Int} {key : ByteArray} {num : Int} : Stays (w1.alloc (.cells #[.int .i64 k, .string key, .int .i64 num] 24)) w1.heap.size k key num :=
  fun W hW => cells_three ((hW.block _ (by simp)).trans (heap_alloc_new _ _))
theorem Stays.on {W0 W1 : World} {g : Nat} {k : Int} {key : ByteArray} {num : Int} (h : Stays W0 g k key num) (hb : Below W0.heap.size W0 W1) : Stays W1 g k key num := fun W hW => h W (hb.trans (hW.mono hb.size))
theorem textI_d (k num : Int) (key : ByteArray) (hk : key.size ≤ 6) {w W : World} (hT : Tab w) (hb : Below w.heap.size w W) : Calls Tryd.prog 9 #[.agg #[.int .i64 k, .string key, .int .i64 num]] W fun e w' => e = .returned (.string (ofL (deedL ⟨k, key, num⟩))) ∧ Below W.heap.size W w' :=
  deedI k key num W (by unfold maxLen; omega) (hT.on hb)
theorem textS_d (k num : Int) (key : ByteArray) (hk : key.size ≤ 6) (W : World) : Calls Tryd.prog 10 #[.agg #[.int .i64 k, .string key, .int .i64 num]] W fun e w' => e = .returned (.string (ofL (deedL ⟨k, key, num⟩))) ∧ Below W.heap.size W w' :=
  deedS k key num W (by unfold maxLen; omega)
theorem empty_iff {l : List UInt8} : (ofL l).toList.isEmpty = l.isEmpty := by rw [ByteArray.toList_eq, ofL_data]

set_option maxHeartbeats 8000000 in
set_option maxRecDepth 100000 in
theorem lawDeedBack (w : World) (A : Option Addr) (n c : Nat) (hb0 : Bytes w w.heap.size A n) (hnc : n ≤ c) (hc : c ≤ maxLen) (hT : Tab w) (hE : ErrB w.heap.size w) :
    Calls Tryd.prog 3 #[.slice A n c] w fun e w' => e = .returned (.bool true) ∧ Below w.heap.size w w' := by
  by_cases hbig : (1048576 : Int) < (n : Int)
  · clear hb0
    go_enter Tryd.func3, Tryd.ntmps3
    go_wp2
    go_ret
    exact ⟨rfl, Below.refl _ _⟩
  go_enter Tryd.func3, Tryd.ntmps3
  go_wp2_with fail
  go_at_call 8
  refine Calls.mono (drawDeedText w A n c hb0 hnc hc) ?_
  rintro e w1 ⟨k, num, key, hks, rfl, hb⟩
  go_upto_region 4 with fail
  have HB := Lib.hid (hb.alloc hb.size (.cells #[.int .i64 k, .string key, .int .i64 num] 24))
  have ST := Lib.hid (Stays.mk (w1 := w1) (k := k) (key := key) (num := num))
  obtain ⟨W0, hW0⟩ : ∃ W, W = w1.alloc (.cells #[.int .i64 k, .string key, .int .i64 num] 24) := ⟨_, rfl⟩
  rw [← hW0] at HB ST ⊢
  obtain ⟨g, hg⟩ : ∃ g, g = w1.heap.size := ⟨_, rfl⟩
  rw [← hg] at ST ⊢
  have HI := Lib.hid (fun W (hb : Below w.heap.size w W) => textI_d k num key hks hT hb)
  have HS := Lib.hid (fun W => textS_d k num key hks W)
  have HRD := Lib.hid (show deedL ⟨k, key, num⟩ ≠ [] → ∀ W, Below w.heap.size w W → Calls Tryd.prog 11 #[.string (ofL (deedL ⟨k, key, num⟩))] W fun e w' => e = .returned (.tuple #[.agg #[.int .i64 k, .string key, .int .i64 num], .bool true]) ∧ Below W.heap.size W w' from fun hne W hbW => (deedReadI _ W W.heap.size (hT.on hbW) (errOnW hE hbW) (Nat.le_refl _)).mono fun e w' h => by
    rw [ofL_data] at h
    rcases h with ⟨⟨d, h1, h2⟩ | ⟨h1, _⟩, h3⟩
    · rw [readD_of hne rfl] at h1; injection h1 with h1; subst h1; exact ⟨h2, h3⟩
    · rw [readD_of hne rfl] at h1; cases h1)
  have HEM := Lib.hid (empty_iff (l := deedL ⟨k, key, num⟩))
  have HNE := Lib.hid (show (deedL ⟨k, key, num⟩).isEmpty = false → deedL ⟨k, key, num⟩ ≠ [] from fun h e => by rw [e] at h; cases h)
  obtain ⟨L, hL⟩ : ∃ L, L = deedL ⟨k, key, num⟩ := ⟨_, rfl⟩
  rw [← hL] at HI HS HRD HEM HNE
  obtain ⟨T, hTT⟩ : ∃ T, T = ofL L := ⟨_, rfl⟩
  rw [← hTT] at HI HS HRD HEM
  have e1 : (T.toList == T.toList) = true := by simp
  clear hb0 hb hT hE hW0 hg hL hTT
  obtain ⟨a0, a1, a2⟩ := ST.out W0 (Below.refl _ _)
  go_wp2_with fail
  go_at_call 9
  refine Calls.mono (HI.out _ HB.out) ?_
  rintro e w2 ⟨rfl, b_⟩
  have B2 := Lib.hid b_
  clear b_ a0 a1 a2
  obtain ⟨a0, a1, a2⟩ := ST.out w2 B2.out
  cases hem : L.isEmpty with
  | true =>
    have hte : T.toList.isEmpty = true := by rw [HEM.out, hem]
    clear hem
    go_wp2_with fail
    go_at_call 10
    refine Calls.mono (HS.out _) ?_
    rintro e w3 ⟨rfl, b_⟩
    have B3 := Lib.hid (B2.out.trans (b_.mono B2.out.size))
    clear b_ a0 a1 a2
    obtain ⟨a0, a1, a2⟩ := ST.out w3 B3.out
    go_wp2_with fail
    go_at_call 10
    refine Calls.mono (HS.out _) ?_
    rintro e w4 ⟨rfl, b_⟩
    have B4 := Lib.hid (B3.out.trans (b_.mono B3.out.size))
    clear b_ a0 a1 a2
    go_wp2
    go_ret
    exact ⟨rfl, HB.out.trans (B4.out.mono HB.out.size)⟩
  | false =>
    have hte : T.toList.isEmpty = false := by rw [HEM.out, hem]
    have HD := Lib.hid (HRD.out (HNE.out hem))
    clear hem HRD
    go_wp2_with fail
    go_at_call 10
    refine Calls.mono (HS.out _) ?_
    rintro e w3 ⟨rfl, b_⟩
    have B3 := Lib.hid (B2.out.trans (b_.mono B2.out.size))
    clear b_ a0 a1 a2
    go_wp2_with fail
    go_at_call 11
    refine Calls.mono (HD.out _ (HB.out.trans (B3.out.mono HB.out.size))) ?_
    rintro e w4 ⟨rfl, b_⟩
    have B4 := Lib.hid (B3.out.trans (b_.mono B3.out.size))
    clear b_
    go_upto_region 8 with fail
    have B5 := Lib.hid (B4.out.alloc B4.out.size (.cells #[.int .i64 k, .string key, .int .i64 num] 24))
    obtain ⟨c0, c1, c2⟩ := cells_three (heap_alloc_new w4 (.cells #[.int .i64 k, .string key, .int .i64 num] 24))
    obtain ⟨W5, hW5⟩ : ∃ W, W = w4.alloc (.cells #[.int .i64 k, .string key, .int .i64 num] 24) := ⟨_, rfl⟩
    rw [← hW5] at B5 c0 c1 c2 ⊢
    obtain ⟨a0, a1, a2⟩ := ST.out W5 B5.out
    clear hW5
    go_wp2
    go_ret
    exact ⟨rfl, HB.out.trans (B5.out.mono HB.out.size)⟩

theorem read_keyD {t : List UInt8} {d : De} (h : readD t = some d) : d.key.size ≤ 6 := by
  obtain ⟨hne, hd⟩ := readD_some h
  obtain ⟨_, h2, _⟩ := deed_ne (d := d) (by rw [hd]; exact hne)
  have := (fit_key h2).1
  unfold keyB at this; rw [Bool.and_eq_true] at this
  have := of_decide_eq_true this.1
  omega
set_option maxHeartbeats 8000000 in
set_option maxRecDepth 100000 in
theorem lawDeedStrict (w : World) (A : Option Addr) (n c : Nat) (hb0 : Bytes w w.heap.size A n) (hnc : n ≤ c) (hc : c ≤ maxLen) (hT : Tab w) (hE : ErrB w.heap.size w) :
    Calls Tryd.prog 4 #[.slice A n c] w fun e w' => e = .returned (.bool true) ∧ Below w.heap.size w w' := by
  by_cases hbig : (1048576 : Int) < (n : Int)
  · clear hb0
    go_enter Tryd.func4, Tryd.ntmps4
    go_wp2
    go_ret
    exact ⟨rfl, Below.refl _ _⟩
  go_enter Tryd.func4, Tryd.ntmps4
  go_wp2_with fail
  go_at_call 12
  refine Calls.mono (drawDeedRead w A n c hb0 hnc hc) ?_
  rintro e w1 ⟨s, rfl, hs, hb⟩
  have HB := Lib.hid hb
  clear hb0 hb
  rcases Option.eq_none_or_eq_some (readD s.data.toList) with hr | ⟨d, hr⟩
  · have HS := Lib.hid (show ∀ W : World, Calls Tryd.prog 13 #[.string s] W fun e w' => e = .returned (.tuple #[.agg #[.int .i64 0, .string ⟨#[]⟩, .int .i64 0], .bool false]) ∧ Below W.heap.size W w' from fun W => (deedReadS s W (by omega)).mono fun e w' h => by
      rcases h with ⟨⟨d, h1, _⟩ | ⟨_, h2⟩, h3⟩
      · rw [hr] at h1; cases h1
      · exact ⟨h2, h3⟩)
    have HI := Lib.hid (show ∀ W, Below w.heap.size w W → Calls Tryd.prog 11 #[.string s] W fun e w' => e = .returned (.tuple #[.agg #[.int .i64 0, .string ⟨#[]⟩, .int .i64 0], .bool false]) ∧ Below W.heap.size W w' from fun W hW => (deedReadI s W W.heap.size (hT.on hW) (errOnW hE hW) (Nat.le_refl _)).mono fun e w' h => by
      rcases h with ⟨⟨d, h1, _⟩ | ⟨_, h2⟩, h3⟩
      · rw [hr] at h1; cases h1
      · exact ⟨h2, h3⟩)
    clear hT hE hr
    go_wp2_with fail
    go_at_call 13
    refine Calls.mono (HS.out w1) ?_
    rintro e w2 ⟨rfl, b_⟩
    have B2 := Lib.hid ((HB.out.trans (b_.mono HB.out.size)).alloc (Nat.le_trans HB.out.size b_.size) (.cells #[.int .i64 0, .string ⟨#[]⟩, .int .i64 0] 24))
    have ST := Lib.hid (Stays.mk (w1 := w2) (k := 0) (key := ⟨#[]⟩) (num := 0))
    go_upto_region 5 with fail
    obtain ⟨W2, hW2⟩ : ∃ W, W = w2.alloc (.cells #[.int .i64 0, .string ⟨#[]⟩, .int .i64 0] 24) := ⟨_, rfl⟩
    rw [← hW2] at B2 ST ⊢
    obtain ⟨g, hg⟩ : ∃ g, g = w2.heap.size := ⟨_, rfl⟩
    rw [← hg] at ST ⊢
    clear b_ hW2 hg
    go_wp2_with fail
    go_at_call 11
    refine Calls.mono (HI.out _ B2.out) ?_
    rintro e w3 ⟨rfl, b_⟩
    have B3 := Lib.hid ((b_.alloc b_.size (.cells #[.int .i64 0, .string ⟨#[]⟩, .int .i64 0] 24)))
    go_upto_region 6 with fail
    obtain ⟨c0, c1, c2⟩ := cells_three (heap_alloc_new w3 (.cells #[.int .i64 0, .string ⟨#[]⟩, .int .i64 0] 24))
    obtain ⟨W3, hW3⟩ : ∃ W, W = w3.alloc (.cells #[.int .i64 0, .string ⟨#[]⟩, .int .i64 0] 24) := ⟨_, rfl⟩
    rw [← hW3] at B3 c0 c1 c2 ⊢
    obtain ⟨a0, a1, a2⟩ := ST.out W3 B3.out
    clear hW3 b_
    go_wp2
    go_ret
    exact ⟨rfl, B2.out.trans (B3.out.mono B2.out.size)⟩
  · have hks := read_keyD hr
    have HDL := Lib.hid (readD_some hr)
    obtain ⟨k, key, num⟩ := d
    have HS := Lib.hid (show ∀ W : World, Calls Tryd.prog 13 #[.string s] W fun e w' => e = .returned (.tuple #[.agg #[.int .i64 k, .string key, .int .i64 num], .bool true]) ∧ Below W.heap.size W w' from fun W => (deedReadS s W (by omega)).mono fun e w' h => by
      rcases h with ⟨⟨d, h1, h2⟩ | ⟨h1, _⟩, h3⟩
      · rw [hr] at h1; injection h1 with h1; subst h1; exact ⟨h2, h3⟩
      · rw [hr] at h1; cases h1)
    have HI := Lib.hid (show ∀ W, Below w.heap.size w W → Calls Tryd.prog 11 #[.string s] W fun e w' => e = .returned (.tuple #[.agg #[.int .i64 k, .string key, .int .i64 num], .bool true]) ∧ Below W.heap.size W w' from fun W hW => (deedReadI s W W.heap.size (hT.on hW) (errOnW hE hW) (Nat.le_refl _)).mono fun e w' h => by
      rcases h with ⟨⟨d, h1, h2⟩ | ⟨h1, _⟩, h3⟩
      · rw [hr] at h1; injection h1 with h1; subst h1; exact ⟨h2, h3⟩
      · rw [hr] at h1; cases h1)
    have HTX := Lib.hid (show ∀ W, Below w.heap.size w W → Calls Tryd.prog 9 #[.agg #[.int .i64 k, .string key, .int .i64 num]] W fun e w' => e = .returned (.string s) ∧ Below W.heap.size W w' from fun W hW => by
      have := textI_d k num key hks hT hW
      rw [HDL.out.2, of_data] at this; exact this)
    have e1 : (s.toList == s.toList) = true := by simp
    clear hT hE hr
    go_wp2_with fail
    go_at_call 13
    refine Calls.mono (HS.out w1) ?_
    rintro e w2 ⟨rfl, b_⟩
    have B2 := Lib.hid ((HB.out.trans (b_.mono HB.out.size)).alloc (Nat.le_trans HB.out.size b_.size) (.cells #[.int .i64 k, .string key, .int .i64 num] 24))
    have ST := Lib.hid (Stays.mk (w1 := w2) (k := k) (key := key) (num := num))
    go_upto_region 5 with fail
    obtain ⟨W2, hW2⟩ : ∃ W, W = w2.alloc (.cells #[.int .i64 k, .string key, .int .i64 num] 24) := ⟨_, rfl⟩
    rw [← hW2] at B2 ST ⊢
    obtain ⟨g, hg⟩ : ∃ g, g = w2.heap.size := ⟨_, rfl⟩
    rw [← hg] at ST ⊢
    clear b_ hW2 hg
    go_wp2_with fail
    go_at_call 11
    refine Calls.mono (HI.out _ B2.out) ?_
    rintro e w3 ⟨rfl, b_⟩
    have B3 := Lib.hid ((b_.alloc b_.size (.cells #[.int .i64 k, .string key, .int .i64 num] 24)))
    go_upto_region 6 with fail
    obtain ⟨c0, c1, c2⟩ := cells_three (heap_alloc_new w3 (.cells #[.int .i64 k, .string key, .int .i64 num] 24))
    obtain ⟨W3, hW3⟩ : ∃ W, W = w3.alloc (.cells #[.int .i64 k, .string key, .int .i64 num] 24) := ⟨_, rfl⟩
    rw [← hW3] at B3 c0 c1 c2 ⊢
    obtain ⟨a0, a1, a2⟩ := ST.out W3 B3.out
    clear hW3 b_
    go_wp2_with (go_at_call 9; refine Calls.mono (HTX.out _ (B2.out.trans (B3.out.mono B2.out.size))) ?_; rintro e w4 ⟨rfl, b_⟩; have B4 := Lib.hid (B3.out.trans (b_.mono B3.out.size)))
    go_ret
    exact ⟨rfl, B2.out.trans (B4.out.mono B2.out.size)⟩

theorem deed_inj {d e : De} (h1 : deedL d ≠ []) (h : deedL d = deedL e) : d = e := by
  have a := readD_of h1 (d := d) rfl
  have b := readD_of h1 (d := e) h.symm
  rw [a] at b; injection b

set_option maxHeartbeats 8000000 in
set_option maxRecDepth 100000 in
theorem lawDeedOne (w : World) (A : Option Addr) (n c : Nat) (A2 : Option Addr) (n2 c2 : Nat) (hb0 : Bytes w w.heap.size A n) (hnc : n ≤ c) (hc : c ≤ maxLen) (hb02 : Bytes w w.heap.size A2 n2) (hnc2 : n2 ≤ c2) (hc2 : c2 ≤ maxLen) (hT : Tab w) :
    Calls Tryd.prog 5 #[.slice A n c, .slice A2 n2 c2] w fun e w' => e = .returned (.bool true) ∧ Below w.heap.size w w' := by
  by_cases hbig : (1048576 : Int) < (n : Int)
  · clear hb0 hb02
    go_enter Tryd.func5, Tryd.ntmps5
    go_wp2
    go_ret
    exact ⟨rfl, Below.refl _ _⟩
  by_cases hbig2 : (1048576 : Int) < (n2 : Int)
  · clear hb0 hb02
    go_enter Tryd.func5, Tryd.ntmps5
    go_wp2
    go_ret
    exact ⟨rfl, Below.refl _ _⟩
  have HBY := Lib.hid hb02
  clear hb02
  go_enter Tryd.func5, Tryd.ntmps5
  go_wp2_with fail
  go_at_call 8
  refine Calls.mono (drawDeedText w A n c hb0 hnc hc) ?_
  rintro e w1 ⟨k, num, key, hks, rfl, hb⟩
  go_upto_region 4 with fail
  have HB := Lib.hid (hb.alloc hb.size (.cells #[.int .i64 k, .string key, .int .i64 num] 24))
  have ST := Lib.hid (Stays.mk (w1 := w1) (k := k) (key := key) (num := num))
  obtain ⟨W0, hW0⟩ : ∃ W, W = w1.alloc (.cells #[.int .i64 k, .string key, .int .i64 num] 24) := ⟨_, rfl⟩
  rw [← hW0] at HB ST ⊢
  obtain ⟨g, hg⟩ : ∃ g, g = w1.heap.size := ⟨_, rfl⟩
  rw [← hg] at ST ⊢
  clear hb0 hb hW0 hg
  go_wp2_with fail
  go_at_call 8
  refine Calls.mono (drawDeedText W0 A2 n2 c2 (HBY.out.on HB.out HB.out.size) hnc2 hc2) ?_
  rintro e w2 ⟨k2, num2, key2, hks2, rfl, hb⟩
  go_upto_region 5 with fail
  have HB1 := Lib.hid (hb.alloc hb.size (.cells #[.int .i64 k2, .string key2, .int .i64 num2] 24))
  have ST2 := Lib.hid (Stays.mk (w1 := w2) (k := k2) (key := key2) (num := num2))
  obtain ⟨W1, hW1⟩ : ∃ W, W = w2.alloc (.cells #[.int .i64 k2, .string key2, .int .i64 num2] 24) := ⟨_, rfl⟩
  rw [← hW1] at HB1 ST2 ⊢
  obtain ⟨g2, hg2⟩ : ∃ g, g = w2.heap.size := ⟨_, rfl⟩
  rw [← hg2] at ST2 ⊢
  replace ST := Lib.hid (ST.out.on HB1.out)
  replace HB := Lib.hid (HB.out.trans (HB1.out.mono HB.out.size))
  clear hb hW1 hg2 HB1 HBY
  have HI := Lib.hid (fun W (hb : Below w.heap.size w W) => textI_d k num key hks hT hb)
  have HS := Lib.hid (fun W => textS_d k num key hks W)
  have HI2 := Lib.hid (fun W (hb : Below w.heap.size w W) => textI_d k2 num2 key2 hks2 hT hb)
  have HS2 := Lib.hid (fun W => textS_d k2 num2 key2 hks2 W)
  have HEM := Lib.hid (empty_iff (l := deedL ⟨k, key, num⟩))
  have HEM2 := Lib.hid (empty_iff (l := deedL ⟨k2, key2, num2⟩))
  have HIN := Lib.hid (show (deedL ⟨k, key, num⟩).isEmpty = false → ((ofL (deedL ⟨k, key, num⟩)).toList == (ofL (deedL ⟨k2, key2, num2⟩)).toList) = true → k = k2 ∧ key.toList = key2.toList ∧ num = num2 from fun h0 h => by
    rw [ByteArray.toList_eq, ByteArray.toList_eq, ofL_data, ofL_data] at h
    have h := deed_inj (d := ⟨k, key, num⟩) (e := ⟨k2, key2, num2⟩) (fun e => by rw [e] at h0; cases h0) (by simpa using h)
    injection h with h1 h2 h3
    exact ⟨h1, by rw [h2], h3⟩)
  have HEQ := Lib.hid (show k = k2 → key.toList = key2.toList → num = num2 → ((ofL (deedL ⟨k, key, num⟩)).toList == (ofL (deedL ⟨k2, key2, num2⟩)).toList) = true from fun h1 h2 h3 => by
    have h2 : key = key2 := ba_ext h2
    subst h1 h2 h3; simp)
  obtain ⟨L, hL⟩ : ∃ L, L = deedL ⟨k, key, num⟩ := ⟨_, rfl⟩
  rw [← hL] at HI HS HEM HIN HEQ
  obtain ⟨L2, hL2⟩ : ∃ L, L = deedL ⟨k2, key2, num2⟩ := ⟨_, rfl⟩
  rw [← hL2] at HI2 HS2 HEM2 HIN HEQ
  obtain ⟨T, hTT⟩ : ∃ T, T = ofL L := ⟨_, rfl⟩
  rw [← hTT] at HI HS HEM HIN HEQ
  obtain ⟨T2, hTT2⟩ : ∃ T, T = ofL L2 := ⟨_, rfl⟩
  rw [← hTT2] at HI2 HS2 HEM2 HIN HEQ
  have e1 : (T.toList == T.toList) = true := by simp
  have e2 : (T2.toList == T2.toList) = true := by simp
  clear hT hL hL2 hTT hTT2
  obtain ⟨a0, a1, a2⟩ := ST.out W1 (Below.refl _ _)
  go_wp2_with fail
  go_at_call 9
  refine Calls.mono (HI.out _ HB.out) ?_
  rintro e w3 ⟨rfl, b_⟩
  have B3 := Lib.hid b_
  clear b_ a0 a1 a2
  obtain ⟨a0, a1, a2⟩ := ST2.out w3 B3.out
  go_wp2_with fail
  go_at_call 9
  refine Calls.mono (HI2.out _ (HB.out.trans (B3.out.mono HB.out.size))) ?_
  rintro e w4 ⟨rfl, b_⟩
  have B4 := Lib.hid (B3.out.trans (b_.mono B3.out.size))
  clear b_ a0 a1 a2
  obtain ⟨a0, a1, a2⟩ := ST.out w4 B4.out
  go_wp2_with fail
  go_at_call 10
  refine Calls.mono (HS.out _) ?_
  rintro e w5 ⟨rfl, b_⟩
  have B5 := Lib.hid (B4.out.trans (b_.mono B4.out.size))
  clear b_ a0 a1 a2
  obtain ⟨a0, a1, a2⟩ := ST2.out w5 B5.out
  have hem : (L.isEmpty = true ∨ L2.isEmpty = true) ∨ L.isEmpty = false ∧ L2.isEmpty = false := by
    cases L.isEmpty <;> cases L2.isEmpty <;> simp
  rcases hem with hem | ⟨hem, hem2⟩
  · have hte : T.toList.isEmpty = true ∨ T.toList.isEmpty = false ∧ T2.toList.isEmpty = true := by
      rw [HEM.out, HEM2.out]
      rcases hem with h | h
      · exact .inl h
      · cases L.isEmpty <;> simp [h]
    clear hem
    rcases hte with hte | ⟨hte, hte2⟩
    all_goals
      go_wp2_with fail
      go_at_call 10
      refine Calls.mono (HS2.out _) ?_
      rintro e w6 ⟨rfl, b_⟩
      have B6 := Lib.hid (B5.out.trans (b_.mono B5.out.size))
      clear b_ a0 a1 a2
      obtain ⟨a0, a1, a2⟩ := ST.out w6 B6.out
      go_wp2_with fail
      go_at_call 10
      refine Calls.mono (HS.out _) ?_
      rintro e w7 ⟨rfl, b_⟩
      have B7 := Lib.hid (B6.out.trans (b_.mono B6.out.size))
      clear b_ a0 a1 a2
      obtain ⟨a0, a1, a2⟩ := ST2.out w7 B7.out
      go_wp2_with fail
      go_at_call 10
      refine Calls.mono (HS2.out _) ?_
      rintro e w8 ⟨rfl, b_⟩
      have B8 := Lib.hid (B7.out.trans (b_.mono B7.out.size))
      clear b_ a0 a1 a2
      go_wp2
      go_ret
      exact ⟨rfl, HB.out.trans (B8.out.mono HB.out.size)⟩
  · have hte : T.toList.isEmpty = false := by rw [HEM.out, hem]
    have hte2 : T2.toList.isEmpty = false := by rw [HEM2.out, hem2]
    have HIN2 := Lib.hid (HIN.out hem)
    clear hem hem2 HIN
    go_wp2_with fail
    go_at_call 10
    refine Calls.mono (HS2.out _) ?_
    rintro e w6 ⟨rfl, b_⟩
    have B6 := Lib.hid (B5.out.trans (b_.mono B5.out.size))
    clear b_ a0 a1 a2
    obtain ⟨a0, a1, a2⟩ := ST.out w6 B6.out
    obtain ⟨c0, c1, c2⟩ := ST2.out w6 B6.out
    by_cases q1 : k = k2
    · by_cases q2 : key.toList = key2.toList
      · by_cases q3 : num = num2
        · have hq := HEQ.out q1 q2 q3
          have q1b : (k == k2) = true := by simpa using q1
          have q2b : (key.toList == key2.toList) = true := by simpa using q2
          have q3b : (num == num2) = true := by simpa using q3
          go_wp2
          go_ret
          exact ⟨rfl, HB.out.trans (B6.out.mono HB.out.size)⟩
        · have hq : (T.toList == T2.toList) = false := by
            cases h : (T.toList == T2.toList) with
            | false => rfl
            | true => exact absurd (HIN2.out h).2.2 q3
          go_wp2
          go_ret
          exact ⟨rfl, HB.out.trans (B6.out.mono HB.out.size)⟩
      · have hq : (T.toList == T2.toList) = false := by
          cases h : (T.toList == T2.toList) with
          | false => rfl
          | true => exact absurd (HIN2.out h).2.1 q2
        go_wp2
        go_ret
        exact ⟨rfl, HB.out.trans (B6.out.mono HB.out.size)⟩
    · have hq : (T.toList == T2.toList) = false := by
        cases h : (T.toList == T2.toList) with
        | false => rfl
        | true => exact absurd (HIN2.out h).1 q1
      go_wp2
      go_ret
      exact ⟨rfl, HB.out.trans (B6.out.mono HB.out.size)⟩
end Go.Proofs.YtklphdomjhliaaaDoor.W
