/-
  Contracts of the program's forms of deeds: fits, and of its DeedText.
-/
import Derived.Test.YtklphdomjhliaaaDoorHC
import Derived.Test.YtklphdomjhliaaaDoorI1
namespace Go.Proofs.YtklphdomjhliaaaDoor.W
open Go.RowKit K R B

theorem fit_val (hk hn : Bool) (key : ByteArray) (num : Int) : fitB hk hn key num = ((key.toList.isEmpty || (hk && keyB key)) && (decide (num = 0) || (hn && (decide (0 < num) && decide (num ≤ 999))))) := by
  unfold fitB
  congr 2
  rw [Bool.eq_iff_iff, eqs_iff, List.isEmpty_iff, ByteArray.toList_eq]
  constructor
  · rintro rfl; rfl
  · intro h; rw [← of_data key, h]; rfl

set_option maxHeartbeats 8000000 in
set_option maxRecDepth 100000 in
/-- whether all that a deed has can be written, as the program asks -/
theorem fitI (n : ByteArray) (hk hn : Bool) (k : Int) (key : ByteArray) (num : Int) (w : World) (hs : key.size ≤ maxLen) :
    Calls Tryd.prog 22 #[.agg #[.string n, .bool hk, .bool hn], .agg #[.int .i64 k, .string key, .int .i64 num]] w fun e w' => e = .returned (.bool (fitB hk hn key num)) ∧ Below w.heap.size w w' := by
  have HB0 := Lib.hid (((Below.refl w.heap.size w).alloc (Nat.le_refl _) (.cells #[.string n, .bool hk, .bool hn] 46)).alloc (by simp) (.cells #[.int .i64 k, .string key, .int .i64 num] 24))
  have HK := Lib.hid (fun W => keyI key W hs)
  have HV := Lib.hid (fit_val hk hn key num)
  obtain ⟨kb, hkb⟩ : ∃ b, b = keyB key := ⟨_, rfl⟩
  rw [← hkb] at HK HV
  have hq : key.toList.isEmpty = true ∨ key.toList.isEmpty = false := by cases key.toList.isEmpty <;> simp
  by_cases z0 : num = 0
  · subst z0
    rcases hq with q | q <;> cases hk <;> cases kb
    all_goals
      rw [q] at HV
      clear hkb hs
      go_enter Tryd.func22, Tryd.ntmps22
      go_wp2_with (go_at_call 35; refine Calls.mono (HK.out _) ?_; rintro e w1 ⟨rfl, rfl⟩)
      go_ret
      exact ⟨by rw [HV.out]; simp, HB0.out⟩
  · by_cases z1 : 0 < num
    · by_cases z2 : num ≤ 999
      all_goals
        have HZ := Lib.hid z2
        rcases hq with q | q <;> cases hk <;> cases kb <;> cases hn
        all_goals
          rw [q] at HV
          clear hkb hs
          go_enter Tryd.func22, Tryd.ntmps22
          go_wp2_with (go_at_call 35; refine Calls.mono (HK.out _) ?_; rintro e w1 ⟨rfl, rfl⟩)
          go_ret
          exact ⟨by rw [HV.out]; have zz : (num == 0) = false := (by simpa using z0); simp [zz, z0, z1, HZ.out], HB0.out⟩
    · have HZ := Lib.hid z1
      rcases hq with q | q <;> cases hk <;> cases kb <;> cases hn
      all_goals
        rw [q] at HV
        clear hkb hs
        go_enter Tryd.func22, Tryd.ntmps22
        go_wp2_with (go_at_call 35; refine Calls.mono (HK.out _) ?_; rintro e w1 ⟨rfl, rfl⟩)
        go_ret
        exact ⟨by rw [HV.out]; have zz : (num == 0) = false := (by simpa using z0); have z3 : ¬ 0 < num := (by have := HZ.out; omega); simp [zz, z0, z3], HB0.out⟩
theorem uTT (n k D : ByteArray) : n ++ ((⟨#[32, 46]⟩ : ByteArray) ++ k) ++ ((⟨#[32]⟩ : ByteArray) ++ D) = n ++ (((⟨#[32, 46]⟩ : ByteArray) ++ k) ++ ((⟨#[32]⟩ : ByteArray) ++ D)) := by simp only [ByteArray.append_assoc]
theorem uTF (n k : ByteArray) : n ++ ((⟨#[32, 46]⟩ : ByteArray) ++ k) = n ++ (((⟨#[32, 46]⟩ : ByteArray) ++ k) ++ (⟨#[]⟩ : ByteArray)) := by
  apply ByteArray.ext; simp
theorem uFT (n D : ByteArray) : n ++ ((⟨#[32]⟩ : ByteArray) ++ D) = n ++ ((⟨#[]⟩ : ByteArray) ++ ((⟨#[32]⟩ : ByteArray) ++ D)) := by
  apply ByteArray.ext; simp

/-- what stands in the two boxes -/
structure TwoB (w W : World) (k : Int) (key : ByteArray) (num : Int) (g : Nat) (n : ByteArray) (hk hn : Bool) : Prop where
  d0 : W.cell? ⟨w.heap.size, 0, none⟩ = some (.int .i64 k)
  d1 : W.cell? ⟨w.heap.size, 1, none⟩ = some (.string key)
  d2 : W.cell? ⟨w.heap.size, 2, none⟩ = some (.int .i64 num)
  f0 : W.cell? ⟨g, 0, none⟩ = some (.string n)
  f1 : W.cell? ⟨g, 1, none⟩ = some (.bool hk)
  f2 : W.cell? ⟨g, 2, none⟩ = some (.bool hn)
  bel : Below w.heap.size w W
theorem TwoB.on {w W W2 : World} {k : Int} {key : ByteArray} {num : Int} {g : Nat} {n : ByteArray} {hk hn : Bool} (h : TwoB w W k key num g n hk hn) (hb : Below W.heap.size W W2) (h1 : w.heap.size < W.heap.size) (h2 : g < W.heap.size) : TwoB w W2 k key num g n hk hn :=
  ⟨(hb.cell (p := ⟨w.heap.size, 0, none⟩) h1).trans h.d0, (hb.cell (p := ⟨w.heap.size, 1, none⟩) h1).trans h.d1, (hb.cell (p := ⟨w.heap.size, 2, none⟩) h1).trans h.d2,
    (hb.cell (p := ⟨g, 0, none⟩) h2).trans h.f0, (hb.cell (p := ⟨g, 1, none⟩) h2).trans h.f1, (hb.cell (p := ⟨g, 2, none⟩) h2).trans h.f2, h.bel.trans (hb.mono h.bel.size)⟩
theorem two_mk {w w1 : World} {k : Int} {key : ByteArray} {num : Int} {n : ByteArray} {hk hn : Bool} (hb : Below (w.alloc (.cells #[.int .i64 k, .string key, .int .i64 num] 24)).heap.size (w.alloc (.cells #[.int .i64 k, .string key, .int .i64 num] 24)) w1) :
    TwoB w (w1.alloc (.cells #[.string n, .bool hk, .bool hn] 46)) k key num w1.heap.size n hk hn ∧ w.heap.size < w1.heap.size := by
  have hs := hb.size
  have h0 : w1.heap[w.heap.size]? = some (.cells #[.int .i64 k, .string key, .int .i64 num] 24 (0, 0)) := by
    rw [hb.block _ (by simp)]; exact heap_alloc_new _ _
  have hlt : w.heap.size < w1.heap.size := by simp at hs; omega
  have h1 := (heap_alloc_old w1 (.cells #[.string n, .bool hk, .bool hn] 46) hlt).trans h0
  obtain ⟨a0, a1, a2⟩ := cells_three h1
  obtain ⟨c0, c1, c2⟩ := cells_three (heap_alloc_new w1 (.cells #[.string n, .bool hk, .bool hn] 46))
  exact ⟨⟨a0, a1, a2, c0, c1, c2, (((Below.refl _ _).alloc (Nat.le_refl _) _).trans (hb.mono (by simp))).alloc (by omega) _⟩, hlt⟩

set_option maxHeartbeats 8000000 in
set_option maxRecDepth 100000 in
/-- the program's DeedText -/
theorem deedI (k : Int) (key : ByteArray) (num : Int) (w : World) (hs : key.size ≤ maxLen) (hT : Tab w) :
    Calls Tryd.prog 9 #[.agg #[.int .i64 k, .string key, .int .i64 num]] w fun e w' => e = .returned (.string (ofL (deedL ⟨k, key, num⟩))) ∧ Below w.heap.size w w' := by
  have HF := Lib.hid (fun W => formI k W)
  have HFT := Lib.hid (fun W => fitI (ofL (nmL k)) (hkB k) (hnB k) k key num W hs)
  have HRB := Lib.hid (fun h => deed_bad (d := ⟨k, key, num⟩) h)
  have HRG := Lib.hid (fun h1 h2 => deed_good (d := ⟨k, key, num⟩) h1 h2)
  have HN4 : (ofL (nmL k)).size ≤ 4 := by rw [ofL_size]; exact nm_len k
  have HKN := Lib.hid (fun h => fit_key (hk := hkB k) (hn := hnB k) (key := key) (num := num) h)
  have HNN := Lib.hid (fun h => fit_num (hk := hkB k) (hn := hnB k) (key := key) (num := num) h)
  simp only at HRB HRG
  obtain ⟨N, hN⟩ : ∃ N, N = ofL (nmL k) := ⟨_, rfl⟩
  obtain ⟨A, hA⟩ : ∃ A, A = kinB k := ⟨_, rfl⟩
  obtain ⟨F, hF⟩ : ∃ F, F = fitB (hkB k) (hnB k) key num := ⟨_, rfl⟩
  obtain ⟨hk, hhk⟩ : ∃ b, b = hkB k := ⟨_, rfl⟩
  obtain ⟨hn, hhn⟩ : ∃ b, b = hnB k := ⟨_, rfl⟩
  rw [← hF] at HRB HRG HFT HKN HNN
  rw [← hhk, ← hhn, ← hN, ← hA] at HF
  rw [← hhk, ← hhn, ← hN] at HFT
  rw [← hA] at HRB HRG
  rw [← hN, ← hhk, ← hhn] at HRG
  rw [← hN] at HN4
  clear hN hA hF hhk hhn
  have HTT := Lib.hid hT
  clear hT hs
  have TWO := Lib.hid (fun (w1 : World) hb => two_mk (w := w) (w1 := w1) (k := k) (key := key) (num := num) (n := N) (hk := hk) (hn := hn) hb)
  have FORM : ∀ Q : World → Prop, True := fun _ => trivial
  clear FORM
  cases A with
  | false =>
    go_enter Tryd.func9, Tryd.ntmps9
    go_wp2_with (go_at_call 21; refine Calls.mono (HF.out _) ?_; rintro e w1 ⟨rfl, hb1⟩; obtain ⟨tb, hlt⟩ := TWO.out w1 hb1)
    go_ret
    exact ⟨by rw [HRB.out (by simp)]; rfl, tb.bel⟩
  | true =>
  cases F with
  | false =>
    go_enter Tryd.func9, Tryd.ntmps9
    go_upto_region 2 with (go_at_call 21; refine Calls.mono (HF.out _) ?_; rintro e w1 ⟨rfl, hb1⟩; obtain ⟨tb, hlt⟩ := TWO.out w1 hb1)
    obtain ⟨W1, hW1⟩ : ∃ W, W = w1.alloc (.cells #[.string N, .bool hk, .bool hn] 46) := ⟨_, rfl⟩
    rw [← hW1] at tb ⊢
    obtain ⟨d0, d1, d2, f0, f1, f2, bel⟩ := tb
    have hz : w1.heap.size < W1.heap.size := by rw [hW1]; simp
    clear hW1 hb1 TWO
    go_wp2_with (go_at_call 22; refine Calls.mono (HFT.out _) ?_; rintro e w2 ⟨rfl, hb2⟩)
    go_ret
    exact ⟨by rw [HRB.out (by simp)]; rfl, bel.trans (hb2.mono bel.size)⟩
  | true =>
    have HR := Lib.hid (HRG.out rfl rfl)
    have hk5 : key.size ≤ 5 := by have h := (HKN.out rfl).1; unfold keyB at h; rw [Bool.and_eq_true] at h; exact of_decide_eq_true h.1
    have hnn := HNN.out rfl
    have hn0 := hnn.1
    have hn9 := hnn.2.1
    obtain ⟨D, hD⟩ : ∃ D, D = ofL (decL num.toNat) := ⟨_, rfl⟩
    have hDs : D.size ≤ 3 := by rw [hD, ofL_size]; exact dec_len3 (by omega)
    have HDT := Lib.hid (show ∀ (W : World), Below w.heap.size w W → Calls Tryd.prog 23 #[.int .i64 num] W fun e w' => e = .returned (.string D) ∧ Below W.heap.size W w' from fun W h => by
      have := itoaI num.toNat W (by omega) (HTT.out.on h)
      rw [Int.toNat_of_nonneg hn0] at this
      rw [hD]; exact this)
    have HD := Lib.hid hD
    clear hD hnn HRG HRB HKN HNN
    cases hk <;> cases hn
    ·
      go_enter Tryd.func9, Tryd.ntmps9
      go_upto_region 2 with (go_at_call 21; refine Calls.mono (HF.out _) ?_; rintro e w1 ⟨rfl, hb1⟩; obtain ⟨tb, hlt⟩ := TWO.out w1 hb1)
      obtain ⟨W1, hW1⟩ : ∃ W, W = w1.alloc (.cells #[.string N, .bool false, .bool false] 46) := ⟨_, rfl⟩
      rw [← hW1] at tb ⊢
      have hz : w1.heap.size < W1.heap.size := by rw [hW1]; simp
      have TB := Lib.hid tb
      obtain ⟨d0, d1, d2, f0, f1, f2, bel⟩ := tb
      clear hW1 hb1 TWO bel
      go_wp2_with (go_at_call 22; refine Calls.mono (HFT.out _) ?_; rintro e w2 ⟨rfl, hb2⟩; have TB2 := Lib.hid (TB.out.on hb2 (by omega) hz); have hs2 := hb2.size; obtain ⟨d0, d1, d2, f0, f1, f2, -⟩ := TB2.out)
      go_ret
      refine ⟨?_, ?_⟩
      · rw [HR.out, keyP_f, numP_f, ← tFF]; rfl
      · exact TB2.out.bel
    ·
      go_enter Tryd.func9, Tryd.ntmps9
      go_upto_region 2 with (go_at_call 21; refine Calls.mono (HF.out _) ?_; rintro e w1 ⟨rfl, hb1⟩; obtain ⟨tb, hlt⟩ := TWO.out w1 hb1)
      obtain ⟨W1, hW1⟩ : ∃ W, W = w1.alloc (.cells #[.string N, .bool false, .bool true] 46) := ⟨_, rfl⟩
      rw [← hW1] at tb ⊢
      have hz : w1.heap.size < W1.heap.size := by rw [hW1]; simp
      have TB := Lib.hid tb
      obtain ⟨d0, d1, d2, f0, f1, f2, bel⟩ := tb
      clear hW1 hb1 TWO bel
      go_wp2_with (first | (go_at_call 22; refine Calls.mono (HFT.out _) ?_; rintro e w2 ⟨rfl, hb2⟩; have TB2 := Lib.hid (TB.out.on hb2 (by omega) hz); have hs2 := hb2.size; obtain ⟨d0, d1, d2, f0, f1, f2, -⟩ := TB2.out) | (go_at_call 23; refine Calls.mono (HDT.out _ TB2.out.bel) ?_; rintro e w3 ⟨rfl, hb3⟩))
      go_ret
      refine ⟨?_, ?_⟩
      · rw [HR.out, keyP_f, numP_t, ← HD.out, ← uFT]; rfl
      · exact TB2.out.bel.trans (hb3.mono TB2.out.bel.size)
    ·
      go_enter Tryd.func9, Tryd.ntmps9
      go_upto_region 2 with (go_at_call 21; refine Calls.mono (HF.out _) ?_; rintro e w1 ⟨rfl, hb1⟩; obtain ⟨tb, hlt⟩ := TWO.out w1 hb1)
      obtain ⟨W1, hW1⟩ : ∃ W, W = w1.alloc (.cells #[.string N, .bool true, .bool false] 46) := ⟨_, rfl⟩
      rw [← hW1] at tb ⊢
      have hz : w1.heap.size < W1.heap.size := by rw [hW1]; simp
      have TB := Lib.hid tb
      obtain ⟨d0, d1, d2, f0, f1, f2, bel⟩ := tb
      clear hW1 hb1 TWO bel
      go_wp2_with (go_at_call 22; refine Calls.mono (HFT.out _) ?_; rintro e w2 ⟨rfl, hb2⟩; have TB2 := Lib.hid (TB.out.on hb2 (by omega) hz); have hs2 := hb2.size; obtain ⟨d0, d1, d2, f0, f1, f2, -⟩ := TB2.out)
      go_ret
      refine ⟨?_, ?_⟩
      · rw [HR.out, keyP_t, numP_f, ← uTF]; rfl
      · exact TB2.out.bel
    ·
      go_enter Tryd.func9, Tryd.ntmps9
      go_upto_region 2 with (go_at_call 21; refine Calls.mono (HF.out _) ?_; rintro e w1 ⟨rfl, hb1⟩; obtain ⟨tb, hlt⟩ := TWO.out w1 hb1)
      obtain ⟨W1, hW1⟩ : ∃ W, W = w1.alloc (.cells #[.string N, .bool true, .bool true] 46) := ⟨_, rfl⟩
      rw [← hW1] at tb ⊢
      have hz : w1.heap.size < W1.heap.size := by rw [hW1]; simp
      have TB := Lib.hid tb
      obtain ⟨d0, d1, d2, f0, f1, f2, bel⟩ := tb
      clear hW1 hb1 TWO bel
      go_wp2_with (first | (go_at_call 22; refine Calls.mono (HFT.out _) ?_; rintro e w2 ⟨rfl, hb2⟩; have TB2 := Lib.hid (TB.out.on hb2 (by omega) hz); have hs2 := hb2.size; obtain ⟨d0, d1, d2, f0, f1, f2, -⟩ := TB2.out) | (go_at_call 23; refine Calls.mono (HDT.out _ TB2.out.bel) ?_; rintro e w3 ⟨rfl, hb3⟩))
      go_ret
      refine ⟨?_, ?_⟩
      · rw [HR.out, keyP_t, numP_t, ← HD.out, ← uTT]; rfl
      · exact TB2.out.bel.trans (hb3.mono TB2.out.bel.size)
end Go.Proofs.YtklphdomjhliaaaDoor.W
