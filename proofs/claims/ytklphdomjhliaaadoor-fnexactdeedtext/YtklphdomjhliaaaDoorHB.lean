/-
  Contracts of the model's words of deeds, and of its DeedText.
-/
import Derived.Test.YtklphdomjhliaaaDoorH1
import Derived.Test.YtklphdomjhliaaaDoorB2
import Derived.Deep.RegionWith
namespace Go.Proofs.YtklphdomjhliaaaDoor.W
open Go.RowKit K R B

def deV (d : De) : Value := .agg #[.int .i64 d.kind, .string d.key, .int .i64 d.num]
theorem namesS (w : World) : Calls Tryd.prog 26 #[] w fun e w' => e = .returned (.slice (some ⟨w.heap.size, 0, none⟩) 7 7) ∧ w' = w.alloc (.cells #[.string ⟨#[]⟩, .string ⟨#[112, 117, 116]⟩, .string ⟨#[116, 97, 107, 101]⟩, .string ⟨#[104, 111, 108, 100]⟩, .string ⟨#[102, 114, 101, 101]⟩, .string ⟨#[100, 111, 119, 110]⟩, .string ⟨#[106, 111, 105, 110]⟩] 9) := by
  go_enter Tryd.func26, Tryd.ntmps26
  go_wp2
  go_ret
  exact ⟨rfl, rfl⟩

theorem inS_t {n a b : Int} (h : a ≤ n ∧ n ≤ b) (w : World) : Calls Tryd.prog 24 #[.int .i64 n, .int .i64 a, .int .i64 b] w fun e w' => e = .returned (.bool true) ∧ w = w' := by
  have := inS n a b w
  rwa [show inB n a b = true from decide_eq_true h] at this
theorem inS_f {n a b : Int} (h : ¬ (a ≤ n ∧ n ≤ b)) (w : World) : Calls Tryd.prog 24 #[.int .i64 n, .int .i64 a, .int .i64 b] w fun e w' => e = .returned (.bool false) ∧ w = w' := by
  have := inS n a b w
  rwa [show inB n a b = false from decide_eq_false h] at this
theorem deed_bad {d : De} (h : kinB d.kind = false ∨ fitB (hkB d.kind) (hnB d.kind) d.key d.num = false) : ofL (deedL d) = (⟨#[]⟩ : ByteArray) := by
  have : deedB d = false := by
    unfold deedB
    rcases h with h | h <;> rw [h]
    · rfl
    · exact Bool.and_false _
  unfold deedL
  rw [this]; rfl
theorem deed_good {d : De} (h1 : kinB d.kind = true) (h2 : fitB (hkB d.kind) (hnB d.kind) d.key d.num = true) : ofL (deedL d) = ofL (nmL d.kind) ++ (ofL (keyP (hkB d.kind) d.key) ++ ofL (numP (hnB d.kind) d.num)) := by
  unfold deedL deedB
  rw [h1, h2, ← ofL_app, ← ofL_app]; rfl
theorem keyP_t (k : ByteArray) : ofL (keyP true k) = (⟨#[32, 46]⟩ : ByteArray) ++ k := by
  rw [← of_data k, show (⟨#[32, 46]⟩ : ByteArray) = ofL [32, 46] from rfl, ← ofL_app]
  unfold keyP
  rw [if_pos rfl, of_data]; rfl
theorem numP_t (n : Int) : ofL (numP true n) = (⟨#[32]⟩ : ByteArray) ++ ofL (decL n.toNat) := by
  rw [show (⟨#[32]⟩ : ByteArray) = ofL [32] from rfl, ← ofL_app]
  unfold numP
  rw [if_pos rfl]; rfl
theorem keyP_f (k : ByteArray) : ofL (keyP false k) = (⟨#[]⟩ : ByteArray) := rfl
theorem numP_f (n : Int) : ofL (numP false n) = (⟨#[]⟩ : ByteArray) := rfl

theorem not_empty {k : ByteArray} (h : k ≠ ByteArray.empty) : k.data.toList ≠ [] := fun e => h (by rw [← of_data k, e]; rfl)
theorem tTT (n k D : ByteArray) : n ++ (⟨#[32, 46]⟩ : ByteArray) ++ k ++ (⟨#[32]⟩ : ByteArray) ++ D = n ++ (((⟨#[32, 46]⟩ : ByteArray) ++ k) ++ ((⟨#[32]⟩ : ByteArray) ++ D)) := by simp only [ByteArray.append_assoc]
theorem tTF (n k : ByteArray) : n ++ (⟨#[32, 46]⟩ : ByteArray) ++ k = n ++ (((⟨#[32, 46]⟩ : ByteArray) ++ k) ++ (⟨#[]⟩ : ByteArray)) := by
  apply ByteArray.ext; simp
theorem tFT (n D : ByteArray) : n ++ (⟨#[32]⟩ : ByteArray) ++ D = n ++ ((⟨#[]⟩ : ByteArray) ++ ((⟨#[32]⟩ : ByteArray) ++ D)) := by
  apply ByteArray.ext; simp
theorem tFF (n : ByteArray) : n = n ++ ((⟨#[]⟩ : ByteArray) ++ (⟨#[]⟩ : ByteArray)) := by
  apply ByteArray.ext; simp
theorem belw {b a W : World} (h : Below b.heap.size b a) (h1 : W.heap = a.heap) (h2 : W.os = a.os) (h3 : W.tape = a.tape) (h4 : W.output = a.output) : Below b.heap.size b W :=
  ⟨h2.trans h.os, h3.trans h.tape, h4.trans h.output, by rw [h1]; exact h.size, fun k hk => by rw [h1]; exact h.block k hk⟩
/-- a deed's box -/
def DeBox (w : World) (g : Nat) (d : De) : Prop := ∃ t x, w.heap[g]? = some (.cells #[.int .i64 d.kind, .string d.key, .int .i64 d.num] t x)
theorem DeBox.c0 {w : World} {g : Nat} {d : De} (h : DeBox w g d) : w.cell? ⟨g, 0, none⟩ = some (.int .i64 d.kind) ∧ w.cell? ⟨g, 1, none⟩ = some (.string d.key) ∧ w.cell? ⟨g, 2, none⟩ = some (.int .i64 d.num) := by
  obtain ⟨t, x, h⟩ := h
  refine ⟨?_, ?_, ?_⟩ <;> (rw [cell_of_row _ _ _ _ _ _ h]; rfl)

set_option maxHeartbeats 8000000 in
set_option maxRecDepth 100000 in
/-- the model's DeedText -/
theorem deedS (k : Int) (key : ByteArray) (num : Int) (w : World) (hs : key.size ≤ maxLen) :
    Calls Tryd.prog 10 #[.agg #[.int .i64 k, .string key, .int .i64 num]] w fun e w' => e = .returned (.string (ofL (deedL ⟨k, key, num⟩))) ∧ Below w.heap.size w w' := by
  have HB0 := Lib.hid ((Below.refl w.heap.size w).alloc (Nat.le_refl _) (.cells #[.int .i64 k, .string key, .int .i64 num] 24))
  by_cases hk : kinB k = true
  case neg =>
    have hb : ¬ (1 ≤ k ∧ k ≤ 6) := by unfold kinB at hk; simpa using hk
    have n1 : ¬ k = 1 := by omega
    have n2 : ¬ k = 2 := by omega
    have n4 : ¬ k = 4 := by omega
    have n6 : ¬ k = 6 := by omega
    have HIN := Lib.hid (fun W => inS_f hb W)
    have HR := Lib.hid (deed_bad (d := ⟨k, key, num⟩) (.inl (by simpa using hk)))
    clear hk hb
    go_enter Tryd.func10, Tryd.ntmps10
    go_wp2_with (go_at_call 24; refine Calls.mono (HIN.out _) ?_; rintro e w1 ⟨rfl, rfl⟩)
    go_ret
    exact ⟨by rw [HR.out]; rfl, HB0.out⟩
  rcases kin_cases hk with rfl | rfl | rfl | rfl | rfl | rfl
  ·
    have HI1 := Lib.hid (show inB 1 1 6 = true from rfl)
    by_cases h1 : keyB key = true
    case neg =>
      have HR := Lib.hid (deed_bad (d := ⟨1, key, num⟩) (.inr (by cases hf : fitB (hkB 1) (hnB 1) key num with | false => rfl | true => exact absurd (fit_key hf).1 h1)))
      have HK := Lib.hid (fun W => keyS key W hs)
      rw [show keyB key = false by simpa using h1] at HK
      clear h1
      go_enter Tryd.func10, Tryd.ntmps10
      go_wp2_with (first | (go_at_call 24; refine Calls.mono (inS _ _ _ _) ?_; rintro e w1 ⟨rfl, rfl⟩; (try rw [HI1.out])) | (go_at_call 25; refine Calls.mono (HK.out _) ?_; rintro e w1 ⟨rfl, rfl⟩))
      go_ret
      exact ⟨by rw [HR.out]; rfl, HB0.out⟩
    have HK := Lib.hid (fun W => keyS key W hs)
    rw [h1] at HK
    by_cases h2 : 0 ≤ num ∧ num ≤ 999
    case neg =>
      have HR := Lib.hid (deed_bad (d := ⟨1, key, num⟩) (.inr (by cases hf : fitB (hkB 1) (hnB 1) key num with | false => rfl | true => exact absurd ⟨(fit_num hf).1, (fit_num hf).2.1⟩ h2)))
      have HI2 := Lib.hid (show inB num 0 999 = false from decide_eq_false h2)
      clear h2
      go_enter Tryd.func10, Tryd.ntmps10
      go_wp2_with (first | (go_at_call 24; refine Calls.mono (inS _ _ _ _) ?_; rintro e w1 ⟨rfl, rfl⟩; (try rw [HI1.out]); (try rw [HI2.out])) | (go_at_call 25; refine Calls.mono (HK.out _) ?_; rintro e w1 ⟨rfl, rfl⟩))
      go_ret
      exact ⟨by rw [HR.out]; rfl, HB0.out⟩
    have HI2 := Lib.hid (show inB num 0 999 = true from decide_eq_true h2)
    have HR := Lib.hid (deed_good (d := ⟨1, key, num⟩) rfl (fit_mk h1 (fun e => by cases e) h2.1 h2.2 (fun e => by cases e)))
    have hk5 : key.size ≤ 5 := by unfold keyB at h1; rw [Bool.and_eq_true] at h1; exact of_decide_eq_true h1.1
    obtain ⟨D, hD⟩ : ∃ D, D = ofL (decL num.toNat) := ⟨_, rfl⟩
    have hDs : D.size ≤ 3 := by rw [hD, ofL_size]; exact dec_len3 (by omega)
    have HDT := Lib.hid (fun W => decS num.toNat W (by omega))
    rw [Int.toNat_of_nonneg h2.1, ← hD] at HDT
    have HD := Lib.hid hD
    clear hD
    clear h1
    have HN := Lib.hid (fun W => namesS W)
    go_enter Tryd.func10, Tryd.ntmps10
    go_upto_region 5 with (first | (go_at_call 24; refine Calls.mono (inS _ _ _ _) ?_; rintro e w1 ⟨rfl, rfl⟩; (try rw [HI1.out]); (try rw [HI2.out])) | (go_at_call 25; refine Calls.mono (HK.out _) ?_; rintro e w1 ⟨rfl, rfl⟩))
    go_region_with (go_at_call 26; refine Calls.mono (HN.out _) ?_; rintro e w2 ⟨rfl, rfl⟩)
    all_goals
      go_wp2_with (go_at_call 27; refine Calls.mono (HDT.out _) ?_; rintro e w3 ⟨rfl, hb3⟩)
      go_ret
      refine ⟨?_, ?_⟩
      · rw [HR.out, show hkB 1 = true from rfl, show hnB 1 = true from rfl, keyP_t, numP_t, ← HD.out]; rw [← tTT]; rfl
      · exact (belw (HB0.out.alloc (by simp) _) (by rfl) (by rfl) (by rfl) (by rfl)).trans (hb3.mono (by simp; omega))
  ·
    have HI1 := Lib.hid (show inB 2 1 6 = true from rfl)
    by_cases h1 : keyB key = true
    case neg =>
      have HR := Lib.hid (deed_bad (d := ⟨2, key, num⟩) (.inr (by cases hf : fitB (hkB 2) (hnB 2) key num with | false => rfl | true => exact absurd (fit_key hf).1 h1)))
      have HK := Lib.hid (fun W => keyS key W hs)
      rw [show keyB key = false by simpa using h1] at HK
      clear h1
      go_enter Tryd.func10, Tryd.ntmps10
      go_wp2_with (first | (go_at_call 24; refine Calls.mono (inS _ _ _ _) ?_; rintro e w1 ⟨rfl, rfl⟩; (try rw [HI1.out])) | (go_at_call 25; refine Calls.mono (HK.out _) ?_; rintro e w1 ⟨rfl, rfl⟩))
      go_ret
      exact ⟨by rw [HR.out]; rfl, HB0.out⟩
    have HK := Lib.hid (fun W => keyS key W hs)
    rw [h1] at HK
    by_cases h2 : num = 0
    case neg =>
      have HR := Lib.hid (deed_bad (d := ⟨2, key, num⟩) (.inr (by cases hf : fitB (hkB 2) (hnB 2) key num with | false => rfl | true => exact absurd ((fit_num hf).2.2 rfl) h2)))
      go_enter Tryd.func10, Tryd.ntmps10
      go_wp2_with (first | (go_at_call 24; refine Calls.mono (inS _ _ _ _) ?_; rintro e w1 ⟨rfl, rfl⟩; (try rw [HI1.out])) | (go_at_call 25; refine Calls.mono (HK.out _) ?_; rintro e w1 ⟨rfl, rfl⟩))
      go_ret
      exact ⟨by rw [HR.out]; rfl, HB0.out⟩
    subst h2
    have HR := Lib.hid (deed_good (d := ⟨2, key, 0⟩) rfl (fit_mk h1 (fun e => by cases e) (Int.le_refl _) (show (0 : Int) ≤ 999 by decide) (fun _ => rfl)))
    have hk5 : key.size ≤ 5 := by unfold keyB at h1; rw [Bool.and_eq_true] at h1; exact of_decide_eq_true h1.1
    clear h1
    have HN := Lib.hid (fun W => namesS W)
    go_enter Tryd.func10, Tryd.ntmps10
    go_upto_region 5 with (first | (go_at_call 24; refine Calls.mono (inS _ _ _ _) ?_; rintro e w1 ⟨rfl, rfl⟩; (try rw [HI1.out])) | (go_at_call 25; refine Calls.mono (HK.out _) ?_; rintro e w1 ⟨rfl, rfl⟩))
    go_region_with (go_at_call 26; refine Calls.mono (HN.out _) ?_; rintro e w2 ⟨rfl, rfl⟩)
    all_goals
      go_wp2
      go_ret
      refine ⟨?_, ?_⟩
      · rw [HR.out, show hkB 2 = true from rfl, show hnB 2 = false from rfl, keyP_t, numP_f]; rw [← tTF]; rfl
      · exact belw (HB0.out.alloc (by simp) _) (by rfl) (by rfl) (by rfl) (by rfl)
  ·
    have HI1 := Lib.hid (show inB 3 1 6 = true from rfl)
    by_cases h1 : key = ByteArray.empty
    case neg =>
      have HR := Lib.hid (deed_bad (d := ⟨3, key, num⟩) (.inr (by cases hf : fitB (hkB 3) (hnB 3) key num with | false => rfl | true => exact absurd ((fit_key hf).2 rfl) h1)))
      have q1 := not_empty h1
      have q2 : key.toList.isEmpty = false := by rw [ByteArray.toList_eq]; simpa using q1
      clear h1
      go_enter Tryd.func10, Tryd.ntmps10
      go_wp2_with (first | (go_at_call 24; refine Calls.mono (inS _ _ _ _) ?_; rintro e w1 ⟨rfl, rfl⟩; (try rw [HI1.out])))
      go_ret
      exact ⟨by rw [HR.out]; rfl, HB0.out⟩
    subst h1
    by_cases h2 : num = 0
    case neg =>
      have HR := Lib.hid (deed_bad (d := ⟨3, ByteArray.empty, num⟩) (.inr (by cases hf : fitB (hkB 3) (hnB 3) ByteArray.empty num with | false => rfl | true => exact absurd ((fit_num hf).2.2 rfl) h2)))
      go_enter Tryd.func10, Tryd.ntmps10
      go_wp2_with (first | (go_at_call 24; refine Calls.mono (inS _ _ _ _) ?_; rintro e w1 ⟨rfl, rfl⟩; (try rw [HI1.out])))
      go_ret
      exact ⟨by rw [HR.out]; rfl, HB0.out⟩
    subst h2
    have HR := Lib.hid (deed_good (d := ⟨3, ByteArray.empty, 0⟩) rfl (fit_mk key_empty (fun _ => rfl) (Int.le_refl _) (show (0 : Int) ≤ 999 by decide) (fun _ => rfl)))
    have HN := Lib.hid (fun W => namesS W)
    go_enter Tryd.func10, Tryd.ntmps10
    go_upto_region 5 with (first | (go_at_call 24; refine Calls.mono (inS _ _ _ _) ?_; rintro e w1 ⟨rfl, rfl⟩; (try rw [HI1.out])))
    go_region_with (go_at_call 26; refine Calls.mono (HN.out _) ?_; rintro e w2 ⟨rfl, rfl⟩)
    all_goals
      go_wp2
      go_ret
      refine ⟨?_, ?_⟩
      · rw [HR.out, show hkB 3 = false from rfl, show hnB 3 = false from rfl, keyP_f, numP_f]; rw [← tFF]; rfl
      · exact belw (HB0.out.alloc (by simp) _) (by rfl) (by rfl) (by rfl) (by rfl)
  ·
    have HI1 := Lib.hid (show inB 4 1 6 = true from rfl)
    by_cases h1 : key = ByteArray.empty
    case neg =>
      have HR := Lib.hid (deed_bad (d := ⟨4, key, num⟩) (.inr (by cases hf : fitB (hkB 4) (hnB 4) key num with | false => rfl | true => exact absurd ((fit_key hf).2 rfl) h1)))
      have q1 := not_empty h1
      have q2 : key.toList.isEmpty = false := by rw [ByteArray.toList_eq]; simpa using q1
      clear h1
      go_enter Tryd.func10, Tryd.ntmps10
      go_wp2_with (first | (go_at_call 24; refine Calls.mono (inS _ _ _ _) ?_; rintro e w1 ⟨rfl, rfl⟩; (try rw [HI1.out])))
      go_ret
      exact ⟨by rw [HR.out]; rfl, HB0.out⟩
    subst h1
    by_cases h2 : 0 ≤ num ∧ num ≤ 999
    case neg =>
      have HR := Lib.hid (deed_bad (d := ⟨4, ByteArray.empty, num⟩) (.inr (by cases hf : fitB (hkB 4) (hnB 4) ByteArray.empty num with | false => rfl | true => exact absurd ⟨(fit_num hf).1, (fit_num hf).2.1⟩ h2)))
      have HI2 := Lib.hid (show inB num 0 999 = false from decide_eq_false h2)
      clear h2
      go_enter Tryd.func10, Tryd.ntmps10
      go_wp2_with (first | (go_at_call 24; refine Calls.mono (inS _ _ _ _) ?_; rintro e w1 ⟨rfl, rfl⟩; (try rw [HI1.out]); (try rw [HI2.out])))
      go_ret
      exact ⟨by rw [HR.out]; rfl, HB0.out⟩
    have HI2 := Lib.hid (show inB num 0 999 = true from decide_eq_true h2)
    have HR := Lib.hid (deed_good (d := ⟨4, ByteArray.empty, num⟩) rfl (fit_mk key_empty (fun _ => rfl) h2.1 h2.2 (fun e => by cases e)))
    obtain ⟨D, hD⟩ : ∃ D, D = ofL (decL num.toNat) := ⟨_, rfl⟩
    have hDs : D.size ≤ 3 := by rw [hD, ofL_size]; exact dec_len3 (by omega)
    have HDT := Lib.hid (fun W => decS num.toNat W (by omega))
    rw [Int.toNat_of_nonneg h2.1, ← hD] at HDT
    have HD := Lib.hid hD
    clear hD
    have HN := Lib.hid (fun W => namesS W)
    go_enter Tryd.func10, Tryd.ntmps10
    go_upto_region 5 with (first | (go_at_call 24; refine Calls.mono (inS _ _ _ _) ?_; rintro e w1 ⟨rfl, rfl⟩; (try rw [HI1.out]); (try rw [HI2.out])))
    go_region_with (go_at_call 26; refine Calls.mono (HN.out _) ?_; rintro e w2 ⟨rfl, rfl⟩)
    all_goals
      go_wp2_with (go_at_call 27; refine Calls.mono (HDT.out _) ?_; rintro e w3 ⟨rfl, hb3⟩)
      go_ret
      refine ⟨?_, ?_⟩
      · rw [HR.out, show hkB 4 = false from rfl, show hnB 4 = true from rfl, keyP_f, numP_t, ← HD.out]; rw [← tFT]; rfl
      · exact (belw (HB0.out.alloc (by simp) _) (by rfl) (by rfl) (by rfl) (by rfl)).trans (hb3.mono (by simp; omega))
  ·
    have HI1 := Lib.hid (show inB 5 1 6 = true from rfl)
    by_cases h1 : key = ByteArray.empty
    case neg =>
      have HR := Lib.hid (deed_bad (d := ⟨5, key, num⟩) (.inr (by cases hf : fitB (hkB 5) (hnB 5) key num with | false => rfl | true => exact absurd ((fit_key hf).2 rfl) h1)))
      have q1 := not_empty h1
      have q2 : key.toList.isEmpty = false := by rw [ByteArray.toList_eq]; simpa using q1
      clear h1
      go_enter Tryd.func10, Tryd.ntmps10
      go_wp2_with (first | (go_at_call 24; refine Calls.mono (inS _ _ _ _) ?_; rintro e w1 ⟨rfl, rfl⟩; (try rw [HI1.out])))
      go_ret
      exact ⟨by rw [HR.out]; rfl, HB0.out⟩
    subst h1
    by_cases h2 : num = 0
    case neg =>
      have HR := Lib.hid (deed_bad (d := ⟨5, ByteArray.empty, num⟩) (.inr (by cases hf : fitB (hkB 5) (hnB 5) ByteArray.empty num with | false => rfl | true => exact absurd ((fit_num hf).2.2 rfl) h2)))
      go_enter Tryd.func10, Tryd.ntmps10
      go_wp2_with (first | (go_at_call 24; refine Calls.mono (inS _ _ _ _) ?_; rintro e w1 ⟨rfl, rfl⟩; (try rw [HI1.out])))
      go_ret
      exact ⟨by rw [HR.out]; rfl, HB0.out⟩
    subst h2
    have HR := Lib.hid (deed_good (d := ⟨5, ByteArray.empty, 0⟩) rfl (fit_mk key_empty (fun _ => rfl) (Int.le_refl _) (show (0 : Int) ≤ 999 by decide) (fun _ => rfl)))
    have HN := Lib.hid (fun W => namesS W)
    go_enter Tryd.func10, Tryd.ntmps10
    go_upto_region 5 with (first | (go_at_call 24; refine Calls.mono (inS _ _ _ _) ?_; rintro e w1 ⟨rfl, rfl⟩; (try rw [HI1.out])))
    go_region_with (go_at_call 26; refine Calls.mono (HN.out _) ?_; rintro e w2 ⟨rfl, rfl⟩)
    all_goals
      go_wp2
      go_ret
      refine ⟨?_, ?_⟩
      · rw [HR.out, show hkB 5 = false from rfl, show hnB 5 = false from rfl, keyP_f, numP_f]; rw [← tFF]; rfl
      · exact belw (HB0.out.alloc (by simp) _) (by rfl) (by rfl) (by rfl) (by rfl)
  ·
    have HI1 := Lib.hid (show inB 6 1 6 = true from rfl)
    by_cases h1 : key = ByteArray.empty
    case neg =>
      have HR := Lib.hid (deed_bad (d := ⟨6, key, num⟩) (.inr (by cases hf : fitB (hkB 6) (hnB 6) key num with | false => rfl | true => exact absurd ((fit_key hf).2 rfl) h1)))
      have q1 := not_empty h1
      have q2 : key.toList.isEmpty = false := by rw [ByteArray.toList_eq]; simpa using q1
      clear h1
      go_enter Tryd.func10, Tryd.ntmps10
      go_wp2_with (first | (go_at_call 24; refine Calls.mono (inS _ _ _ _) ?_; rintro e w1 ⟨rfl, rfl⟩; (try rw [HI1.out])))
      go_ret
      exact ⟨by rw [HR.out]; rfl, HB0.out⟩
    subst h1
    by_cases h2 : 0 ≤ num ∧ num ≤ 999
    case neg =>
      have HR := Lib.hid (deed_bad (d := ⟨6, ByteArray.empty, num⟩) (.inr (by cases hf : fitB (hkB 6) (hnB 6) ByteArray.empty num with | false => rfl | true => exact absurd ⟨(fit_num hf).1, (fit_num hf).2.1⟩ h2)))
      have HI2 := Lib.hid (show inB num 0 999 = false from decide_eq_false h2)
      clear h2
      go_enter Tryd.func10, Tryd.ntmps10
      go_wp2_with (first | (go_at_call 24; refine Calls.mono (inS _ _ _ _) ?_; rintro e w1 ⟨rfl, rfl⟩; (try rw [HI1.out]); (try rw [HI2.out])))
      go_ret
      exact ⟨by rw [HR.out]; rfl, HB0.out⟩
    have HI2 := Lib.hid (show inB num 0 999 = true from decide_eq_true h2)
    have HR := Lib.hid (deed_good (d := ⟨6, ByteArray.empty, num⟩) rfl (fit_mk key_empty (fun _ => rfl) h2.1 h2.2 (fun e => by cases e)))
    obtain ⟨D, hD⟩ : ∃ D, D = ofL (decL num.toNat) := ⟨_, rfl⟩
    have hDs : D.size ≤ 3 := by rw [hD, ofL_size]; exact dec_len3 (by omega)
    have HDT := Lib.hid (fun W => decS num.toNat W (by omega))
    rw [Int.toNat_of_nonneg h2.1, ← hD] at HDT
    have HD := Lib.hid hD
    clear hD
    have HN := Lib.hid (fun W => namesS W)
    go_enter Tryd.func10, Tryd.ntmps10
    go_upto_region 5 with (first | (go_at_call 24; refine Calls.mono (inS _ _ _ _) ?_; rintro e w1 ⟨rfl, rfl⟩; (try rw [HI1.out]); (try rw [HI2.out])))
    go_region_with (go_at_call 26; refine Calls.mono (HN.out _) ?_; rintro e w2 ⟨rfl, rfl⟩)
    all_goals
      go_wp2_with (go_at_call 27; refine Calls.mono (HDT.out _) ?_; rintro e w3 ⟨rfl, hb3⟩)
      go_ret
      refine ⟨?_, ?_⟩
      · rw [HR.out, show hkB 6 = false from rfl, show hnB 6 = true from rfl, keyP_f, numP_t, ← HD.out]; rw [← tFT]; rfl
      · exact (belw (HB0.out.alloc (by simp) _) (by rfl) (by rfl) (by rfl) (by rfl)).trans (hb3.mono (by simp; omega))
end Go.Proofs.YtklphdomjhliaaaDoor.W

