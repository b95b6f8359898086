/-
  A run is drawn: the model's l71Run.
-/
import Derived.Test.YtbckgmfopbpocaaEK
import Derived.Test.YtbckgmfopbpocaaJ3
namespace Go.Proofs.Ytbckgmfopbpocaa.W
open Go.RowKit K R

/-- a run is drawn, in a row of its own from block 'base' on; only the reader and new memory have turned -/
def RunD (d base g p n c : Nat) (A : Option Addr) (w : World) (e : Ending) (w' : World) : Prop :=
  ∃ (v : Value) (l : List En) (p' : Nat), runB l = true ∧ p' ≤ p + d ∧ e = .returned v ∧ OwnE w' base v l ∧ Rd w' g p' A n c ∧ w.grownBy w' (some g)
theorem rowGrown {E : TypeId} {sz : Nat} {w w' : World} {base g n : Nat} {v : Value} {cs : List Value} (h : w.ownsRow base E sz v n cs) (hg : w.grownBy w' (some g)) (hlt : g < base) : w'.ownsRow base E sz v n cs :=
  World.ownsRow.kept h hg (by
    cases e : v.ownBlock with
    | none => exact .inl rfl
    | some k => exact .inr (fun x => by have := (World.ownsRow.lt h k e).1; injection x; omega))
theorem grown_setnew {a w : World} {g b : Nat} (h : a.grownBy w (some g)) (hb : a.heap.size ≤ b) (i : Nat) (u : Value) : a.grownBy (w.setCell ⟨b, i, none⟩ u) (some g) :=
  ⟨h.os, h.tape, h.output, by simpa [World.setCell] using h.size, fun k hk hn => (heap_setCell_other _ _ _ _ (by show k ≠ b; omega)).trans (h.block k hk hn)⟩
theorem one_ents (w : World) (k : ByteArray) (v : Int) (g : Bool) (t : Int) (ty : TypeId) : Ents (w.alloc (.cells #[.string k, .int .i64 v, .bool g, .int .i64 t] ty)) (w.heap.size + 1) (some ⟨w.heap.size, 0, none⟩) 1 [⟨k, v, g, t⟩] :=
  ⟨rfl, fun i hi => by
    have h0 : i = 0 := by simp at hi; exact hi
    subst h0
    refine ⟨w.heap.size, 0, rfl, Nat.lt_succ_self _, ?_, ?_, ?_, ?_⟩
    · rw [cell_of_row _ _ _ _ _ _ (heap_alloc_new w _)]; rfl
    · rw [cell_of_row _ _ _ _ _ _ (heap_alloc_new w _)]; rfl
    · rw [cell_of_row _ _ _ _ _ _ (heap_alloc_new w _)]; rfl
    · rw [cell_of_row _ _ _ _ _ _ (heap_alloc_new w _)]; rfl⟩
theorem run_nil : runB [] = true := rfl
theorem run_len {l : List En} (h : runB l = true) : l.length ≤ 40 := (run_iff.mp h).1
theorem run_key {l : List En} (h : runB l = true) : ∀ e ∈ l, e.key.size ≤ 5 := fun e he => by
  have h := (run_iff.mp h).2.1 e he
  rw [okE_parts] at h
  exact of_decide_eq_true (Bool.and_eq_true_iff.mp (Bool.and_eq_true_iff.mp h).1).1

/-- at the loop's head: so many entries are to come -/
def LoopR (w : World) (M g p n c : Nat) (A : Option Addr) (ks : List ByteArray) (kv out nv : Value) (wr : World) : Prop :=
  ∃ (v : Value) (l : List En) (k q : Nat), nv = .int .i64 (k : Nat) ∧ out = v ∧ k ≤ M ∧ q + 40 * k ≤ p + 40 * M ∧ runB l = true ∧ OwnE wr w.heap.size v l ∧ Own wr w.heap.size kv ks ∧ Rd wr g q A n c ∧ w.grownBy wr (some g)

set_option maxHeartbeats 4000000 in
set_option maxRecDepth 100000 in
theorem runDr (w : World) (g p n c M : Nat) (A : Option Addr) (hr : Rd w g p A n c) (hp : p ≤ 700000) (hM : M ≤ 100) :
    Calls Try.prog 10 #[.pointer (some ⟨g, 0, none⟩), .int .i64 (M : Nat)] w (RunD 9000 w.heap.size g p n c A w) := by
  have hglt : g < w.heap.size := (Array.getElem?_eq_some_iff.1 hr.blk).1
  have HR := Lib.hid hr
  clear hr
  go_enter Try.func10, Try.ntmps10
  go_wp2_with fail
  go_at_call 13
  refine Calls.mono (keysD w g p n c 5 A HR.out (by omega) (by omega)) ?_
  rintro e w1 ⟨kv, ks, p1, hkl, hsh, hp1, rfl, ho1, hr1, hg1⟩
  have hs1 := hg1.size
  obtain ⟨V, cc, hv, hc1, hm1, -⟩ := ho1.parts
  subst hv
  have HSH := Lib.hid hsh
  have HO1 := Lib.hid (rowBelow ho1 ((Below.refl _ _).alloc (Nat.le_refl _) (.cells #[] 38)))
  have HE1 := Lib.hid (ownE_base (emptyE w1) hs1)
  have HR1 := Lib.hid (hr1.alloc (.cells #[] 38))
  have HG1 := Lib.hid (hg1.trans (World.grownBy_alloc w1 (.cells #[] 38) (some g)))
  clear hsh ho1 hr1 hg1 HR
  go_wp2_with fail
  go_at_call 14
  refine Calls.mono (pick _ g p1 n c A ((M : Int) + 1) HR1.out (by omega) (by omega)) ?_
  rintro e w2 ⟨x, rfl, hx0, hx1, hr2, hg2⟩
  obtain ⟨X, rfl⟩ := Int.eq_ofNat_of_zero_le hx0
  have hX : X ≤ M := by omega
  have HR2 := Lib.hid hr2
  have HO2 := Lib.hid (rowGrown HO1.out hg2 hglt)
  have HE2 := Lib.hid (rowGrown HE1.out hg2 hglt)
  have HG2 := Lib.hid (HG1.out.trans hg2)
  clear hx0 hx1 hr2 hg2 HO1 HE1 HR1 HG1
  go_wp2_with fail
  go_loopw [6, 7] (fun out nv wr => LoopR w M g (p1 + 1) n c A ks (.slice V ks.length cc) out nv wr) (fun _ nv _ => (intOf nv).toNat)
  case atStart => exact ⟨_, [], X, p1 + 1, rfl, rfl, hX, by omega, run_nil, HE2.out, HO2.out, HR2.out, HG2.out⟩
  case round =>
    obtain ⟨v, l, k, q, rfl, hv, hkM, hq, hrun, hown, hok, hr3, hg3⟩ := hrel
    have hv1 := hv.symm
    clear hv
    subst hv1
    have HRUN := Lib.hid hrun
    have HOW := Lib.hid hown
    have HOK := Lib.hid hok
    have HR3 := Lib.hid hr3
    have HG3 := Lib.hid hg3
    have hsz := hg3.size
    clear hrun hown hok hr3 hg3 HO2 HE2 HR2 HG2
    by_cases hk : 0 < k
    · obtain ⟨V', cc', hv', -, -, hs1'⟩ := HOK.out.parts
      injection hv' with ea eb ec
      subst ea ec
      go_wp2_with fail
      go_at_call 15
      refine Calls.mono (nearD wr g q n c A wr.heap.size ks.length cc V ks HR3.out (by omega) hs1' (Nat.le_refl _) (HOK.out.far hglt) HSH.out (by omega)) ?_
      rintro e w4 ⟨s, q4, hs6, hq4, rfl, hr4, hg4⟩
      have HR4 := Lib.hid hr4
      have HG4 := Lib.hid hg4
      clear hr4 hg4 hs1'
      go_wp2_with fail
      go_at_call 14
      refine Calls.mono (pick w4 g q4 n c A 100 HR4.out (by omega) (by omega)) ?_
      rintro e w5 ⟨y, rfl, hy0, hy1, hr5, hg5⟩
      have HR5 := Lib.hid hr5
      have HG5 := Lib.hid (HG4.out.trans hg5)
      clear hr5 hg5 HR4 HG4
      go_wp2_with fail
      go_at_call 14
      refine Calls.mono (pick w5 g (q4 + 1) n c A 60 HR5.out (by omega) (by omega)) ?_
      rintro e w6 ⟨t, rfl, ht0, ht1, hr6, hg6⟩
      have HR6 := Lib.hid hr6
      have HG6 := Lib.hid (HG5.out.trans hg6)
      have hsz6 := HG6.out.size
      clear hr6 hg6 HR5 HG5
      obtain ⟨T, hT⟩ : ∃ T : Int, T = 1 + t := ⟨_, rfl⟩
      have eT : IntKind.i64.wrap (1 + t) = T := by rw [hT]; exact i64_z _ (by omega) (by omega)
      clear hT
      go_wp2_with fail
      go_at_call 14
      have HRb := Lib.hid (HR6.out.alloc (.cells #[.string s, .int .i64 y, .bool false, .int .i64 T] 38))
      refine Calls.mono (pick _ g (q4 + 1 + 1) n c A 4 HRb.out (by omega) (by omega)) ?_
      rintro e w7 ⟨z, rfl, hz0, hz1, hr7, hg7⟩
      have HR7 := Lib.hid hr7
      have hblk : w7.heap[w6.heap.size]? = some (.cells #[.string s, .int .i64 y, .bool false, .int .i64 T] 38) := (hg7.block w6.heap.size (by simp) (fun e => by injection e; omega)).trans (heap_alloc_new w6 _)
      have hs7 : w6.heap.size + 1 ≤ w7.heap.size := by have := hg7.size; simpa using this
      have HG7 := Lib.hid (HG6.out.trans ((World.grownBy_alloc w6 (.cells #[.string s, .int .i64 y, .bool false, .int .i64 T] 38) (some g)).trans hg7))
      clear hr7 hg7 HR6 HG6 HRb
      obtain ⟨Z, rfl⟩ := Int.eq_ofNat_of_zero_le hz0
      by_cases hZ : Z = 0
      · subst hZ
        have f1 := frozen_of_row _ _ 1 _ _ hblk
        have f2 := frozen_of_row _ _ 2 _ _ hblk
        have c0 := cell_of_row _ _ 0 _ _ _ hblk
        have c1 := cell_of_row _ _ 1 _ _ _ hblk
        have c2 := cell_of_row _ _ 2 _ _ _ hblk
        have c3 := cell_of_row _ _ 3 _ _ _ hblk
        simp at c0 c1 c2 c3
        have HG9 := Lib.hid (grown_setnew (grown_setnew HG7.out hsz6 2 (.bool true)) hsz6 1 (.int .i64 0))
        have HR9 := Lib.hid (HR7.out.below (((Below.refl w6.heap.size w7).setCell (p := ⟨w6.heap.size, 2, none⟩) (Nat.le_refl _) (.bool true)).setCell (p := ⟨w6.heap.size, 1, none⟩) (Nat.le_refl _) (.int .i64 0)) (by omega))
        have HOW0 := Lib.hid HOW.out
        obtain ⟨V9, cc9, hv9, hc9, hm9, he9⟩ := ownE_parts (rowGrown HOW.out HG9.out hglt)
        subst hv9
        have hl40 := run_len HRUN.out
        have HOKg := Lib.hid (rowGrown HOK.out HG9.out hglt)
        have HJ := Lib.hid (show Calls Try.prog 16 #[.slice V9 l.length cc9, .slice (some ⟨w7.heap.size, 0, none⟩) 1 1] (((w7.setCell ⟨w6.heap.size, 2, none⟩ (.bool true)).setCell ⟨w6.heap.size, 1, none⟩ (.int .i64 0)).alloc (.cells #[.string s, .int .i64 0, .bool true, .int .i64 T] 38)) fun e w' => ∃ v, e = .returned v ∧ OwnE w' w.heap.size v (joinL l [⟨s, 0, true, T⟩]) ∧ Own w' w.heap.size (.slice V ks.length cc) ks ∧ Rd w' g (q4 + 1 + 1 + 1) A n c ∧ wr.grownBy w' (some g) from by
          have hWs : ((w7.setCell ⟨w6.heap.size, 2, none⟩ (.bool true)).setCell ⟨w6.heap.size, 1, none⟩ (.int .i64 0)).heap.size = w7.heap.size := by simp [World.setCell]
          have bA : Below ((w7.setCell ⟨w6.heap.size, 2, none⟩ (.bool true)).setCell ⟨w6.heap.size, 1, none⟩ (.int .i64 0)).heap.size ((w7.setCell ⟨w6.heap.size, 2, none⟩ (.bool true)).setCell ⟨w6.heap.size, 1, none⟩ (.int .i64 0)) (((w7.setCell ⟨w6.heap.size, 2, none⟩ (.bool true)).setCell ⟨w6.heap.size, 1, none⟩ (.int .i64 0)).alloc (.cells #[.string s, .int .i64 0, .bool true, .int .i64 T] 38)) := (Below.refl _ _).alloc (Nat.le_refl _) _
          have h1 := one_ents ((w7.setCell ⟨w6.heap.size, 2, none⟩ (.bool true)).setCell ⟨w6.heap.size, 1, none⟩ (.int .i64 0)) s 0 true T 38
          rw [hWs] at h1
          refine Calls.mono (joinS _ (w7.heap.size + 1) l.length cc9 1 1 V9 _ l [⟨s, 0, true, T⟩] ((he9.below bA (Nat.le_refl _)).more (by rw [hWs]; exact Nat.le_succ _)) h1 (by simp [hWs]) hc9 (by omega) (by omega)) ?_
          rintro e w' ⟨v, he, ho, hb⟩
          have b0 : Below ((w7.setCell ⟨w6.heap.size, 2, none⟩ (.bool true)).setCell ⟨w6.heap.size, 1, none⟩ (.int .i64 0)).heap.size ((w7.setCell ⟨w6.heap.size, 2, none⟩ (.bool true)).setCell ⟨w6.heap.size, 1, none⟩ (.int .i64 0)) w' := bA.trans (hb.mono bA.size)
          exact ⟨v, he, ownE_base ho (by have := bA.size; omega), rowBelow (rowBelow HOKg.out bA) hb, HR9.out.below b0 (by omega), grown_below HG9.out b0⟩)
        clear he9 HOKg
        go_wp2_with fail
        go_at_call 16
        refine Calls.mono HJ.out ?_
        rintro e wj ⟨vj, rfl, oj, okj, rj, gj⟩
        obtain ⟨VJ, cj, hvj, hcj, hmj, ej⟩ := ownE_parts oj
        subst hvj
        have HOJ := Lib.hid oj
        have HKJ := Lib.hid okj
        have HRJ := Lib.hid rj
        have HGJ := Lib.hid gj
        have hgj : g < wj.heap.size := by have := gj.size; omega
        have HQ := Lib.hid (show Calls Try.prog 17 #[.slice VJ (joinL l [⟨s, 0, true, T⟩]).length cj] wj fun e w' => e = .returned (.bool (runB (joinL l [⟨s, 0, true, T⟩]))) ∧ Below wj.heap.size wj w' from runS wj wj.heap.size _ cj VJ _ ej (Nat.le_refl _) (by rw [join_len]; unfold maxLen; simp; omega) (fun e he => by
          rcases mem_join.mp he with he | he
          · have := run_key HRUN.out e he; unfold maxLen; omega
          · rw [List.mem_singleton.mp he]; unfold maxLen; show s.size ≤ _; omega))
        clear oj okj rj gj ej HJ HOW HOK HR9 HG9 HR7 HG7
        obtain ⟨J, hJ⟩ : ∃ J, J = joinL l [⟨s, 0, true, T⟩] := ⟨_, rfl⟩
        rw [← hJ] at HOJ HQ
        rw [← hJ]
        clear hJ
        go_wp2_with fail
        go_at_call 17
        refine Calls.mono HQ.out ?_
        rintro e wk ⟨rfl, bk⟩
        have HOK2 := Lib.hid (rowBelow HOJ.out bk)
        have HKK := Lib.hid (rowBelow HKJ.out bk)
        have HRK := Lib.hid (HRJ.out.below bk hgj)
        have HGK := Lib.hid (HG3.out.trans (grown_below HGJ.out bk))
        have HOL := Lib.hid (rowGrown HOW0.out (grown_below HGJ.out bk) hglt)
        clear bk HOJ HKJ HRJ HGJ HQ HOW0
        rcases Bool.eq_false_or_eq_true (runB J) with hj | hj
        · have HJ9 := Lib.hid hj
          go_wp2
          go_roundw
          case rel => exact ⟨_, J, k - 1, q4 + 1 + 1 + 1, by go_num, rfl, by omega, by omega, HJ9.out, HOK2.out, HKK.out, HRK.out, HGK.out⟩
          case measure => simp [intOf]; omega
        · go_wp2
          go_roundw
          case rel => exact ⟨_, l, k - 1, q4 + 1 + 1 + 1, by go_num, rfl, by omega, by omega, HRUN.out, HOL.out, HKK.out, HRK.out, HGK.out⟩
          case measure => simp [intOf]; omega
      · have hZ' : ((Z : Int) == 0) = false := by simp; omega
        have c0 := cell_of_row _ _ 0 _ _ _ hblk
        have c1 := cell_of_row _ _ 1 _ _ _ hblk
        have c2 := cell_of_row _ _ 2 _ _ _ hblk
        have c3 := cell_of_row _ _ 3 _ _ _ hblk
        simp at c0 c1 c2 c3
        have HG9 := Lib.hid HG7.out
        have HR9 := Lib.hid HR7.out
        have HOW0 := Lib.hid HOW.out
        obtain ⟨V9, cc9, hv9, hc9, hm9, he9⟩ := ownE_parts (rowGrown HOW.out HG9.out hglt)
        subst hv9
        have hl40 := run_len HRUN.out
        have HOKg := Lib.hid (rowGrown HOK.out HG9.out hglt)
        have HJ := Lib.hid (show Calls Try.prog 16 #[.slice V9 l.length cc9, .slice (some ⟨w7.heap.size, 0, none⟩) 1 1] (w7.alloc (.cells #[.string s, .int .i64 y, .bool false, .int .i64 T] 38)) fun e w' => ∃ v, e = .returned v ∧ OwnE w' w.heap.size v (joinL l [⟨s, y, false, T⟩]) ∧ Own w' w.heap.size (.slice V ks.length cc) ks ∧ Rd w' g (q4 + 1 + 1 + 1) A n c ∧ wr.grownBy w' (some g) from by
          have hWs : w7.heap.size = w7.heap.size := rfl
          have bA : Below w7.heap.size w7 (w7.alloc (.cells #[.string s, .int .i64 y, .bool false, .int .i64 T] 38)) := (Below.refl _ _).alloc (Nat.le_refl _) _
          have h1 := one_ents w7 s y false T 38
          rw [hWs] at h1
          refine Calls.mono (joinS _ (w7.heap.size + 1) l.length cc9 1 1 V9 _ l [⟨s, y, false, T⟩] ((he9.below bA (Nat.le_refl _)).more (by rw [hWs]; exact Nat.le_succ _)) h1 (by simp) hc9 (by omega) (by omega)) ?_
          rintro e w' ⟨v, he, ho, hb⟩
          have b0 : Below w7.heap.size w7 w' := bA.trans (hb.mono bA.size)
          exact ⟨v, he, ownE_base ho (by have := bA.size; omega), rowBelow (rowBelow HOKg.out bA) hb, HR9.out.below b0 (by omega), grown_below HG9.out b0⟩)
        clear he9 HOKg
        go_wp2_with fail
        go_at_call 16
        refine Calls.mono HJ.out ?_
        rintro e wj ⟨vj, rfl, oj, okj, rj, gj⟩
        obtain ⟨VJ, cj, hvj, hcj, hmj, ej⟩ := ownE_parts oj
        subst hvj
        have HOJ := Lib.hid oj
        have HKJ := Lib.hid okj
        have HRJ := Lib.hid rj
        have HGJ := Lib.hid gj
        have hgj : g < wj.heap.size := by have := gj.size; omega
        have HQ := Lib.hid (show Calls Try.prog 17 #[.slice VJ (joinL l [⟨s, y, false, T⟩]).length cj] wj fun e w' => e = .returned (.bool (runB (joinL l [⟨s, y, false, T⟩]))) ∧ Below wj.heap.size wj w' from runS wj wj.heap.size _ cj VJ _ ej (Nat.le_refl _) (by rw [join_len]; unfold maxLen; simp; omega) (fun e he => by
          rcases mem_join.mp he with he | he
          · have := run_key HRUN.out e he; unfold maxLen; omega
          · rw [List.mem_singleton.mp he]; unfold maxLen; show s.size ≤ _; omega))
        clear oj okj rj gj ej HJ HOW HOK HR9 HG9 HR7 HG7
        obtain ⟨J, hJ⟩ : ∃ J, J = joinL l [⟨s, y, false, T⟩] := ⟨_, rfl⟩
        rw [← hJ] at HOJ HQ
        rw [← hJ]
        clear hJ
        go_wp2_with fail
        go_at_call 17
        refine Calls.mono HQ.out ?_
        rintro e wk ⟨rfl, bk⟩
        have HOK2 := Lib.hid (rowBelow HOJ.out bk)
        have HKK := Lib.hid (rowBelow HKJ.out bk)
        have HRK := Lib.hid (HRJ.out.below bk hgj)
        have HGK := Lib.hid (HG3.out.trans (grown_below HGJ.out bk))
        have HOL := Lib.hid (rowGrown HOW0.out (grown_below HGJ.out bk) hglt)
        clear bk HOJ HKJ HRJ HGJ HQ HOW0
        rcases Bool.eq_false_or_eq_true (runB J) with hj | hj
        · have HJ9 := Lib.hid hj
          go_wp2
          go_roundw
          case rel => exact ⟨_, J, k - 1, q4 + 1 + 1 + 1, by go_num, rfl, by omega, by omega, HJ9.out, HOK2.out, HKK.out, HRK.out, HGK.out⟩
          case measure => simp [intOf]; omega
        · go_wp2
          go_roundw
          case rel => exact ⟨_, l, k - 1, q4 + 1 + 1 + 1, by go_num, rfl, by omega, by omega, HRUN.out, HOL.out, HKK.out, HRK.out, HGK.out⟩
          case measure => simp [intOf]; omega
    · have hk0 : k = 0 := by omega
      subst hk0
      go_wp2
      go_ret
      exact ⟨_, l, q, HRUN.out, by omega, rfl, HOW.out, HR3.out, HG3.out⟩

end Go.Proofs.Ytbckgmfopbpocaa.W
