/-
  Contracts of the program's validTrie, SieveOk, SieveSize, SieveHeads and SieveHas, at every filter.
  The program's StoreLooks and StoreSpans.
  The exact laws of StoreLooks and StoreSpans, as walks over the contracts.
  What a law is told of a slice of entries that came in: it can be read, and each key is a string that Go can hold.
  What a law is told of a store that came in: it can be read, and all its strings are such as Go can hold.
-/
import Derived.Test.YtfhpkcamigkmdaaGreatDoorZAY
import Derived.Test.YtfhpkcamigkmdaaGreatDoorX17
import Derived.Test.YtfhpkcamigkmdaaGreatDoorZAL
import Derived.Test.YtfhpkcamigkmdaaGreatDoorZAX
import Derived.Test.YtfhpkcamigkmdaaGreatDoorZAW
import Derived.Test.YtfhpkcamigkmdaaGreatDoorZAA
import Derived.Test.YtfhpkcamigkmdaaGreatDoorZAI
import Derived.Test.YtfhpkcamigkmdaaGreatDoorZAJ
import Derived.Test.YtfhpkcamigkmdaaGreatDoorZAH
import Derived.Deep.RegionHeld3
import Derived.ProofKit
import Derived.OpenShut
import Derived.ShutString
import Derived.SliceStrings
namespace Go.Proofs.YtfhpkcamigkmdaaGreatDoor.W
open Go.RowKit K

/-- what validTrie answers, at every filter -/
def ValidA (w : World) (L M_ F : ByteArray) (l : List ByteArray) (keep : Int) (e : Ending) (w' : World) : Prop :=
  (svB L M_ F l keep = true ∧ ∃ kp : Nat, keep = kp ∧ kp ≤ 5 ∧ RdFit L M_ F l kp ∧ ∃ A c, e = .returned (.tuple #[.slice A (svOf L M_ F l kp).top c, .bool true]) ∧ Trs w' (fun k => w'.heap.size ≤ k) A (svOf L M_ F l kp).top (svOf L M_ F l kp).rd ∧ Below w.heap.size w w') ∨
  (svB L M_ F l keep = false ∧ ∃ A n c, e = .returned (.tuple #[.slice A n c, .bool false]) ∧ Below w.heap.size w w')

set_option maxHeartbeats 2000000 in
theorem validSvI (L M_ F : ByteArray) (A : Option Addr) (n c : Nat) (l : List ByteArray) (keep : Int) (w : World) (hM : M_.size ≤ maxLen) (hF : F.size ≤ maxLen) (hr : Strs w w.heap.size A n l) (hfit : ∀ i (h : i < l.length), l[i].size ≤ 1000000000000) :
    Calls Tryz.prog 117 #[.agg #[.string L, .string M_, .string F, .slice A n c, .int .i64 keep]] w (ValidA w L M_ F l keep) := by
  have hln := hr.len
  subst hln
  rcases Bool.eq_false_or_eq_true (formB L M_ F l.length keep) with hfo | hfo
  · obtain ⟨p1, p2, p3, p4, p5, p6⟩ := form_parts hfo
    obtain ⟨kp, rfl⟩ := Int.eq_ofNat_of_zero_le p5
    refine (validC L M_ F A l.length c l kp w hr hfo hfit (fun W hs => readYes L M_ F A l.length c l kp W hs hfo)).mono ?_
    rintro e w' (⟨h1, A1, c1, rfl, h2, -, -, h3⟩ | ⟨h1, A1, n1, c1, rfl, h3⟩)
    · exact .inl ⟨h1, kp, rfl, by omega, rd_fit hfo hfit (kpt_is (svB_is h1)).1, A1, c1, rfl, h2, h3⟩
    · exact .inr ⟨h1, A1, n1, c1, rfl, h3⟩
  · have hsv := Lib.hid (show svB L M_ F l keep = false by unfold svB; rw [hfo]; rfl)
    have HRN := Lib.hid (fun W => readNo L M_ F A l.length c keep W hM hF hfo)
    clear hfo hfit hr
    go_enter Tryz.func117, Tryz.ntmps117
    go_wp2_with fail
    go_at_call 153
    refine (HRN.out _).mono ?_
    rintro e w1 ⟨rfl, hb1⟩
    have HBB := Lib.hid (((Below.refl w.heap.size w).alloc (Nat.le_refl _) (.cells #[.string L, .string M_, .string F, .slice A l.length c, .int .i64 keep] 92)).trans (hb1.mono (by simp)))
    clear hb1
    go_wp2
    go_ret2
    exact .inr ⟨hsv.out, _, _, _, rfl, HBB.out⟩

theorem validW {L M_ F : ByteArray} {A : Option Addr} {n c : Nat} {l : List ByteArray} {keep : Int} {w : World} (hM : M_.size ≤ maxLen) (hF : F.size ≤ maxLen) (hr : Strs w w.heap.size A n l) (hfit : ∀ i (h : i < l.length), l[i].size ≤ 1000000000000) :
    ∀ W, Below w.heap.size w W → Calls Tryz.prog 117 #[.agg #[.string L, .string M_, .string F, .slice A n c, .int .i64 keep]] W (ValidA W L M_ F l keep) := fun W hW =>
  validSvI L M_ F A n c l keep W hM hF ((hr.below hW (Nat.le_refl _)).more hW.size) hfit

/-- the trie of a filter that is one has a key just if the filter has -/
theorem has_kpt {L M_ F : ByteArray} {l : List ByteArray} {kp : Nat} {k : ByteArray} (h : svB L M_ F l kp = true) (hk : keyB k = true) : T.hasT (svOf L M_ F l kp).rd k.toList (k.size + 1) 0 0 = T.hasK kp (svOf L M_ F l kp).heads k.toList := by
  have hi := svB_is h
  rw [(kpt_is hi).2.2]
  have := T.has_sieve hi.1 kp (isKey_of hk)
  rw [len_L] at this
  exact this

set_option maxHeartbeats 1000000 in
theorem hasSI (L M_ F : ByteArray) (A : Option Addr) (n c : Nat) (l : List ByteArray) (keep : Int) (k : ByteArray) (w : World) (hM : M_.size ≤ maxLen) (hF : F.size ≤ maxLen) (hks : k.size ≤ maxLen) (hr : Strs w w.heap.size A n l) (hfit : ∀ i (h : i < l.length), l[i].size ≤ 1000000000000) :
    Calls Tryz.prog 74 #[.agg #[.string L, .string M_, .string F, .slice A n c, .int .i64 keep], .string k] w fun e w' => e = .returned (.bool (hasO L M_ F l keep k)) ∧ Below w.heap.size w w' := by
  have HV := Lib.hid (validW (L := L) (c := c) (keep := keep) hM hF hr hfit)
  have HK := Lib.hid (fun W => keyI k W hks)
  clear hr hfit
  go_enter Tryz.func74, Tryz.ntmps74
  go_wp2_with fail
  go_at_call 117
  refine Calls.mono (HV.out _ (by first | exact Below.refl _ _ | exact bel_same (by rfl) (by rfl) (by rfl) (by rfl) | exact bel_al (by rfl) (by rfl) (by rfl) (by rfl))) ?_
  rintro e w1 (⟨h1, kp, rfl, hkp, hfitr, A1, c1, rfl, htr, hb1⟩ | ⟨h1, A1, n1, c1, rfl, hb1⟩)
  · have HB := Lib.hid (show Below w.heap.size w w1 by first | exact hb1 | exact ((Below.refl w.heap.size w).alloc (Nat.le_refl _) _).trans (hb1.mono (by simp)))
    have hlt1 := HB.out.size
    obtain ⟨tp, htp⟩ : ∃ t, t = (svOf L M_ F l kp).top := ⟨_, rfl⟩
    rcases Bool.eq_false_or_eq_true (keyB k) with g | g
    · have hk5 : k.size ≤ 5 := by unfold keyB at g; simp only [Bool.and_eq_true, decide_eq_true_eq] at g; exact g.1
      have HHA := Lib.hid (hasI _ hfitr.ahead (fun x hx => (hfitr.nodes x hx).1) hfitr.pos A1 (svOf L M_ F l kp).top c1 (by have := hfitr.top; omega) k (by omega) w1 w1.heap.size htr (Nat.le_refl _))
      have HRE := Lib.hid (show hasO L M_ F l kp k = T.hasT (svOf L M_ F l kp).rd k.toList (k.size + 1) 0 0 by unfold hasO; rw [h1, g, Int.toNat_natCast, has_kpt h1 g]; rfl)
      rw [← HRE.out] at HHA
      rw [← htp] at HHA ⊢
      rw [g] at HK
      obtain ⟨R, hR⟩ : ∃ R, R = hasO L M_ F l kp k := ⟨_, rfl⟩
      rw [← hR] at HHA
      have HRR := Lib.hid hR
      clear hb1 h1 htr hfitr htp g hR HRE
      go_wp2_with (first
        | (go_at_call 70; refine (HK.out _).mono ?_; rintro e w2 ⟨rfl, hw2⟩; subst hw2)
        | (go_at_call 118; refine HHA.out.mono ?_; rintro e w3 ⟨rfl, hb3⟩; have HB3 := Lib.hid hb3; clear hb3))
      go_ret
      exact ⟨ret_bool HRR.out, HB.out.trans (HB3.out.mono hlt1)⟩
    · have HRE := Lib.hid (show hasO L M_ F l kp k = false by unfold hasO; rw [g]; simp)
      rw [← htp]
      rw [g] at HK
      clear hb1 h1 htr hfitr htp g
      go_wp2_with (go_at_call 70; refine (HK.out _).mono ?_; rintro e w2 ⟨rfl, hw2⟩; subst hw2)
      go_ret
      exact ⟨ret_bool HRE.out.symm, HB.out⟩
  · have HRE := Lib.hid (show hasO L M_ F l keep k = false by unfold hasO; rw [h1]; rfl)
    have HB := Lib.hid (show Below w.heap.size w w1 by first | exact hb1 | exact ((Below.refl w.heap.size w).alloc (Nat.le_refl _) _).trans (hb1.mono (by simp)))
    clear hb1 h1
    go_wp2
    go_ret
    exact ⟨ret_bool HRE.out.symm, HB.out⟩

end Go.Proofs.YtfhpkcamigkmdaaGreatDoor.W
namespace Go.Proofs.YtfhpkcamigkmdaaGreatDoor.W
open Go.RowKit K R

def f3 {α : Type} (a b c : α) : Nat → α
  | 0 => a
  | 1 => b
  | _ => c
theorem cnt3 (p : Sf → Bool) (a b c : Sf) : cntB (fun i => p (f3 a b c i)) = (([a, b, c].filter p).length : Nat) := by
  have h : List.range 3 = [0, 1, 2] := by decide
  unfold cntB
  rw [h]
  cases ha : p a <;> cases hb : p b <;> cases hc : p c <;> simp [f3, ha, hb, hc]
theorem lvl_sf {keep : Int} {i : Nat} {r : List En} {x : Sf} (h : lvlB keep i r x = true) : x = sfOf r keep := by
  unfold lvlB at h
  simp only [Bool.and_eq_true] at h
  obtain ⟨-, -, -, h⟩ := h
  rw [sfB_eq] at h
  unfold eqB at h
  simp only [Bool.and_eq_true, beq_iff_eq, decide_eq_true_eq] at h
  obtain ⟨h1, h2, h3, h4, h5⟩ := h
  obtain ⟨a, b, c, d, e⟩ := x
  unfold sfOf
  rw [Sf.mk.injEq]
  exact ⟨ba_ext h1, ba_ext h2, ba_ext h3, sameL_iff.mp h4, h5⟩
theorem sieves_of {s : Sto} (h : StP s) {l0 l1 l2 : List En} (hl : s.levels = [l0, l1, l2]) : s.sieves = [sfOf l0 s.keep, sfOf l1 s.keep, sfOf l2 s.keep] := by
  obtain ⟨x0, x1, x2, hx⟩ : ∃ x0 x1 x2, s.sieves = [x0, x1, x2] := by
    have h3 := h.ns
    match s.sieves, h3 with
    | [a, b, c], _ => exact ⟨a, b, c, rfl⟩
  have e0 := lvl_sf (h.lvl 0 (by rw [hl]; simp) (by rw [hx]; simp))
  have e1 := lvl_sf (h.lvl 1 (by rw [hl]; simp) (by rw [hx]; simp))
  have e2 := lvl_sf (h.lvl 2 (by rw [hl]; simp) (by rw [hx]; simp))
  simp [hl, hx] at e0 e1 e2
  rw [hx, e0, e1, e2]
theorem f3_mem {α : Type} {a b c : α} {k : Nat} (hk : k < 3) : f3 a b c k ∈ [a, b, c] := by
  rcases (by omega : k = 0 ∨ k = 1 ∨ k = 2) with rfl | rfl | rfl <;> simp [f3]
/-- a filled tree, by letters -/
theorem TreeK.G {W0 w : World} {g : Nat} {cur : Array Value} {A8 A9 : Option Addr} {k8 k9 : Nat} {top l0 l1 l2 : List En} {keep time : Int} {times : List Int} (h : TreeK W0 w g cur A8 A9 k8 k9 top [l0, l1, l2] keep time times 3) :
    ∃ A B n c m d, w.heap[g]? = some (.cells (boxG A8 top.length k8 A B n c m d (f3 (sfOf l0 keep) (sfOf l1 keep) (sfOf l2 keep)) (.slice A9 times.length k9) keep time) 119 (0, 0)) ∧
      ∀ k, k < 3 → Strs w w.heap.size (B k) (m k) (f3 (sfOf l0 keep) (sfOf l1 keep) (sfOf l2 keep) k).rests ∧ Ents w w.heap.size (A k) (n k) (f3 l0 l1 l2 k) ∧ n k ≤ c k ∧ c k ≤ maxLen := by
  obtain ⟨A1, A2, A3, B0, B1, B2, c1, c2, c3, d0, d1, d2, tm⟩ := h.tree
  have hcur : cur = treeC (.slice A8 top.length k8) (.slice A1 l0.length c1) (sfOf l0 keep) (.slice B0 (sfOf l0 keep).rests.length d0) (.slice A2 l1.length c2) (sfOf l1 keep) (.slice B1 (sfOf l1 keep).rests.length d1) (.slice A3 l2.length c3) (sfOf l2 keep) (.slice B2 (sfOf l2 keep).rests.length d2) keep time (.slice A9 times.length k9) := by
    have := h.row.symm.trans tm.box
    injection this with this
    injection this
  obtain ⟨a0, b0, k0, e0, m0⟩ := h.lv 0 (by simp) (by omega)
  obtain ⟨a1, b1, k1, e1, m1⟩ := h.lv 1 (by simp) (by omega)
  obtain ⟨a2, b2, k2, e2, m2⟩ := h.lv 2 (by simp) (by omega)
  have y0 := m0.c4
  have y1 := m1.c4
  have y2 := m2.c4
  rw [hcur] at y0 y1 y2
  injection (show some (Value.slice B0 (sfOf l0 keep).rests.length d0) = some _ from y0) with y0
  injection (show some (Value.slice B1 (sfOf l1 keep).rests.length d1) = some _ from y1) with y1
  injection (show some (Value.slice B2 (sfOf l2 keep).rests.length d2) = some _ from y2) with y2
  injection y0 with y0
  injection y1 with y1
  injection y2 with y2
  subst y0 y1 y2
  refine ⟨f3 A1 A2 A3, f3 B0 B1 B2, f3 l0.length l1.length l2.length, f3 c1 c2 c3, f3 (sfOf l0 keep).rests.length (sfOf l1 keep).rests.length (sfOf l2 keep).rests.length, f3 d0 d1 d2, tm.box, fun k hk => ?_⟩
  rcases (by omega : k = 0 ∨ k = 1 ∨ k = 2) with rfl | rfl | rfl
  · exact ⟨strs_own' m0.rests, tm.e1, tm.m1⟩
  · exact ⟨strs_own' m1.rests, tm.e2, tm.m2⟩
  · exact ⟨strs_own' m2.rests, tm.e3, tm.m3⟩

theorem cell_lt {W : World} {b o : Nat} {v : Value} (h : W.cell? ⟨b, o, none⟩ = some v) : b < W.heap.size := by
  by_cases hb : b < W.heap.size
  · exact hb
  · exfalso
    have hn : W.heap[b]? = none := Array.getElem?_eq_none (by omega)
    unfold World.cell? at h
    rw [show W.heap[(⟨b, o, none⟩ : Addr).block]? = none from hn] at h
    cases h

set_option maxHeartbeats 2000000 in
theorem looksF (W : World) (p0 : Nat) (k : ByteArray) (hc0 : W.cell? ⟨p0, 0, none⟩ = some (.string k)) (hk : k.size ≤ maxLen) (L M_ F : ByteArray) (A : Option Addr) (n c : Nat) (l : List ByteArray) (keep : Int) (hM : M_.size ≤ maxLen) (hF : F.size ≤ maxLen) (hr : Strs W W.heap.size A n l) (hfit : ∀ i (h : i < l.length), l[i].size ≤ 1000000000000) :
    Calls Tryz.prog 89 #[.agg #[.string L, .string M_, .string F, .slice A n c, .int .i64 keep], .pointer (some ⟨p0, 0, none⟩)] W fun e w' => e = .returned (.bool (hasO L M_ F l keep k)) ∧ Below W.heap.size W w' := by
  obtain ⟨W0, hW0⟩ : ∃ W0, W0 = W.alloc (.cells #[.string L, .string M_, .string F, .slice A n c, .int .i64 keep] 92) := ⟨_, rfl⟩
  have hbw : Below W.heap.size W W0 := by rw [hW0]; exact (Below.refl _ _).alloc (Nat.le_refl _) _
  have q0 : W0.cell? ⟨W.heap.size, 0, none⟩ = some (.string L) := by rw [hW0, cell_of_row _ _ _ _ _ _ (heap_alloc_new W _)]; rfl
  have q1 : W0.cell? ⟨W.heap.size, 1, none⟩ = some (.string M_) := by rw [hW0, cell_of_row _ _ _ _ _ _ (heap_alloc_new W _)]; rfl
  have q2 : W0.cell? ⟨W.heap.size, 2, none⟩ = some (.string F) := by rw [hW0, cell_of_row _ _ _ _ _ _ (heap_alloc_new W _)]; rfl
  have q3 : W0.cell? ⟨W.heap.size, 3, none⟩ = some (.slice A n c) := by rw [hW0, cell_of_row _ _ _ _ _ _ (heap_alloc_new W _)]; rfl
  have q4 : W0.cell? ⟨W.heap.size, 4, none⟩ = some (.int .i64 keep) := by rw [hW0, cell_of_row _ _ _ _ _ _ (heap_alloc_new W _)]; rfl
  have c0 : W0.cell? ⟨p0, 0, none⟩ = some (.string k) := (hbw.cell (p := ⟨p0, 0, none⟩) (cell_lt hc0)).trans hc0
  have HC := Lib.hid (hasSI L M_ F A n c l keep k W0 hM hF hk ((hr.below hbw (Nat.le_refl _)).more hbw.size) hfit)
  have HB := Lib.hid hbw
  have HW0 := Lib.hid hW0
  clear hbw hW0 hr hfit hM hF hk hc0
  go_enter Tryz.func89, Tryz.ntmps89
  go_upto_region 1 with fail
  rw [← HW0.out]
  go_wp2_with fail
  go_at_call 74
  refine Calls.mono HC.out ?_
  rintro e w2 ⟨rfl, hb⟩
  have HB2 := Lib.hid (HB.out.trans (hb.mono HB.out.size))
  clear hb
  go_wp2
  go_ret
  exact ⟨rfl, HB2.out⟩

set_option maxHeartbeats 4000000 in
theorem looksI (w : World) (A0 A1 A2 A5 : Option Addr) (c0 c1 c2 c5 : Nat) (s : Sto) (hr : StM w w.heap.size A0 A1 A2 A5 c0 c1 c2 c5 s) (hsm : smallSt s) (hE : NoRoom w) (k : ByteArray) (hk : k.size ≤ maxLen) :
    Calls Tryz.prog 32 #[stV A0 A1 A2 A5 c0 c1 c2 c5 s, .string k] w (LookA s (hasS k) (keyB k) w) := by
  obtain ⟨top, levels, sieves, keep, time, times⟩ := s
  obtain ⟨Wa, hWa⟩ : ∃ W, W = w.alloc (.cells #[.slice A0 top.length c0, .slice A1 levels.length c1, .slice A2 sieves.length c2, .int .i64 keep, .int .i64 time, .slice A5 times.length c5] 33) := ⟨_, rfl⟩
  obtain ⟨Wb, hWb⟩ : ∃ W, W = Wa.alloc (.cells #[.string k] 9) := ⟨_, rfl⟩
  have hba : Below w.heap.size w Wa := by rw [hWa]; exact (Below.refl _ _).alloc (Nat.le_refl _) _
  have hsa : Wa.heap.size = w.heap.size + 1 := by rw [hWa]; simp
  have hbb : Below Wa.heap.size Wa Wb := by rw [hWb]; exact (Below.refl _ _).alloc (Nat.le_refl _) _
  have hsb : Wb.heap.size = w.heap.size + 1 + 1 := by rw [hWb]; simp [hsa]
  have hbw : Below w.heap.size w Wb := hba.trans (hbb.mono hba.size)
  have x0 : Wb.cell? ⟨w.heap.size + 1, 0, none⟩ = some (.string k) := by rw [hWb, ← hsa, cell_of_row _ _ _ _ _ _ (heap_alloc_new Wa _)]; rfl
  have HCL := Lib.hid (show ∀ W, Below Wb.heap.size Wb W → W.cell? ⟨w.heap.size + 1, 0, none⟩ = some (.string k) from fun W hW => (hW.cell (p := ⟨w.heap.size + 1, 0, none⟩) (by show w.heap.size + 1 < _; rw [hsb]; omega)).trans x0)
  have xs : Wa.heap[w.heap.size]? = some (.cells #[.slice A0 top.length c0, .slice A1 levels.length c1, .slice A2 sieves.length c2, .int .i64 keep, .int .i64 time, .slice A5 times.length c5] 33 (0, 0)) := by rw [hWa]; exact heap_alloc_new _ _
  have xs2 : Wb.heap[w.heap.size]? = some (.cells #[.slice A0 top.length c0, .slice A1 levels.length c1, .slice A2 sieves.length c2, .int .i64 keep, .int .i64 time, .slice A5 times.length c5] 33 (0, 0)) := (hbb.block w.heap.size (by rw [hsa]; omega)).trans xs
  obtain ⟨b0, b1, b2, b3, b4, b5⟩ := st_cells xs2
  have HO := Lib.hid (openT Wb A0 A1 A2 A5 c0 c1 c2 c5 ⟨top, levels, sieves, keep, time, times⟩ (hr.own hbw (Nat.le_refl _)) hsm (hE.below hbw))
  have HB := Lib.hid hbw
  have HSM := Lib.hid hsm
  rw [hWa] at hWb
  skip
  have HW0 := Lib.hid hWb
  clear hr hsm hE hbw hba hbb  hsa hsb x0 xs xs2 hWb hWa
  simp only [stV] at *
  go_enter Tryz.func32, Tryz.ntmps32
  go_upto_region 1 with fail
  rw [← HW0.out]
  go_wp2_with fail
  go_at_call 69
  refine Calls.mono HO.out ?_
  rintro e w1 ⟨p, b, rfl, hb, hb1, htr⟩
  have HBB := Lib.hid hb
  have HB1 := Lib.hid hb1
  have HTR := Lib.hid htr
  clear hb hb1 htr b0 b1 b2 b3 b4 b5
  have k0 := HCL.out w1 HB1.out
  skip
  cases b with
  | false =>
    clear HTR
    go_wp2
    go_ret
    exact ⟨false, by simp [lookZ], (by simpa using HBB.out), HB.out.trans (HB1.out.mono HB.out.size)⟩
  | true =>
    obtain ⟨Wt, g, cur, A8, A9, k8, k9, l0, l1, l2, rfl, hlv, -, -, htk⟩ := HTR.out rfl
    clear HTR
    have hst := HBB.out.mp rfl
    have HSO := Lib.hid (sieves_of hst hlv)
    obtain ⟨A, B, n, c, m, d, hbox, hall⟩ := htk.G
    have HCO := Lib.hid (show ∀ W, w1 = W → Calls Tryz.prog 88 #[.pointer (some ⟨g, 0, none⟩), .func (.func 89) #[] #[.pointer (some ⟨w.heap.size + 1, 0, none⟩)]] W fun e w' => e = .returned (.int .i64 (lookZ ⟨top, levels, sieves, keep, time, times⟩ (hasS k) true true)) ∧ Below W.heap.size W w' from fun W hW => by
      subst hW
      have hz : lookZ ⟨top, levels, sieves, keep, time, times⟩ (hasS k) true true = cntB (fun i => hasS k (f3 (sfOf l0 keep) (sfOf l1 keep) (sfOf l2 keep) i)) := by
        rw [cnt3 (hasS k)]
        have h := HSO.out
        simp only at h
        simp only [lookZ, and_self, if_true]
        rw [h]
      rw [hz]
      refine countL w1 g A8 top.length k8 A B n c m d _ _ keep time (fun i => hasS k (f3 (sfOf l0 keep) (sfOf l1 keep) (sfOf l2 keep) i)) ⟨w.heap.size + 1, 0, none⟩  hbox ?_
      intro W hW j hj
      have hmem : f3 (sfOf l0 keep) (sfOf l1 keep) (sfOf l2 keep) j ∈ sieves := by have h := HSO.out; simp only at h; rw [h]; exact f3_mem hj
      obtain ⟨f1, f2, f3', f4⟩ := smallS_fit (HSM.out.2.2.1.2 _ hmem)
      exact looksF W _  k (HCL.out W (HB1.out.trans (hW.mono HB1.out.size)))  hk _ _ _ _ _ _ _ _ f2 f3' (((hall j hj).1.below hW (Nat.le_refl _)).more hW.size) f4)
    clear hbox hall hst hlv htk
    obtain ⟨q0, hq0⟩ : ∃ x, x = keyB k := ⟨_, rfl⟩
    have HQ0 := Lib.hid hq0
    have HK0 := Lib.hid (fun W => keyI k W hk)
    rw [← hq0] at HK0
    clear hq0
    clear hk
    cases q0 with
    | false =>
      go_wp2_with fail
      go_at_call 70
      refine Calls.mono (HK0.out _) ?_
      rintro e w9 ⟨rfl, rfl⟩
      go_wp2
      go_ret
      exact ⟨true, by simp [lookZ, ← HQ0.out], (by simpa using HBB.out), HB.out.trans (HB1.out.mono HB.out.size)⟩
    | true =>
      go_wp2_with fail
      go_at_call 70
      refine Calls.mono (HK0.out _) ?_
      rintro e w9 ⟨rfl, rfl⟩
      go_wp2_with fail
      go_at_call 88
      refine Calls.mono (HCO.out _ rfl) ?_
      rintro e w3 ⟨rfl, hb⟩
      have HB3 := Lib.hid (HB1.out.trans (hb.mono HB1.out.size))
      clear hb HCO
      go_wp2
      go_ret
      exact ⟨true, by rw [show (keyB k) = true by rw [← HQ0.out]]; rfl, (by simpa using HBB.out), HB.out.trans (HB3.out.mono HB.out.size)⟩

end Go.Proofs.YtfhpkcamigkmdaaGreatDoor.W
namespace Go.Proofs.YtfhpkcamigkmdaaGreatDoor.W
open Go.RowKit K R

set_option maxHeartbeats 4000000 in
theorem exactStoreLooks (w : World) (A0 A1 A2 A5 : Option Addr) (c0 c1 c2 c5 : Nat) (s : Sto) (hr : StM w w.heap.size A0 A1 A2 A5 c0 c1 c2 c5 s) (hf : fitSt s) (hE : NoRoom w) (k : ByteArray) :
    Calls Tryz.prog 9 #[stV A0 A1 A2 A5 c0 c1 c2 c5 s, .string k] w fun e w' => e = .returned (.bool true) ∧ Below w.heap.size w w' := by
  obtain ⟨top, levels, sieves, keep, time, times⟩ := s
  obtain ⟨W0, hW0⟩ : ∃ W0, W0 = w.alloc (.cells #[.slice A0 top.length c0, .slice A1 levels.length c1, .slice A2 sieves.length c2, .int .i64 keep, .int .i64 time, .slice A5 times.length c5] 27) := ⟨_, rfl⟩
  have hbw : Below w.heap.size w W0 := by rw [hW0]; exact (Below.refl _ _).alloc (Nat.le_refl _) _
  have hs0 : W0.heap.size = w.heap.size + 1 := by rw [hW0]; simp
  have x0 : W0.heap[w.heap.size]? = some (.cells #[.slice A0 top.length c0, .slice A1 levels.length c1, .slice A2 sieves.length c2, .int .i64 keep, .int .i64 time, .slice A5 times.length c5] 27 (0, 0)) := by rw [hW0]; exact heap_alloc_new _ _
  have HBX := Lib.hid (show ∀ W, Below W0.heap.size W0 W → _ from fun W hW => st_cells ((hW.block w.heap.size (by omega)).trans x0))
  have HZ := Lib.hid (szSt W0 A0 A1 A2 A5 c0 c1 c2 c5 ⟨top, levels, sieves, keep, time, times⟩ (hr.own hbw (Nat.le_refl _)) hf)
  have HR := Lib.hid (show ∀ W, Below W0.heap.size W0 W → StM W W.heap.size A0 A1 A2 A5 c0 c1 c2 c5 ⟨top, levels, sieves, keep, time, times⟩ from fun W hW => hr.own (hbw.trans (hW.mono hbw.size)) (Nat.le_refl _))
  have HE := Lib.hid (show ∀ W, Below W0.heap.size W0 W → NoRoom W from fun W hW => hE.below (hbw.trans (hW.mono hbw.size)))
  have HCP := Lib.hid (show smallSt ⟨top, levels, sieves, keep, time, times⟩ → ∀ W, Below W0.heap.size W0 W → Calls Tryz.prog 13 #[stV A0 A1 A2 A5 c0 c1 c2 c5 ⟨top, levels, sieves, keep, time, times⟩] W (NewSt W ⟨top, levels, sieves, keep, time, times⟩) from fun hss W hW => copySt W A0 A1 A2 A5 c0 c1 c2 c5 ⟨top, levels, sieves, keep, time, times⟩ (HR.out W hW) hss)
  have hev : stV A0 A1 A2 A5 c0 c1 c2 c5 ⟨top, levels, sieves, keep, time, times⟩ = .agg #[.slice A0 top.length c0, .slice A1 levels.length c1, .slice A2 sieves.length c2, .int .i64 keep, .int .i64 time, .slice A5 times.length c5] := rfl
  rw [hev] at HZ HCP
  have hgoal : stV A0 A1 A2 A5 c0 c1 c2 c5 ⟨top, levels, sieves, keep, time, times⟩ = .agg #[.slice A0 top.length c0, .slice A1 levels.length c1, .slice A2 sieves.length c2, .int .i64 keep, .int .i64 time, .slice A5 times.length c5] := rfl
  rw [hgoal]
  have HB := Lib.hid hbw
  have HW0 := Lib.hid hW0
  clear hr hf hE hbw hW0 hs0 x0 hev hgoal
  by_cases gk : k.size ≤ 1048576
  case neg =>
    have pk : (1048576 : Int) < (k.size : Int) := by omega
    go_enter Tryz.func9, Tryz.ntmps9
    go_wp2
    go_ret
    exact ⟨rfl, (by have h := HB.out; rwa [HW0.out] at h)⟩
  have nk : ¬ (1048576 : Int) < (k.size : Int) := by omega
  have hkk : k.size ≤ maxLen := by unfold maxLen; omega
  clear gk
  go_enter Tryz.func9, Tryz.ntmps9
  go_wp2_with fail
  rw [← HW0.out]
  go_at_call 11
  refine Calls.mono HZ.out ?_
  rintro e w1 ⟨x, rfl, hx0, hx1, hx2, hb1⟩
  have HB1 := Lib.hid hb1
  clear hb1
  obtain ⟨b0, b1', b2', b3, b4, b5⟩ := HBX.out w1 HB1.out
  by_cases hneg : x < 0
  · clear hx2
    go_wp2
    go_ret
    exact ⟨rfl, HB.out.trans (HB1.out.mono HB.out.size)⟩
  have HSM := Lib.hid (hx2 (by omega))
  clear hx2
  go_wp2_with fail
  go_at_call 13
  refine Calls.mono (HCP.out HSM.out w1 HB1.out) ?_
  rintro e w2 ⟨g0, g1, g2, g5, k0, k1, k2, k5, vs1, vs2, rfl, ho, hb⟩
  simp only [stV]
  have HS2 := Lib.hid ho.reads
  have HB2 := Lib.hid (HB1.out.trans (hb.mono HB1.out.size))
  clear ho hb
  go_wp2_with fail
  go_at_call 31
  refine Calls.mono (looksS w2 _ _ _ _ k0 k1 k2 k5 ⟨top, levels, sieves, keep, time, times⟩ HS2.out HSM.out k hkk) ?_
  rintro e w3 ⟨b1, rfl, hbb1, hb⟩
  have HQ1 := Lib.hid hbb1
  have HB3 := Lib.hid (HB2.out.trans (hb.mono HB2.out.size))
  clear hbb1 hb HS2 b0 b1' b2' b3 b4 b5
  obtain ⟨b0, b1', b2', b3, b4, b5⟩ := HBX.out w3 HB3.out
  go_wp2_with fail
  go_at_call 13
  refine Calls.mono (HCP.out HSM.out w3 HB3.out) ?_
  rintro e w4 ⟨h0, h1, h2, h5, j0, j1, j2, j5, us1, us2, rfl, ho, hb⟩
  simp only [stV]
  obtain ⟨W4, hW4⟩ : ∃ W, W = w4.alloc (.cells #[.slice (some ⟨h0, 0, none⟩) top.length j0, .slice (some ⟨h1, 0, none⟩) levels.length j1, .slice (some ⟨h2, 0, none⟩) sieves.length j2, .int .i64 keep, .int .i64 time, .slice (some ⟨h5, 0, none⟩) times.length j5] 33) := ⟨_, rfl⟩
  have hb4 : Below w4.heap.size w4 W4 := by rw [hW4]; exact (Below.refl _ _).alloc (Nat.le_refl _) _
  have x4 : W4.heap[w4.heap.size]? = some (.cells #[.slice (some ⟨h0, 0, none⟩) top.length j0, .slice (some ⟨h1, 0, none⟩) levels.length j1, .slice (some ⟨h2, 0, none⟩) sieves.length j2, .int .i64 keep, .int .i64 time, .slice (some ⟨h5, 0, none⟩) times.length j5] 33 (0, 0)) := by rw [hW4]; exact heap_alloc_new _ _
  have hl4 := (Array.getElem?_eq_some_iff.1 x4).1
  have HX4 := Lib.hid (show ∀ W, Below W4.heap.size W4 W → _ from fun W hW => st_cells ((hW.block w4.heap.size hl4).trans x4))
  have HS4 := Lib.hid (ho.reads.own hb4 (Nat.le_refl _))
  have hb04 := HB3.out.trans (hb.mono HB3.out.size)
  have HB4 := Lib.hid (hb04.trans (hb4.mono hb04.size))
  have HW4 := Lib.hid hW4
  clear ho hb hW4 hb4 x4 hl4 hb04
  go_wp2_with fail
  rw [← HW4.out]
  go_at_call 32
  refine Calls.mono (looksI W4 _ _ _ _ j0 j1 j2 j5 ⟨top, levels, sieves, keep, time, times⟩ HS4.out HSM.out (HE.out W4 HB4.out) k hkk) ?_
  rintro e w5 ⟨b2, rfl, hbb2, hb⟩
  have hbe : b2 = b1 := by rw [Bool.eq_iff_iff]; exact hbb2.trans HQ1.out.symm
  subst hbe
  have HB5 := Lib.hid (HB4.out.trans (hb.mono HB4.out.size))
  have HS5 := Lib.hid (HS4.out.own hb (Nat.le_refl _))
  have HB45 := Lib.hid hb
  clear hbb2 hb HS4 HQ1
  have HR5 := Lib.hid (Below.refl w5.heap.size w5)
  have HSS := Lib.hid (show ∀ W, Below w5.heap.size w5 W → (fun W : World => (W.cell? ⟨w4.heap.size, 0, none⟩ = some (.slice (some ⟨h0, 0, none⟩) top.length j0) ∧ W.cell? ⟨w4.heap.size, 1, none⟩ = some (.slice (some ⟨h1, 0, none⟩) levels.length j1) ∧ W.cell? ⟨w4.heap.size, 2, none⟩ = some (.slice (some ⟨h2, 0, none⟩) sieves.length j2) ∧ W.cell? ⟨w4.heap.size, 3, none⟩ = some (.int .i64 keep) ∧ W.cell? ⟨w4.heap.size, 4, none⟩ = some (.int .i64 time) ∧ W.cell? ⟨w4.heap.size, 5, none⟩ = some (.slice (some ⟨h5, 0, none⟩) times.length j5)) ∧ (W.cell? ⟨w.heap.size, 0, none⟩ = some (.slice A0 top.length c0) ∧ W.cell? ⟨w.heap.size, 1, none⟩ = some (.slice A1 levels.length c1) ∧ W.cell? ⟨w.heap.size, 2, none⟩ = some (.slice A2 sieves.length c2) ∧ W.cell? ⟨w.heap.size, 3, none⟩ = some (.int .i64 keep) ∧ W.cell? ⟨w.heap.size, 4, none⟩ = some (.int .i64 time) ∧ W.cell? ⟨w.heap.size, 5, none⟩ = some (.slice A5 times.length c5))) W from fun W hW => ⟨HX4.out W (HB45.out.trans (hW.mono HB45.out.size)), HBX.out W (HB5.out.trans (hW.mono HB5.out.size))⟩)
  have HTC := Lib.hid (show ∀ W, Below w5.heap.size w5 W → Calls Tryz.prog 13 #[.agg #[.slice A0 top.length c0, .slice A1 levels.length c1, .slice A2 sieves.length c2, .int .i64 keep, .int .i64 time, .slice A5 times.length c5]] W fun e w' => ∃ i0 i1 i2 i5 l0 l1 l2 l5, e = .returned (.agg #[.slice (some ⟨i0, 0, none⟩) top.length l0, .slice (some ⟨i1, 0, none⟩) levels.length l1, .slice (some ⟨i2, 0, none⟩) sieves.length l2, .int .i64 keep, .int .i64 time, .slice (some ⟨i5, 0, none⟩) times.length l5]) ∧ StM w' w'.heap.size (some ⟨i0, 0, none⟩) (some ⟨i1, 0, none⟩) (some ⟨i2, 0, none⟩) (some ⟨i5, 0, none⟩) l0 l1 l2 l5 ⟨top, levels, sieves, keep, time, times⟩ ∧ Below w5.heap.size w5 w' from fun W hW => by
    refine (HCP.out HSM.out W (HB5.out.trans (hW.mono HB5.out.size))).mono ?_
    rintro e w' ⟨i0, i1, i2, i5, l0, l1, l2, l5, ws1, ws2, he, ho, hb⟩
    exact ⟨i0, i1, i2, i5, l0, l1, l2, l5, he, ho.reads, hW.trans (hb.mono hW.size)⟩)
  have HEQ := Lib.hid (show ∀ W i0 i1 i2 i5 l0 l1 l2 l5, StM W W.heap.size (some ⟨i0, 0, none⟩) (some ⟨i1, 0, none⟩) (some ⟨i2, 0, none⟩) (some ⟨i5, 0, none⟩) l0 l1 l2 l5 ⟨top, levels, sieves, keep, time, times⟩ → Below w5.heap.size w5 W → Calls Tryz.prog 15 #[.agg #[.slice (some ⟨h0, 0, none⟩) top.length j0, .slice (some ⟨h1, 0, none⟩) levels.length j1, .slice (some ⟨h2, 0, none⟩) sieves.length j2, .int .i64 keep, .int .i64 time, .slice (some ⟨h5, 0, none⟩) times.length j5], .agg #[.slice (some ⟨i0, 0, none⟩) top.length l0, .slice (some ⟨i1, 0, none⟩) levels.length l1, .slice (some ⟨i2, 0, none⟩) sieves.length l2, .int .i64 keep, .int .i64 time, .slice (some ⟨i5, 0, none⟩) times.length l5]] W fun e w' => e = .returned (.bool true) ∧ Below w5.heap.size w5 w' from fun W i0 i1 i2 i5 l0 l1 l2 l5 hS hW =>
    (eqSt W _ _ _ _ _ _ _ _ j0 j1 j2 j5 l0 l1 l2 l5 ⟨top, levels, sieves, keep, time, times⟩ (HS5.out.own hW (Nat.le_refl _)) hS).mono fun _ _ ⟨x, y⟩ => ⟨x, hW.trans (y.mono hW.size)⟩)
  clear b0 b1' b2' b3 b4 b5
  obtain ⟨⟨y0, y1, y2, y3, y4, y5⟩, b0, b1', b2', b3, b4, b5⟩ := HSS.out w5 HR5.out
  all_goals
    go_upto_region 12 with fail
    go_region_held3 (fun W : World => (W.cell? ⟨w4.heap.size, 0, none⟩ = some (.slice (some ⟨h0, 0, none⟩) top.length j0) ∧ W.cell? ⟨w4.heap.size, 1, none⟩ = some (.slice (some ⟨h1, 0, none⟩) levels.length j1) ∧ W.cell? ⟨w4.heap.size, 2, none⟩ = some (.slice (some ⟨h2, 0, none⟩) sieves.length j2) ∧ W.cell? ⟨w4.heap.size, 3, none⟩ = some (.int .i64 keep) ∧ W.cell? ⟨w4.heap.size, 4, none⟩ = some (.int .i64 time) ∧ W.cell? ⟨w4.heap.size, 5, none⟩ = some (.slice (some ⟨h5, 0, none⟩) times.length j5)) ∧ (W.cell? ⟨w.heap.size, 0, none⟩ = some (.slice A0 top.length c0) ∧ W.cell? ⟨w.heap.size, 1, none⟩ = some (.slice A1 levels.length c1) ∧ W.cell? ⟨w.heap.size, 2, none⟩ = some (.slice A2 sieves.length c2) ∧ W.cell? ⟨w.heap.size, 3, none⟩ = some (.int .i64 keep) ∧ W.cell? ⟨w.heap.size, 4, none⟩ = some (.int .i64 time) ∧ W.cell? ⟨w.heap.size, 5, none⟩ = some (.slice A5 times.length c5))) (exact HSS.out _ (by first | exact HB7.out | exact HB6.out | exact bel2 HR5.out (by rfl) (by rfl) (by rfl) (by rfl))) (first | (go_at_call 13; refine Calls.mono (HTC.out _ (by first | exact HB7.out | exact HB6.out | exact bel2 HR5.out (by rfl) (by rfl) (by rfl) (by rfl))) ?_; rintro e w6 ⟨i0, i1, i2, i5, l0, l1, l2, l5, rfl, hs6, hb6⟩; have HB6 := Lib.hid hb6; have HS6 := Lib.hid hs6; clear hb6 hs6) | (go_at_call 15; refine Calls.mono (HEQ.out _ _ _ _ _ _ _ _ _ HS6.out HB6.out) ?_; rintro e w7 ⟨rfl, hb7⟩; have HB7 := Lib.hid hb7; clear hb7))
    all_goals
      go_wp2
      go_ret
      exact ⟨rfl, HB.out.trans ((HB5.out.trans (HB7.out.mono HB5.out.size)).mono HB.out.size)⟩

end Go.Proofs.YtfhpkcamigkmdaaGreatDoor.W
namespace Go.Proofs.YtfhpkcamigkmdaaGreatDoor.W
open Go.ChangeShapes Go.WideShapes Go.ChangeAt Go.RowKit K R

def IsEnts (w : World) (A : Option Addr) (n c : Nat) (l : List En) : Prop := Ents w w.heap.size A n l ∧ n ≤ c ∧ c ≤ maxLen ∧ ∀ e ∈ l, e.key.size ≤ maxLen
theorem enl_cells : Tryz.prog.cellsOf 106 = 4 := by kernel_rfl
theorem str1_cells : Tryz.prog.cellsOf 9 = 1 := by kernel_rfl
theorem bool1_cells : Tryz.prog.cellsOf 4 = 1 := by kernel_rfl
theorem int1_cells : Tryz.prog.cellsOf 3 = 1 := by kernel_rfl
theorem add_n (b off i : Nat) : (⟨b, off, none⟩ : Addr).add i = ⟨b, off + i, none⟩ := by unfold Addr.add; split <;> simp_all
theorem list_of {α : Type} {P : Nat → α → Prop} : ∀ n, (∀ i, i < n → ∃ e, P i e) → ∃ l : List α, l.length = n ∧ ∀ i (h : i < l.length), P i l[i]
  | 0, _ => ⟨[], rfl, fun i h => absurd h (Nat.not_lt_zero _)⟩
  | n + 1, h => by
    obtain ⟨l, h1, h2⟩ := list_of n fun i hi => h i (by omega)
    obtain ⟨e, he⟩ := h n (by omega)
    refine ⟨l ++ [e], by simp [h1], fun i hi => ?_⟩
    by_cases hin : i < l.length
    · rw [List.getElem_append_left hin]; exact h2 i hin
    · rw [List.length_append, List.length_singleton] at hi
      have : i = l.length := by omega
      subst this
      rw [List.getElem_append_right (Nat.le_refl _)]
      simp
      rw [h1]; exact he

set_option maxRecDepth 100000 in
theorem open_ents {H : Type} {enc : TypeId × Value → H} {W : World} {base : Nat} {spare : Nat → Bool} {held : Bool} {fuel : Nat} {cs : List Value} {x : DataW H × List MemPlace}
    (h : DataW.trod enc Tryz.prog W base spare held fuel 22 cs = some x) :
    cs = [.slice none 0 0] ∨ ∃ (a : Addr) (len cap : Nat) (l : List En), cs = [.slice (some a) len cap] ∧ IsEnts W (some a) len cap l := by
  rcases DataW.trod_slice Tryz.underlying22 h with ⟨h0, -⟩ | ⟨a, len, cap, elems, rest, n, -, rfl, -, hb, hl, hm, hlen, hel, -, -⟩
  · exact .inl h0
  · refine .inr ⟨a, len, cap, ?_⟩
    have each : ∀ i, i < len → ∃ e : En, e.key.size ≤ maxLen ∧ W.cell? ((a.add (i * 4)).add 0) = some (.string e.key) ∧ W.cell? ((a.add (i * 4)).add 1) = some (.int .i64 e.val) ∧ W.cell? ((a.add (i * 4)).add 2) = some (.bool e.gone) ∧ W.cell? ((a.add (i * 4)).add 3) = some (.int .i64 e.time) := by
      intro i hi
      have hb' := hel i hi
      rw [enl_cells, List.getElem?_eq_getElem (by omega), Option.bind_eq_some_iff] at hb'
      obtain ⟨cs', hc, ht⟩ := hb'
      obtain ⟨xs, n', -, -, hcl, hxl, hg⟩ := DataW.trod_struct Tryz.underlying106 ht
      rw [enl_cells] at hcl
      have hxl4 : xs.length = 4 := hxl
      have hcell := World.cells?_some hc
      match cs', hcl, xs, hxl4 with
      | [c0, c1, c2, c3], _, [x0, x1, x2, x3], _ =>
        have g0 := hg 0 _ rfl
        have g1 := hg 1 _ rfl
        have g2 := hg 2 _ rfl
        have g3 := hg 3 _ rfl
        simp [str1_cells] at g0
        simp [int1_cells] at g1 g3
        simp [bool1_cells] at g2
        obtain ⟨k, hk, -, hks⟩ := DataW.trod_string Tryz.underlying9 g0
        obtain ⟨v, hv, -, -⟩ := DataW.trod_int Tryz.underlying3 g1
        obtain ⟨b, hbb, -⟩ := DataW.trod_bool Tryz.underlying4 g2
        obtain ⟨t, htt, -, -⟩ := DataW.trod_int Tryz.underlying3 g3
        simp only [List.cons.injEq, and_true] at hk hv hbb htt
        subst hk hv hbb htt
        exact ⟨⟨k, v, b, t⟩, hks, hcell.2.2 0 (by omega), hcell.2.2 1 (by omega), hcell.2.2 2 (by omega), hcell.2.2 3 (by omega)⟩
    obtain ⟨l, h1, h2⟩ := list_of len each
    refine ⟨l, rfl, ⟨h1, fun i hi => ?_⟩, hl, hm, fun e he => ?_⟩
    · obtain ⟨-, q0, q1, q2, q3⟩ := h2 i hi
      obtain ⟨b, off, spot⟩ := a
      have hspot : spot = none := by
        obtain ⟨-, p0, -⟩ := h2 0 (by omega)
        simpa [Addr.add] using World.cell?_spot p0
      subst hspot
      rw [add_n, add_n] at q0 q1 q2 q3
      exact ⟨b, off, rfl, block_lt_of_cell q0, q0, q1, q2, q3⟩
    · obtain ⟨i, hi, rfl⟩ := List.getElem_of_mem he
      exact (h2 i hi).1

end Go.Proofs.YtfhpkcamigkmdaaGreatDoor.W
namespace Go.Proofs.YtfhpkcamigkmdaaGreatDoor.W
open Go.ChangeShapes Go.WideShapes Go.ChangeAt Go.RowKit K R

theorem svl_cells : Tryz.prog.cellsOf 108 = 5 := by kernel_rfl
theorem enls_cells : Tryz.prog.cellsOf 22 = 1 := by kernel_rfl
theorem strs1_cells : Tryz.prog.cellsOf 90 = 1 := by kernel_rfl
theorem lvls_cells : Tryz.prog.cellsOf 23 = 1 := by kernel_rfl
theorem svls_cells : Tryz.prog.cellsOf 24 = 1 := by kernel_rfl
theorem nums1_cells : Tryz.prog.cellsOf 25 = 1 := by kernel_rfl
theorem str8_cells : Tryz.prog.cellsOf 27 = 6 := by kernel_rfl

set_option maxRecDepth 100000 in
theorem open_lvls {H : Type} {enc : TypeId × Value → H} {W : World} {base : Nat} {spare : Nat → Bool} {held : Bool} {fuel : Nat} {cs : List Value} {x : DataW H × List MemPlace}
    (h : DataW.trod enc Tryz.prog W base spare held fuel 23 cs = some x) :
    ∃ (A : Option Addr) (len cap : Nat) (ls : List (List En)), cs = [.slice A len cap] ∧ Lvls W W.heap.size A len ls ∧ len ≤ cap ∧ cap ≤ maxLen ∧ ∀ r ∈ ls, fitE r := by
  rcases DataW.trod_slice Tryz.underlying23 h with ⟨h0, -⟩ | ⟨a, len, cap, elems, rest, n, -, rfl, -, hb, hl, hm, hlen, hel, -, -⟩
  · exact ⟨none, 0, 0, [], h0, ⟨rfl, fun i hi => absurd hi (Nat.not_lt_zero _)⟩, Nat.le_refl _, by unfold maxLen; omega, fun r hr => by cases hr⟩
  · refine ⟨some a, len, cap, ?_⟩
    have each : ∀ i, i < len → ∃ e : List En, fitE e ∧ ∃ (A' : Option Addr) (c' : Nat), W.cell? ((a.add i).add 0) = some (.slice A' e.length c') ∧ Ents W W.heap.size A' e.length e ∧ e.length ≤ c' ∧ c' ≤ maxLen := by
      intro i hi
      have hb' := hel i hi
      rw [enls_cells, List.getElem?_eq_getElem (by omega), Option.bind_eq_some_iff] at hb'
      obtain ⟨cs', hc, ht⟩ := hb'
      rw [Nat.mul_one] at hc
      have hcell := World.cells?_some hc
      rcases open_ents ht with rfl | ⟨a', len', cap', l', rfl, hE, h1, h2, h3⟩
      · exact ⟨[], (fun e he => by cases he), none, 0, hcell.2.2 0 (by simp), ⟨rfl, fun i hi => absurd hi (Nat.not_lt_zero _)⟩, Nat.le_refl _, by unfold maxLen; omega⟩
      · have hl' := hE.len
        subst hl'
        exact ⟨l', h3, some a', cap', hcell.2.2 0 (by simp), hE, h1, h2⟩
    obtain ⟨ls, h1, h2⟩ := list_of len each
    refine ⟨ls, rfl, ⟨h1, fun i hi => ?_⟩, hl, hm, fun e he => ?_⟩
    · obtain ⟨-, A', c', q0, hE, q1, q2⟩ := h2 i hi
      obtain ⟨b, off, spot⟩ := a
      have hspot : spot = none := by
        obtain ⟨-, _, _, p0, -⟩ := h2 0 (by omega)
        simpa [Addr.add] using World.cell?_spot p0
      subst hspot
      rw [add_n, add_n, Nat.add_zero] at q0
      exact ⟨b, off, A', c', rfl, block_lt_of_cell q0, q0, hE, q1, q2⟩
    · obtain ⟨i, hi, rfl⟩ := List.getElem_of_mem he
      exact (h2 i hi).1

set_option maxRecDepth 100000 in
theorem open_svs {H : Type} {enc : TypeId × Value → H} {W : World} {base : Nat} {spare : Nat → Bool} {held : Bool} {fuel : Nat} {cs : List Value} {x : DataW H × List MemPlace}
    (h : DataW.trod enc Tryz.prog W base spare held fuel 24 cs = some x) :
    ∃ (A : Option Addr) (len cap : Nat) (ss : List Sf), cs = [.slice A len cap] ∧ Svs W W.heap.size A len ss ∧ len ≤ cap ∧ cap ≤ maxLen ∧ ∀ r ∈ ss, fitS r := by
  rcases DataW.trod_slice Tryz.underlying24 h with ⟨h0, -⟩ | ⟨a, len, cap, elems, rest, n, -, rfl, -, hb, hl, hm, hlen, hel, -, -⟩
  · exact ⟨none, 0, 0, [], h0, ⟨rfl, fun i hi => absurd hi (Nat.not_lt_zero _)⟩, Nat.le_refl _, by unfold maxLen; omega, fun r hr => by cases hr⟩
  · refine ⟨some a, len, cap, ?_⟩
    have each : ∀ i, i < len → ∃ e : Sf, fitS e ∧ ∃ (A' : Option Addr) (c' : Nat), W.cell? ((a.add (i * 5)).add 0) = some (.string e.letters) ∧ W.cell? ((a.add (i * 5)).add 1) = some (.string e.more) ∧ W.cell? ((a.add (i * 5)).add 2) = some (.string e.first) ∧ W.cell? ((a.add (i * 5)).add 3) = some (.slice A' e.rests.length c') ∧ W.cell? ((a.add (i * 5)).add 4) = some (.int .i64 e.keep) ∧ Strs W W.heap.size A' e.rests.length e.rests ∧ e.rests.length ≤ c' ∧ c' ≤ maxLen := by
      intro i hi
      have hb' := hel i hi
      rw [svl_cells, List.getElem?_eq_getElem (by omega), Option.bind_eq_some_iff] at hb'
      obtain ⟨cs', hc, ht⟩ := hb'
      obtain ⟨xs, n', -, -, hcl, hxl, hg⟩ := DataW.trod_struct Tryz.underlying108 ht
      rw [svl_cells] at hcl
      have hxl5 : xs.length = 5 := hxl
      have hcell := World.cells?_some hc
      match cs', hcl, xs, hxl5 with
      | [c0, c1, c2, c3, c4], _, [x0, x1, x2, x3, x4], _ =>
        have g0 := hg 0 _ rfl
        have g1 := hg 1 _ rfl
        have g2 := hg 2 _ rfl
        have g3 := hg 3 _ rfl
        have g4 := hg 4 _ rfl
        simp [str1_cells] at g0 g1 g2
        simp [strs1_cells] at g3
        simp [int1_cells] at g4
        obtain ⟨L, hL, -, hLs⟩ := DataW.trod_string Tryz.underlying9 g0
        obtain ⟨M_, hM, -, hMs⟩ := DataW.trod_string Tryz.underlying9 g1
        obtain ⟨F, hF, -, hFs⟩ := DataW.trod_string Tryz.underlying9 g2
        obtain ⟨k, hk, -, -⟩ := DataW.trod_int Tryz.underlying3 g4
        simp only [List.cons.injEq, and_true] at hL hM hF hk
        subst hL hM hF hk
        rcases open_strings Tryz.underlying90 Tryz.underlying9 str1_cells g3 with ⟨hcs, _⟩ | ⟨y, len', cap', ss, hcs, _, hl', hm', hz, _, hcell', hws⟩
        · simp only [List.cons.injEq, and_true] at hcs
          subst hcs
          exact ⟨⟨L, M_, F, [], k⟩, ⟨hLs, hMs, hFs, fun s hs => by cases hs⟩, none, 0, hcell.2.2 0 (by omega), hcell.2.2 1 (by omega), hcell.2.2 2 (by omega), hcell.2.2 3 (by omega), hcell.2.2 4 (by omega), Strs.nil _ _ _, Nat.le_refl _, by unfold maxLen; omega⟩
        · simp only [List.cons.injEq, and_true] at hcs
          subst hcs
          obtain ⟨hS, i1, i2, i3⟩ := isStrs_of hl' hm' (by rw [hz]; split <;> omega) hcell' hws
          have hsl := hS.len
          refine ⟨⟨L, M_, F, ss.take len', k⟩, ⟨hLs, hMs, hFs, i3⟩, some y, cap', hcell.2.2 0 (by omega), hcell.2.2 1 (by omega), hcell.2.2 2 (by omega), ?_, hcell.2.2 4 (by omega), ?_, ?_, i2⟩
          · show _ = some (Value.slice _ (ss.take len').length _)
            rw [hsl]; exact hcell.2.2 3 (by omega)
          · show Strs _ _ _ (ss.take len').length _
            rw [hsl]; exact hS
          · show (ss.take len').length ≤ _
            rw [hsl]; exact i1
    obtain ⟨ls, h1, h2⟩ := list_of len each
    refine ⟨ls, rfl, ⟨h1, fun i hi => ?_⟩, hl, hm, fun e he => ?_⟩
    · obtain ⟨-, A', c', q0, q1, q2, q3, q4, hE, e1, e2⟩ := h2 i hi
      obtain ⟨b, off, spot⟩ := a
      have hspot : spot = none := by
        obtain ⟨-, _, _, p0, -⟩ := h2 0 (by omega)
        simpa [Addr.add] using World.cell?_spot p0
      subst hspot
      rw [add_n, add_n] at q0 q1 q2 q3 q4
      exact ⟨b, off, A', c', rfl, block_lt_of_cell q0, q0, q1, q2, q3, q4, hE, e1, e2⟩
    · obtain ⟨i, hi, rfl⟩ := List.getElem_of_mem he
      exact (h2 i hi).1

set_option maxRecDepth 100000 in
theorem open_nums {H : Type} {enc : TypeId × Value → H} {W : World} {base : Nat} {spare : Nat → Bool} {held : Bool} {fuel : Nat} {cs : List Value} {x : DataW H × List MemPlace}
    (h : DataW.trod enc Tryz.prog W base spare held fuel 25 cs = some x) :
    ∃ (A : Option Addr) (len cap : Nat) (ls : List Int), cs = [.slice A len cap] ∧ Nums W W.heap.size A len ls ∧ len ≤ cap ∧ cap ≤ maxLen := by
  rcases DataW.trod_slice Tryz.underlying25 h with ⟨h0, -⟩ | ⟨a, len, cap, elems, rest, n, -, rfl, -, hb, hl, hm, hlen, hel, -, -⟩
  · exact ⟨none, 0, 0, [], h0, ⟨rfl, fun i hi => absurd hi (Nat.not_lt_zero _)⟩, Nat.le_refl _, by unfold maxLen; omega⟩
  · refine ⟨some a, len, cap, ?_⟩
    have each : ∀ i, i < len → ∃ e : Int, W.cell? ((a.add i).add 0) = some (.int .i64 e) := by
      intro i hi
      have hb' := hel i hi
      rw [int1_cells, List.getElem?_eq_getElem (by omega), Option.bind_eq_some_iff] at hb'
      obtain ⟨cs', hc, ht⟩ := hb'
      rw [Nat.mul_one] at hc
      have hcell := World.cells?_some hc
      obtain ⟨k, hk, -, -⟩ := DataW.trod_int Tryz.underlying3 ht
      subst hk
      exact ⟨k, hcell.2.2 0 (by simp)⟩
    obtain ⟨ls, h1, h2⟩ := list_of len each
    refine ⟨ls, rfl, ⟨h1, fun i hi => ?_⟩, hl, hm⟩
    have q0 := h2 i hi
    obtain ⟨b, off, spot⟩ := a
    have hspot : spot = none := by
      have p0 := h2 0 (by omega)
      simpa [Addr.add] using World.cell?_spot p0
    subst hspot
    rw [add_n, add_n, Nat.add_zero] at q0
    exact ⟨b, off, rfl, block_lt_of_cell q0, q0⟩

set_option maxRecDepth 100000 in
theorem open_store {H : Type} {enc : TypeId × Value → H} {W : World} {base : Nat} {spare : Nat → Bool} {held : Bool} {r : Reach} {b0 : Nat} {v : Value} {d : DataW H} {p : List MemPlace}
    (hv : Value.okWide Tryz.prog W r b0 27 v) (h : DataW.Trod enc Tryz.prog W base spare held 27 v d p) :
    ∃ (A0 A1 A2 A5 : Option Addr) (c0 c1 c2 c5 : Nat) (s : Sto), v = stV A0 A1 A2 A5 c0 c1 c2 c5 s ∧ StM W W.heap.size A0 A1 A2 A5 c0 c1 c2 c5 s ∧ fitSt s := by
  obtain ⟨cs, rfl, hsz⟩ := okWide_struct Tryz.underlying27 hv
  rw [str8_cells] at hsz
  obtain ⟨l0⟩ := cs
  match l0, hsz with
  | [v0, v1, v2, v3, v4, v5], _ =>
    obtain ⟨fuel, hf⟩ := h
    obtain ⟨xs, n, _, _, _, hlen, hg⟩ := DataW.trod_struct Tryz.underlying27 hf
    have hlen6 : xs.length = 6 := hlen
    match xs, hlen6 with
    | [x0, x1, x2, x3, x4, x5], _ =>
      have g0 := hg 0 _ rfl
      have g1 := hg 1 _ rfl
      have g2 := hg 2 _ rfl
      have g3 := hg 3 _ rfl
      have g4 := hg 4 _ rfl
      have g5 := hg 5 _ rfl
      simp [Value.cells, enls_cells] at g0
      simp [Value.cells, lvls_cells] at g1
      simp [Value.cells, svls_cells] at g2
      simp [Value.cells, int1_cells] at g3 g4
      simp [Value.cells, nums1_cells] at g5
      obtain ⟨k, hk, -, -⟩ := DataW.trod_int Tryz.underlying3 g3
      obtain ⟨t, ht, -, -⟩ := DataW.trod_int Tryz.underlying3 g4
      simp only [List.cons.injEq, and_true] at hk ht
      subst hk ht
      obtain ⟨A1, n1, c1, lvs, e1, hL, hl1, hc1, hf1⟩ := open_lvls g1
      obtain ⟨A2, n2, c2, svs, e2, hS, hl2, hc2, hf2⟩ := open_svs g2
      obtain ⟨A5, n5, c5, tms, e5, hN, hl5, hc5⟩ := open_nums g5
      simp only [List.cons.injEq, and_true] at e1 e2 e5
      subst e1 e2 e5
      have k1 := hL.len
      have k2 := hS.len
      have k5 := hN.len
      subst k1 k2 k5
      rcases open_ents g0 with e0 | ⟨a0, n0, c0, top, e0, hE, hl0, hc0, hf0⟩
      · simp only [List.cons.injEq, and_true] at e0
        subst e0
        exact ⟨none, A1, A2, A5, 0, c1, c2, c5, ⟨[], lvs, svs, k, t, tms⟩, rfl, ⟨⟨rfl, fun i hi => absurd hi (Nat.not_lt_zero _)⟩, hL, hS, hN, ⟨Nat.le_refl _, by unfold maxLen; omega⟩, ⟨hl1, hc1⟩, ⟨hl2, hc2⟩, ⟨hl5, hc5⟩⟩, (fun e he => by cases he), hf1, hf2⟩
      · simp only [List.cons.injEq, and_true] at e0
        subst e0
        have k0 := hE.len
        subst k0
        exact ⟨some a0, A1, A2, A5, c0, c1, c2, c5, ⟨top, lvs, svs, k, t, tms⟩, rfl, ⟨hE, hL, hS, hN, ⟨hl0, hc0⟩, ⟨hl1, hc1⟩, ⟨hl2, hc2⟩, ⟨hl5, hc5⟩⟩, hf0, hf1, hf2⟩

end Go.Proofs.YtfhpkcamigkmdaaGreatDoor.W
