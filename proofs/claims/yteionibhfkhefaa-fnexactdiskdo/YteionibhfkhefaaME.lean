/-
  Slices of writes that are the same, told so; the exact law of DiskDo, as a walk over the contracts, and of DiskNew.
-/
import Derived.Test.YteionibhfkhefaaMC
import Derived.Deep.RegionHeld3
namespace Go.Proofs.Yteionibhfkhefaa.W
open Go.RowKit K R

set_option maxHeartbeats 2000000 in
theorem eqMv (p : Int) (k : ByteArray) (w : World) :
    Calls Try.prog 23 #[.agg #[.int .i64 p, .string k], .agg #[.int .i64 p, .string k]] w fun e w' => e = .returned (.bool true) ∧ Below w.heap.size w w' := by
  have h : (k.toList == k.toList) = true := by simp
  go_enter Try.func23, Try.ntmps23
  go_wp2
  go_ret
  exact ⟨rfl, two_below' _ _ _⟩

set_option maxHeartbeats 4000000 in
theorem eqMvS (w : World) (B n c c2 : Nat) (A A2 : Option Addr) (l : List Mv) (hr : Movs w B A n l) (hr2 : Movs w B A2 n l) (hB : B ≤ w.heap.size) (hn : n ≤ maxLen) :
    Calls Try.prog 16 #[.slice A n c, .slice A2 n c2] w fun e w' => e = .returned (.bool true) ∧ Below w.heap.size w w' := by
  have hlen := hr.len
  subst hlen
  unfold maxLen at hn
  have HR := Lib.hid hr
  have HR2 := Lib.hid hr2
  clear hr hr2
  go_enter Try.func16, Try.ntmps16
  go_wp2_with fail
  go_loopw [5] (fun i wr => ∃ k : Nat, k ≤ l.length ∧ i = .int .i64 (k : Nat) ∧ Below w.heap.size w wr) (fun i _ => l.length - (intOf i).toNat)
  case atStart => exact ⟨0, Nat.zero_le _, rfl, Below.refl _ _⟩
  case round =>
    obtain ⟨k, hk, rfl, hb⟩ := hrel
    have HBL := Lib.hid hb
    clear hb
    by_cases hlt : k < l.length
    · obtain ⟨kb, ko, hA, hkb, c0, c1⟩ := HR.out.cell k hlt
      obtain ⟨jb, jo, hA2, hjb, d0, d1⟩ := HR2.out.cell k hlt
      subst hA hA2
      have hkb' : kb < w.heap.size := Nat.lt_of_lt_of_le hkb hB
      have hjb' : jb < w.heap.size := Nat.lt_of_lt_of_le hjb hB
      obtain ⟨x0, h0⟩ : ∃ y, y = l[k].pos := ⟨_, rfl⟩
      obtain ⟨x1, h1⟩ : ∃ y, y = l[k].text := ⟨_, rfl⟩
      rw [← h0] at c0 d0
      rw [← h1] at c1 d1
      have z0 : (0 : Int) ≤ (k : Int) := by omega
      have z1 : (k : Int) < (l.length : Int) := by omega
      have HSS := Lib.hid (show ∀ W, Below w.heap.size w W → (fun W : World => W.cell? ⟨kb, ko + k * 2, none⟩ = some (.int .i64 x0) ∧ W.cell? ⟨kb, ko + k * 2 + 1, none⟩ = some (.string x1) ∧ W.cell? ⟨jb, jo + k * 2, none⟩ = some (.int .i64 x0) ∧ W.cell? ⟨jb, jo + k * 2 + 1, none⟩ = some (.string x1)) W from fun W hW => ⟨(hW.cell (p := ⟨kb, ko + k * 2, none⟩) hkb').trans c0, (hW.cell (p := ⟨kb, ko + k * 2 + 1, none⟩) hkb').trans c1, (hW.cell (p := ⟨jb, jo + k * 2, none⟩) hjb').trans d0, (hW.cell (p := ⟨jb, jo + k * 2 + 1, none⟩) hjb').trans d1⟩)
      have HQ := Lib.hid (show ∀ W, Below w.heap.size w W → Calls Try.prog 23 #[.agg #[.int .i64 x0, .string x1], .agg #[.int .i64 x0, .string x1]] W fun e w' => e = .returned (.bool true) ∧ Below w.heap.size w w' from fun W hW => (eqMv x0 x1 W).mono fun _ _ ⟨he, hb⟩ => ⟨he, hW.trans (hb.mono hW.size)⟩)
      clear c0 c1 d0 d1 h0 h1
      go_wp2_with fail
      go_region_held3 (fun W : World => W.cell? ⟨kb, ko + k * 2, none⟩ = some (.int .i64 x0) ∧ W.cell? ⟨kb, ko + k * 2 + 1, none⟩ = some (.string x1) ∧ W.cell? ⟨jb, jo + k * 2, none⟩ = some (.int .i64 x0) ∧ W.cell? ⟨jb, jo + k * 2 + 1, none⟩ = some (.string x1)) (exact HSS.out _ (by first | exact HB9.out | exact bel2 HBL.out (by rfl) (by rfl) (by rfl) (by rfl))) (first | (go_at_call 23; refine Calls.mono (HQ.out _ (by first | exact HB9.out | exact bel2 HBL.out (by rfl) (by rfl) (by rfl) (by rfl))) ?_; rintro e w9 ⟨rfl, hb9⟩; have HB9 := Lib.hid hb9; clear hb9))
      all_goals
        go_wp2
        go_roundw
        case rel => exact ⟨k + 1, by omega, by go_num, HB9.out⟩
        case measure => simp [intOf]; omega
    · have hke : k = l.length := by omega
      subst hke
      go_wp2
      go_ret
      exact ⟨rfl, HBL.out⟩

theorem marked_below {w w' : World} {base : Nat} {v : Value} {l : List ByteArray} (h : Own w base v l) (hg : w.grownBy w' v.ownBlock) (hb : base ≤ w.heap.size) : Below base w w' :=
  (Below.refl base w).grown hg hb fun k hk => (World.ownsRow.lt h k hk).1
theorem row_apart {E : TypeId} {sz m : Nat} {w w' : World} {b2 : Nat} {r : Option Nat} {v2 : Value} {cs : List Value} (h2 : w.ownsRow b2 E sz v2 m cs) (hg : w.grownBy w' r) (hlt : ∀ k, r = some k → k < b2) : w'.ownsRow b2 E sz v2 m cs :=
  World.ownsRow.kept h2 hg (by
    cases e : v2.ownBlock with
    | none => exact .inl rfl
    | some k =>
      refine .inr fun x => ?_
      have h3 := (World.ownsRow.lt h2 k e).1
      have h4 := hlt k x.symm
      omega)
theorem own_apart {w w' : World} {b2 : Nat} {r : Option Nat} {v2 : Value} {l2 : List ByteArray} (h2 : Own w b2 v2 l2) (hg : w.grownBy w' r) (hlt : ∀ k, r = some k → k < b2) : Own w' b2 v2 l2 := row_apart h2 hg hlt
theorem strs_own {w : World} {base n c : Nat} {A : Option Addr} {l : List ByteArray} (h : Own w base (.slice A n c) l) : Strs w w.heap.size A n l := by
  obtain ⟨A', c', hv, -, -, hs⟩ := h.parts
  injection hv with e1 e2
  subst e1 e2
  exact hs
theorem some_lt {g b : Nat} (h : g < b) : ∀ k, some g = some k → k < b := fun k e => by injection e; omega
theorem row_lowD {w w' : World} {B g : Nat} (hg : w.grownBy w' (some g)) (hB : B ≤ w.heap.size) (h : B ≤ g) : Below B w w' :=
  (Below.refl B w).grown hg hB fun k hk => by injection hk with hk; omega
theorem markS1 (w : World) (base n c : Nat) (A : Option Addr) (l : List ByteArray) (ho : Own w base (.slice A n c) l) (h1 : n ≤ 1073741823) :
    Calls Try.prog 8 #[.slice A n c, .int .i64 1] w (Marked base 1 n (.slice A n c) w) := markS w base n c 1 A l ho (by omega) (by omega)
theorem heldS1 (w : World) (B n c : Nat) (A : Option Addr) (hr : Strs w B A n (marks 1 n)) (hB : B ≤ w.heap.size) (h1 : n ≤ 1073741823) :
    Calls Try.prog 9 #[.slice A n c, .int .i64 1] w fun e w' => e = .returned (.int .i64 ((1 + n : Nat) : Int)) ∧ Below w.heap.size w w' := heldS w B n c 1 A hr hB (by omega) (by omega)
theorem markM1 (w : World) (base g n c N : Nat) (cs : List Value) (ho : w.ownsRow base 40 2 (.slice (some ⟨g, 0, none⟩) n c) n cs) (hn : n ≤ 1048576) (hN : N ≤ 1048576) :
    Calls Try.prog 17 #[.slice (some ⟨g, 0, none⟩) n c, .int .i64 (1 + (N : Int))] w fun e w' => e = .returned (.int .i64 ((1 + N + 2 * n : Nat) : Int)) ∧ w.grownBy w' (some g) := by
  have h := markM w base g n c (1 + N) cs ho hn (by omega) (by omega)
  rwa [show ((1 + N : Nat) : Int) = 1 + (N : Int) by omega] at h
theorem sizeS0 (w : World) (B n c : Nat) (A : Option Addr) (l : List ByteArray) (hr : Strs w B A n l) (hn : n ≤ maxLen) (hf : Fit l) :
    Calls Try.prog 10 #[.slice A n c, .int .i64 1048576] w (Sized 1048576 l w) := sizeS w B n c 1048576 A l hr hn hf (by omega)

set_option maxHeartbeats 8000000 in
set_option maxRecDepth 100000 in
theorem exactDiskDo (w : World) (A A2 : Option Addr) (n c m cm : Nat) (d : List ByteArray) (l : List Mv) (t : Int) (hr : Strs w w.heap.size A n d) (hr2 : Movs w w.heap.size A2 m l) (hn : n ≤ maxLen) (hm : m ≤ maxLen) (hf : Fit d) (hf2 : ∀ e ∈ l, e.text.size ≤ maxLen) :
    Calls Try.prog 4 #[.slice A n c, .slice A2 m cm, .int .i64 t] w fun e w' => e = .returned (.bool true) ∧ Below w.heap.size w w' := by
  have hlen := hr.len
  subst hlen
  have hlen := hr2.len
  subst hlen
  have HR := Lib.hid hr
  have HR2 := Lib.hid hr2
  have HF := Lib.hid hf
  have HF2 := Lib.hid hf2
  clear hr hr2 hf hf2
  go_enter Try.func4, Try.ntmps4
  go_wp2_with fail
  go_at_call 10
  refine (sizeS0 w w.heap.size d.length c A d HR.out hn HF.out).mono ?_
  rintro e w1 ⟨x, rfl, hx0, hx1, hx2, rfl⟩
  by_cases hneg : x < 0
  · clear hx2
    go_wp2
    go_ret
    exact ⟨rfl, Below.refl _ _⟩
  have hld := (hx2 (by omega)).1
  clear hx2
  go_wp2_with fail
  go_at_call 11
  refine (szMvS w w.heap.size l.length cm A2 l x (by omega) (by omega) HR2.out (Nat.le_refl _) hm HF2.out).mono ?_
  rintro e w2 ⟨x2, rfl, hy0, hy1, hy2, hb⟩
  have HB := Lib.hid hb
  have hs_w2 := hb.size
  clear hb
  by_cases hneg2 : x2 < 0
  · clear hy2
    go_wp2
    go_ret
    exact ⟨rfl, HB.out⟩
  · have hlm := (hy2 (by omega)).1
    have HT := Lib.hid (hy2 (by omega)).2
    clear hy2
    have HS := Lib.hid (show ∀ (W : World) (A A2 : Option Addr) (c cm : Nat), Strs W W.heap.size A d.length d → Movs W W.heap.size A2 l.length l → Calls Try.prog 12 #[.slice A d.length c, .slice A2 l.length cm, .int .i64 t] W (NewS W (doM t l d)) from fun W A A2 c cm h h2 => doS W W.heap.size d.length c l.length cm A A2 d l t h h2 (Nat.le_refl _) hld hlm HT.out)
    have HI := Lib.hid (show ∀ (W : World) (A A2 : Option Addr) (c cm : Nat), Strs W W.heap.size A d.length d → Movs W W.heap.size A2 l.length l → Calls Try.prog 15 #[.slice A d.length c, .slice A2 l.length cm, .int .i64 t] W (NewS W (doM t l d)) from fun W A A2 c cm h h2 => doI W W.heap.size d.length c l.length cm A A2 d l t h h2 (Nat.le_refl _) hld hlm HT.out)
    have hrl : (doM t l d).length ≤ 1048576 := by rw [doM_len]; exact hld
    obtain ⟨res, hres⟩ : ∃ res, res = doM t l d := ⟨_, rfl⟩
    rw [← hres] at HS HI hrl
    clear hres HT
    go_wp2_with fail
    go_at_call 13
    (with_reducible refine Calls.mono (copyS w2 w.heap.size d.length c A d (HR.out.below HB.out (Nat.le_refl _)) HB.out.size (by omega)) ?_)
    rintro e w3 ⟨v_, rfl, o_, b_⟩
    obtain ⟨AE1, cE1, hv_, hcE1, hmE1, s_⟩ := o_.parts
    subst hv_
    have hs_w3 := b_.size
    replace HB := Lib.hid (HB.out.trans (b_.mono HB.out.size))
    have E1 := Lib.hid s_
    clear o_ b_ s_
    go_wp2_with fail
    go_at_call 14
    (with_reducible refine Calls.mono (copyM w3 w.heap.size l.length cm A2 l (HR2.out.below HB.out (Nat.le_refl _)) HB.out.size hlm) ?_)
    rintro e w4 ⟨gM1, cM1, rfl, o_, b_⟩
    have hs_w4 := b_.size
    replace E1 := Lib.hid (E1.out.below b_ (by omega))
    replace HB := Lib.hid (HB.out.trans (b_.mono HB.out.size))
    have M1 := Lib.hid (OwnM.movs o_ rfl)
    clear o_ b_
    go_wp2_with fail
    go_at_call 12
    (with_reducible refine Calls.mono (HS.out w4 _ _ _ _ (E1.out.more (by omega)) (M1.out.more (by omega))) ?_)
    rintro e w5 ⟨v_, rfl, o_, b_⟩
    obtain ⟨AQ, cQ, hv_, hcQ, hmQ, s_⟩ := o_.parts
    subst hv_
    have hs_w5 := b_.size
    replace E1 := Lib.hid (E1.out.below b_ (by omega))
    replace M1 := Lib.hid (M1.out.below b_ (by omega))
    replace HB := Lib.hid (HB.out.trans (b_.mono HB.out.size))
    have Q := Lib.hid s_
    clear o_ b_ s_
    clear E1
    clear M1
    go_wp2_with fail
    go_at_call 13
    (with_reducible refine Calls.mono (copyS w5 w.heap.size d.length c A d (HR.out.below HB.out (Nat.le_refl _)) HB.out.size (by omega)) ?_)
    rintro e w6 ⟨v_, rfl, o_, b_⟩
    obtain ⟨AOX, cOX, hv_, hcOX, hmOX, s_⟩ := o_.parts
    subst hv_
    have hs_w6 := b_.size
    replace Q := Lib.hid (Q.out.below b_ (by omega))
    replace HB := Lib.hid (HB.out.trans (b_.mono HB.out.size))
    have OX := Lib.hid o_
    have hltOX := Lib.hid (fun k hk => (World.ownsRow.lt o_ k hk).2)
    clear o_ b_ s_
    go_wp2_with fail
    go_at_call 14
    (with_reducible refine Calls.mono (copyM w6 w.heap.size l.length cm A2 l (HR2.out.below HB.out (Nat.le_refl _)) HB.out.size hlm) ?_)
    rintro e w7 ⟨gOM, cOM, rfl, o_, b_⟩
    have hs_w7 := b_.size
    replace Q := Lib.hid (Q.out.below b_ (by omega))
    replace OX := Lib.hid (OX.out.below b_)
    replace HB := Lib.hid (HB.out.trans (b_.mono HB.out.size))
    have OM := Lib.hid o_
    have hltOM := (World.ownsRow.lt o_ gOM rfl).2
    have hgeOM := (World.ownsRow.lt o_ gOM rfl).1
    clear o_ b_
    go_wp2_with fail
    go_at_call 15
    (with_reducible refine Calls.mono (HI.out w7 _ _ _ _ (strs_own OX.out) (OwnM.movs OM.out rfl)) ?_)
    rintro e w8 ⟨v_, rfl, o_, b_⟩
    obtain ⟨AOG, cOG, hv_, hcOG, hmOG, s_⟩ := o_.parts
    subst hv_
    have hs_w8 := b_.size
    replace Q := Lib.hid (Q.out.below b_ (by omega))
    replace OX := Lib.hid (OX.out.below b_)
    replace OM := Lib.hid (rowBelow OM.out b_)
    replace HB := Lib.hid (HB.out.trans (b_.mono HB.out.size))
    have OG := Lib.hid o_
    clear o_ b_ s_
    go_wp2_with fail
    go_at_call 7
    (with_reducible refine Calls.mono (eqL w8 w8.heap.size res.length _ res.length _ _ _ res res (strs_own OG.out) (Q.out.more (by omega)) (by unfold maxLen; omega) (by unfold maxLen; omega)) ?_)
    rw [sameL_self]
    rintro e w9 ⟨rfl, m_⟩
    have b_ := m_.below w8.heap.size
    have hs_w9 := b_.size
    replace Q := Lib.hid (Q.out.below b_ (by omega))
    replace OX := Lib.hid (OX.out.below b_)
    replace OM := Lib.hid (rowBelow OM.out b_)
    replace OG := Lib.hid (OG.out.below b_)
    replace HB := Lib.hid (HB.out.trans (b_.mono HB.out.size))
    clear m_ b_
    go_wp2_with fail
    go_at_call 13
    (with_reducible refine Calls.mono (copyS w9 w.heap.size d.length c A d (HR.out.below HB.out (Nat.le_refl _)) HB.out.size (by omega)) ?_)
    rintro e w10 ⟨v_, rfl, o_, b_⟩
    obtain ⟨AE2, cE2, hv_, hcE2, hmE2, s_⟩ := o_.parts
    subst hv_
    have hs_w10 := b_.size
    replace Q := Lib.hid (Q.out.below b_ (by omega))
    replace OX := Lib.hid (OX.out.below b_)
    replace OM := Lib.hid (rowBelow OM.out b_)
    replace OG := Lib.hid (OG.out.below b_)
    replace HB := Lib.hid (HB.out.trans (b_.mono HB.out.size))
    have E2 := Lib.hid s_
    clear o_ b_ s_
    go_wp2_with fail
    go_at_call 7
    (with_reducible refine Calls.mono (eqL w10 w10.heap.size d.length _ d.length _ _ _ d d (strs_own OX.out) (E2.out.more (by omega)) (by unfold maxLen; omega) (by unfold maxLen; omega)) ?_)
    rw [sameL_self]
    rintro e w11 ⟨rfl, m_⟩
    have b_ := m_.below w10.heap.size
    have hs_w11 := b_.size
    replace Q := Lib.hid (Q.out.below b_ (by omega))
    replace OX := Lib.hid (OX.out.below b_)
    replace OM := Lib.hid (rowBelow OM.out b_)
    replace OG := Lib.hid (OG.out.below b_)
    replace E2 := Lib.hid (E2.out.below b_ (by omega))
    replace HB := Lib.hid (HB.out.trans (b_.mono HB.out.size))
    clear m_ b_
    clear E2
    go_wp2_with fail
    go_at_call 14
    (with_reducible refine Calls.mono (copyM w11 w.heap.size l.length cm A2 l (HR2.out.below HB.out (Nat.le_refl _)) HB.out.size hlm) ?_)
    rintro e w12 ⟨gM2, cM2, rfl, o_, b_⟩
    have hs_w12 := b_.size
    replace Q := Lib.hid (Q.out.below b_ (by omega))
    replace OX := Lib.hid (OX.out.below b_)
    replace OM := Lib.hid (rowBelow OM.out b_)
    replace OG := Lib.hid (OG.out.below b_)
    replace HB := Lib.hid (HB.out.trans (b_.mono HB.out.size))
    have M2 := Lib.hid (OwnM.movs o_ rfl)
    clear o_ b_
    go_wp2_with fail
    go_at_call 16
    (with_reducible refine Calls.mono (eqMvS w12 w12.heap.size l.length _ _ _ _ l (OwnM.movs OM.out rfl) (M2.out.more (by omega)) (Nat.le_refl _) (by unfold maxLen; omega)) ?_)
    rintro e w13 ⟨rfl, b_⟩
    have hs_w13 := b_.size
    replace Q := Lib.hid (Q.out.below b_ (by omega))
    replace OX := Lib.hid (OX.out.below b_)
    replace OM := Lib.hid (rowBelow OM.out b_)
    replace OG := Lib.hid (OG.out.below b_)
    replace M2 := Lib.hid (M2.out.below b_ (by omega))
    replace HB := Lib.hid (HB.out.trans (b_.mono HB.out.size))
    clear b_
    clear M2
    go_wp2_with fail
    go_at_call 8
    (with_reducible refine Calls.mono (markS1 w13 w5.heap.size d.length cOX AOX d OX.out (by omega)) ?_)
    rintro e w14 ⟨rfl, -, g_⟩
    have hs_w14 := g_.size
    have b_ := marked_below OX.out g_ (by omega)
    clear OX
    replace Q := Lib.hid (Q.out.below b_ (by omega))
    replace OM := Lib.hid (row_apart OM.out g_ (fun k hk => Nat.lt_of_lt_of_le (hltOX.out k hk) (by omega)))
    replace OG := Lib.hid (own_apart OG.out g_ (fun k hk => Nat.lt_of_lt_of_le (hltOX.out k hk) (by omega)))
    replace HB := Lib.hid (HB.out.trans (b_.mono (by omega)))
    clear g_ b_
    go_wp2_with fail
    go_at_call 17
    (with_reducible refine Calls.mono (markM1 w14 w6.heap.size gOM l.length cOM d.length _ OM.out hlm (by omega)) ?_)
    rintro e w15 ⟨rfl, g_⟩
    have hs_w15 := g_.size
    have b_ := row_lowD g_ (show w6.heap.size ≤ w14.heap.size by omega) hgeOM
    clear OM
    replace Q := Lib.hid (Q.out.below b_ (by omega))
    replace OG := Lib.hid (own_apart OG.out g_ (some_lt (by omega)))
    replace HB := Lib.hid (HB.out.trans (b_.mono (by omega)))
    clear g_ b_
    go_wp2_with fail
    go_at_call 7
    (with_reducible refine Calls.mono (eqL w15 w15.heap.size res.length _ res.length _ _ _ res res (strs_own OG.out) (Q.out.more (by omega)) (by unfold maxLen; omega) (by unfold maxLen; omega)) ?_)
    rw [sameL_self]
    rintro e w16 ⟨rfl, m_⟩
    have b_ := m_.below w15.heap.size
    have hs_w16 := b_.size
    replace Q := Lib.hid (Q.out.below b_ (by omega))
    replace OG := Lib.hid (OG.out.below b_)
    replace HB := Lib.hid (HB.out.trans (b_.mono HB.out.size))
    clear m_ b_
    go_wp2_with fail
    go_at_call 8
    (with_reducible refine Calls.mono (markS1 w16 w7.heap.size res.length cOG AOG res OG.out (by omega)) ?_)
    rintro e w17 ⟨rfl, o_, g_⟩
    have hs_w17 := g_.size
    have b_ := marked_below OG.out g_ (by omega)
    replace Q := Lib.hid (Q.out.below b_ (by omega))
    replace HB := Lib.hid (HB.out.trans (b_.mono (by omega)))
    replace OG := Lib.hid o_
    clear g_ b_ o_
    go_wp2_with fail
    go_at_call 9
    (with_reducible refine Calls.mono (heldS1 w17 w17.heap.size res.length cOG AOG (strs_own OG.out) (Nat.le_refl _) (by omega)) ?_)
    rintro e w18 ⟨rfl, b_⟩
    have hs_w18 := b_.size
    replace Q := Lib.hid (Q.out.below b_ (by omega))
    replace OG := Lib.hid (OG.out.below b_)
    replace HB := Lib.hid (HB.out.trans (b_.mono HB.out.size))
    clear b_
    go_wp2_with fail
    go_at_call 13
    (with_reducible refine Calls.mono (copyS w18 w.heap.size d.length c A d (HR.out.below HB.out (Nat.le_refl _)) HB.out.size (by omega)) ?_)
    rintro e w19 ⟨v_, rfl, o_, b_⟩
    obtain ⟨AE3, cE3, hv_, hcE3, hmE3, s_⟩ := o_.parts
    subst hv_
    have hs_w19 := b_.size
    replace Q := Lib.hid (Q.out.below b_ (by omega))
    replace OG := Lib.hid (OG.out.below b_)
    replace HB := Lib.hid (HB.out.trans (b_.mono HB.out.size))
    have E3 := Lib.hid s_
    clear o_ b_ s_
    go_wp2_with fail
    go_at_call 14
    (with_reducible refine Calls.mono (copyM w19 w.heap.size l.length cm A2 l (HR2.out.below HB.out (Nat.le_refl _)) HB.out.size hlm) ?_)
    rintro e w20 ⟨gM3, cM3, rfl, o_, b_⟩
    have hs_w20 := b_.size
    replace Q := Lib.hid (Q.out.below b_ (by omega))
    replace OG := Lib.hid (OG.out.below b_)
    replace E3 := Lib.hid (E3.out.below b_ (by omega))
    replace HB := Lib.hid (HB.out.trans (b_.mono HB.out.size))
    have M3 := Lib.hid (OwnM.movs o_ rfl)
    clear o_ b_
    go_wp2_with fail
    go_at_call 15
    (with_reducible refine Calls.mono (HI.out w20 _ _ _ _ (E3.out.more (by omega)) (M3.out.more (by omega))) ?_)
    rintro e w21 ⟨v_, rfl, o_, b_⟩
    obtain ⟨APH, cPH, hv_, hcPH, hmPH, s_⟩ := o_.parts
    subst hv_
    have hs_w21 := b_.size
    replace Q := Lib.hid (Q.out.below b_ (by omega))
    replace OG := Lib.hid (OG.out.below b_)
    replace E3 := Lib.hid (E3.out.below b_ (by omega))
    replace M3 := Lib.hid (M3.out.below b_ (by omega))
    replace HB := Lib.hid (HB.out.trans (b_.mono HB.out.size))
    have PH := Lib.hid s_
    clear o_ b_ s_
    clear E3
    clear M3
    go_wp2_with fail
    go_at_call 7
    (with_reducible refine Calls.mono (eqL w21 w21.heap.size res.length _ res.length _ _ _ res res (PH.out.more (by omega)) (Q.out.more (by omega)) (by unfold maxLen; omega) (by unfold maxLen; omega)) ?_)
    rw [sameL_self]
    rintro e w22 ⟨rfl, m_⟩
    have b_ := m_.below w21.heap.size
    have hs_w22 := b_.size
    replace Q := Lib.hid (Q.out.below b_ (by omega))
    replace OG := Lib.hid (OG.out.below b_)
    replace PH := Lib.hid (PH.out.below b_ (by omega))
    replace HB := Lib.hid (HB.out.trans (b_.mono HB.out.size))
    clear m_ b_
    clear PH
    clear Q
    go_wp2_with fail
    go_at_call 9
    (with_reducible refine Calls.mono (heldS1 w22 w22.heap.size res.length cOG AOG (strs_own OG.out) (Nat.le_refl _) (by omega)) ?_)
    rintro e w23 ⟨rfl, b_⟩
    have hs_w23 := b_.size
    replace OG := Lib.hid (OG.out.below b_)
    replace HB := Lib.hid (HB.out.trans (b_.mono HB.out.size))
    clear b_
    go_wp2
    go_ret
    exact ⟨rfl, HB.out⟩

end Go.Proofs.Yteionibhfkhefaa.W
