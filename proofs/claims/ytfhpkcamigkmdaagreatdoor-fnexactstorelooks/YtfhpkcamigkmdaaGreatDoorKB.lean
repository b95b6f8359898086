/-
  The program's openStore: the tree is made.
-/
import Derived.Test.YtfhpkcamigkmdaaGreatDoorZAA
import Derived.Test.YtfhpkcamigkmdaaGreatDoorZAU
import Derived.Deep.CutRange
import Derived.Deep.RegionHeld
namespace Go.Proofs.YtfhpkcamigkmdaaGreatDoor.W
open Go.RowKit K R

theorem ownN_slice {w : World} {base : Nat} {v : Value} {l : List Int} (h : OwnN w base v l) : ∃ (A : Option Addr) (c : Nat), v = .slice A l.length c := by
  rcases h.2 with ⟨rfl, h0⟩ | ⟨g, cap, cur, rfl, _⟩
  · exact ⟨none, 0, by rw [h0]⟩
  · exact ⟨_, cap, rfl⟩
/-- a tree that was made, without levels -/
structure Made0 (W0 wx : World) (gt : Nat) (A8 A9 : Option Addr) (k8 k9 : Nat) (top : List En) (keep time : Int) (times : List Int) : Prop where
  row : wx.heap[gt]? = some (.cells (treeC (.slice A8 top.length k8) (.slice none 0 0) blankS (.slice none 0 0) (.slice none 0 0) blankS (.slice none 0 0) (.slice none 0 0) blankS (.slice none 0 0) keep time (.slice A9 times.length k9)) 119 (0, 0))
  top : OwnE wx W0.heap.size (.slice A8 top.length k8) top
  times : OwnN wx W0.heap.size (.slice A9 times.length k9) times
  new : W0.heap.size ≤ gt
  bel : Below W0.heap.size W0 wx

theorem strs_own' {w : World} {base n c : Nat} {A : Option Addr} {l : List ByteArray} (h : Own w base (.slice A n c) l) : Strs w w.heap.size A n l := by
  obtain ⟨A', c', hv, -, -, hs⟩ := h.parts
  injection hv with e1 e2
  subst e1 e2
  exact hs
/-- what openStore answers: its tree too, where the store is one -/
def OpenT (s : Sto) (w : World) (e : Ending) (w' : World) : Prop := ∃ p b, e = .returned (.tuple #[p, .bool b]) ∧ (b = true ↔ StP s) ∧ Below w.heap.size w w' ∧
  (b = true → ∃ (W0 : World) (g : Nat) (cur : Array Value) (A8 A9 : Option Addr) (k8 k9 : Nat) (l0 l1 l2 : List En), p = .pointer (some ⟨g, 0, none⟩) ∧ s.levels = [l0, l1, l2] ∧ Below w.heap.size w W0 ∧ w.heap.size ≤ W0.heap.size ∧ TreeK W0 w' g cur A8 A9 k8 k9 s.top [l0, l1, l2] s.keep s.time s.times 3)
theorem lvl_parts {keep : Int} {i : Nat} {r : List En} {x : Sf} (h : runB r = true) : lvlB keep i r x = ((svYes (keysO r) keep && decide (r.length ≤ 8 * (i + 1))) && eqB x.letters x.more x.first (svL (keysL r) keep) (svM (keysL r) keep) (svF (keysL r) keep) x.rests (svR (keysL r) keep) x.keep (svK (keysL r) keep)) := by
  unfold lvlB
  rw [sfB_eq, keysO_run h, h, Bool.true_and]
  cases decide (r.length ≤ 8 * (i + 1)) <;> cases svYes (keysL r) keep <;> rfl
theorem TreeK.cells {W0 w : World} {gt : Nat} {cur : Array Value} {A8 A9 : Option Addr} {k8 k9 : Nat} {top : List En} {levels : List (List En)} {keep time : Int} {times : List Int} {k : Nat} (h : TreeK W0 w gt cur A8 A9 k8 k9 top levels keep time times k) {o : Nat} {v : Value} (ho : cur[o]? = some v) : w.cell? ⟨gt, o, none⟩ = some v := by
  rw [cell_of_row _ _ _ _ _ _ h.row]; exact ho

set_option maxHeartbeats 8000000 in
set_option maxRecDepth 100000 in
theorem openT (w : World) (A0 A1 A2 A5 : Option Addr) (c0 c1 c2 c5 : Nat) (s : Sto) (hr : StM w w.heap.size A0 A1 A2 A5 c0 c1 c2 c5 s) (hsm : smallSt s) (hE : NoRoom w) :
    Calls Tryz.prog 69 #[stV A0 A1 A2 A5 c0 c1 c2 c5 s] w (OpenT s w) := by
  obtain ⟨top, levels, sieves, keep, time, times⟩ := s
  have HR := Lib.hid hr
  have HSM := Lib.hid hsm
  simp only [stV] at *
  obtain ⟨W0, hW0⟩ : ∃ W0, W0 = w.alloc (.cells #[.slice A0 top.length c0, .slice A1 levels.length c1, .slice A2 sieves.length c2, .int .i64 keep, .int .i64 time, .slice A5 times.length c5] 33) := ⟨_, rfl⟩
  have hbw : Below w.heap.size w W0 := by rw [hW0]; exact (Below.refl _ _).alloc (Nat.le_refl _) _
  have hs0 : W0.heap.size = w.heap.size + 1 := by rw [hW0]; simp
  have x0 : W0.heap[w.heap.size]? = some (.cells #[.slice A0 top.length c0, .slice A1 levels.length c1, .slice A2 sieves.length c2, .int .i64 keep, .int .i64 time, .slice A5 times.length c5] 33 (0, 0)) := by rw [hW0]; exact heap_alloc_new _ _
  have HB := Lib.hid hbw
  have HBX := Lib.hid (show ∀ W, Below W0.heap.size W0 W → _ from fun W hW => st_cells ((hW.block w.heap.size (by omega)).trans x0))
  have HRW := Lib.hid (show ∀ W, Below W0.heap.size W0 W → StM W W.heap.size A0 A1 A2 A5 c0 c1 c2 c5 ⟨top, levels, sieves, keep, time, times⟩ ∧ w.heap.size ≤ W.heap.size from fun W hW => by
    have hz := Nat.le_trans hbw.size hW.size
    exact ⟨((HR.out.below hbw (Nat.le_refl _)).below (hW.mono hbw.size) (Nat.le_refl _)).more hz, hz⟩)
  have HE0 := Lib.hid (hE.below hbw)
  have HW0 := Lib.hid hW0
  clear hr hsm hbw hs0 x0 hW0 hE
  by_cases g1 : levels.length = 3
  case neg =>
    have n1 : ((levels.length : Int) != 3) = true := by simp; omega
    go_enter Tryz.func69, Tryz.ntmps69
    go_wp2
    go_ret2
    exact ⟨_, false, rfl, ⟨fun h => (by cases h), fun h => absurd h.nl g1⟩, (by have h := HB.out; rwa [HW0.out] at h), fun h => (by cases h)⟩
  have n1 : ((levels.length : Int) != 3) = false := by simp; omega
  have G1 := Lib.hid g1
  clear g1
  by_cases g2 : sieves.length = 3
  case neg =>
    have n2 : ((sieves.length : Int) != 3) = true := by simp; omega
    go_enter Tryz.func69, Tryz.ntmps69
    go_wp2
    go_ret2
    exact ⟨_, false, rfl, ⟨fun h => (by cases h), fun h => absurd h.ns g2⟩, (by have h := HB.out; rwa [HW0.out] at h), fun h => (by cases h)⟩
  have n2 : ((sieves.length : Int) != 3) = false := by simp; omega
  have G2 := Lib.hid g2
  clear g2
  have HCE := Lib.hid (show ∀ W, Below W0.heap.size W0 W → Calls Tryz.prog 113 #[.slice A0 top.length c0] W (NewSE W top) from fun W hW => cloneE W W.heap.size top.length c0 A0 top (HRW.out W hW).1.top (Nat.le_refl _) HSM.out.1.1)
  have HCN := Lib.hid (show ∀ W, Below W0.heap.size W0 W → Calls Tryz.prog 114 #[.slice A5 times.length c5] W (NewSN W times) from fun W hW => cloneN W W.heap.size times.length c5 A5 times (HRW.out W hW).1.times (Nat.le_refl _) HSM.out.2.2.2)
  have HSS := Lib.hid (show ∀ W, Below W0.heap.size W0 W → (fun W : World => W.cell? ⟨w.heap.size, 0, none⟩ = some (.slice A0 top.length c0) ∧ W.cell? ⟨w.heap.size, 3, none⟩ = some (.int .i64 keep) ∧ W.cell? ⟨w.heap.size, 4, none⟩ = some (.int .i64 time) ∧ W.cell? ⟨w.heap.size, 5, none⟩ = some (.slice A5 times.length c5)) W from fun W hW => ⟨(HBX.out W hW).1, (HBX.out W hW).2.2.2.1, (HBX.out W hW).2.2.2.2.1, (HBX.out W hW).2.2.2.2.2⟩)
  have HR0 := Lib.hid (Below.refl W0.heap.size W0)
  go_enter Tryz.func69, Tryz.ntmps69
  go_upto_region 3 with fail
  rw [← HW0.out]
  go_cut [4] from 17 to 28 (fun s4 wx => ∃ gt A8 k8 A9 k9, s4 = .pointer (some ⟨gt, 0, none⟩) ∧ Hid (Made0 W0 wx gt A8 A9 k8 k9 top keep time times))
  case first =>
    refine wp_region_held_drew (S := (fun W : World => W.cell? ⟨w.heap.size, 0, none⟩ = some (.slice A0 top.length c0) ∧ W.cell? ⟨w.heap.size, 3, none⟩ = some (.int .i64 keep) ∧ W.cell? ⟨w.heap.size, 4, none⟩ = some (.int .i64 time) ∧ W.cell? ⟨w.heap.size, 5, none⟩ = some (.slice A5 times.length c5))) (by kernel_rfl) (HSS.out _ (by exact bel2 HR0.out (by rfl) (by rfl) (by rfl) (by rfl))) (fun hHeld => ?_)
    refine wpAnyH_takes (a' := ?a1_) [0, 1, 3, 4, 5, 6, 7, 8] (k := 8) rfl (by kernel_rfl) (by kernel_rfl) (fun _ _ _ _ _ h => h) ?t1_ (by assumption) ?r1_
    case t1_ =>
      iterate 8
        apply takes_cons rfl
        · first | (refine Or.inl ⟨by rfl, fun w9 hSw => ?_⟩; clear hSw; go_simp; (first | done | with_reducible rfl)) | (refine Or.inl ⟨by rfl, fun w9 hSw => ?_⟩; obtain ⟨f0, f1, f2, f3⟩ := hSw; go_simp; (first | done | with_reducible rfl))
        (try simp only [Act.put]); (try simp only [List.setIfInBounds_toArray]); (try simp only [List.set_cons_succ]); (try simp only [List.set_cons_zero])
      exact takes_nil
    refine wpAnyH_ready (rs := [2]) (by kernel_rfl) (by simp) ?_
    refine AllReadyH.cons (o := { dst := Option.some 19, op := Go.Op.call { callee := Go.Callee.value (Go.Operand.func 113), args := #[Go.Operand.tmp 18], argTypes := #[29] }, type := 29, pos := "l12_store.go:156", after := #[{ on := 1, ground := Go.Ground.data }], guard := Option.none }) rfl (fun K hK => ?_) AllReadyH.nil
    go_simp
    go_at_call 113
    refine Calls.mono (HCE.out _ (by exact bel2 HR0.out (by rfl) (by rfl) (by rfl) (by rfl))) ?_
    rintro e w8 ⟨v8, rfl, ho8, hb8⟩
    obtain ⟨A8, k8, hv8, -, -, -⟩ := ownE_parts ho8
    subst hv8
    have HB8 := Lib.hid (Below.trans (show Below W0.heap.size W0 _ by exact bel2 HR0.out (by rfl) (by rfl) (by rfl) (by rfl)) (hb8.mono (Nat.le_refl _)))
    have HO8 := Lib.hid (show OwnE w8 W0.heap.size _ top from ho8)
    clear ho8 hb8
    (try go_wp2_with fail)
    refine hK.out _ _ (HSS.out _ HB8.out) (fun hHeld => ?_)
    clear hK K
    (try simp only [Act.put]); (try simp only [List.setIfInBounds_toArray]); (try simp only [List.set_cons_succ]); (try simp only [List.set_cons_zero])
    refine wpAnyH_ready (rs := [9]) (by kernel_rfl) (by simp) ?_
    refine AllReadyH.cons (o := { dst := Option.some 26, op := Go.Op.call { callee := Go.Callee.value (Go.Operand.func 114), args := #[Go.Operand.tmp 25], argTypes := #[25] }, type := 25, pos := "l12_store.go:156", after := #[{ on := 8, ground := Go.Ground.data }, { on := 2, ground := Go.Ground.chain }], guard := Option.none }) rfl (fun K hK => ?_) AllReadyH.nil
    go_simp
    go_at_call 114
    refine Calls.mono (HCN.out _ HB8.out) ?_
    rintro e w9 ⟨v9, rfl, ho9, hb9⟩
    obtain ⟨A9, k9, hv9⟩ := ownN_slice ho9
    subst hv9
    have HB9 := Lib.hid (HB8.out.trans (hb9.mono HB8.out.size))
    have HOT := Lib.hid (rowBelow HO8.out hb9)
    have HON := Lib.hid (rowBase (base' := W0.heap.size) ho9 HB8.out.size)
    clear ho9 hb9
    (try go_wp2_with fail)
    refine hK.out _ _ (HSS.out _ HB9.out) (fun hHeld => ?_)
    clear hK K
    (try simp only [Act.put]); (try simp only [List.setIfInBounds_toArray]); (try simp only [List.set_cons_succ]); (try simp only [List.set_cons_zero])
    refine wpAnyH_takes (a' := ?a2_) [10] (k := 1) rfl (by kernel_rfl) (by kernel_rfl) (fun _ _ _ _ _ h => h) ?t2_ (by assumption) ?r2_
    case t2_ =>
      iterate 1
        apply takes_cons rfl
        · first | (refine Or.inl ⟨by rfl, fun w9 hSw => ?_⟩; clear hSw; go_simp; (first | done | with_reducible rfl))
        (try simp only [Act.put]); (try simp only [List.setIfInBounds_toArray]); (try simp only [List.set_cons_succ]); (try simp only [List.set_cons_zero])
      exact takes_nil
    have HBB := Lib.hid (HB9.out.alloc HB9.out.size (.cells (treeC (.slice A8 top.length k8) (.slice none 0 0) blankS (.slice none 0 0) (.slice none 0 0) blankS (.slice none 0 0) (.slice none 0 0) blankS (.slice none 0 0) keep time (.slice A9 times.length k9)) 119))
    refine wpAnyH_ready (rs := [11]) (by kernel_rfl) (by simp) ?_
    refine AllReadyH.cons (o := { dst := Option.some 28, op := Go.Op.box 119 (Go.Operand.tmp 27), type := 69, pos := "l12_store.go:156", after := #[{ on := 10, ground := Go.Ground.data }], guard := Option.none }) rfl (fun K hK => ?_) AllReadyH.nil
    go_simp
    refine hK.out _ _ (HSS.out _ HBB.out) (fun hHeld => ?_)
    clear hK K
    (try simp only [Act.put]); (try simp only [List.setIfInBounds_toArray]); (try simp only [List.set_cons_succ]); (try simp only [List.set_cons_zero])
    refine wpAnyH_takes (a' := ?a3_) [12] (k := 1) rfl (by kernel_rfl) (by kernel_rfl) (fun _ _ _ _ _ h => h) ?t3_ (by assumption) ?r3_
    case t3_ =>
      iterate 1
        apply takes_cons rfl
        · first | (refine Or.inl ⟨by rfl, fun w9 hSw => ?_⟩; clear hSw; go_simp; (first | done | with_reducible rfl))
        (try simp only [Act.put]); (try simp only [List.setIfInBounds_toArray]); (try simp only [List.set_cons_succ]); (try simp only [List.set_cons_zero])
      exact takes_nil
    refine wpAnyH_done (by kernel_rfl) ?_ _
    go_wp2_with fail
    go_meet
    exact ⟨w9.heap.size, A8, k8, A9, k9, rfl, Lib.hid ⟨heap_alloc_new _ _, World.ownsRow.alloc HOT.out _, World.ownsRow.alloc HON.out _, HB9.out.size, HBB.out⟩⟩
  case rest =>
    obtain ⟨gt, A8, k8, A9, k9, rfl, hq⟩ := hcut
    have HK0 := Lib.hid (show TreeK W0 wc gt _ A8 A9 k8 k9 top levels keep time times 0 from ⟨hq.out.row, rfl, rfl, rfl, rfl, rfl, hq.out.top, hq.out.times, fun j _ h => absurd h (Nat.not_lt_zero _), hq.out.new, hq.out.bel⟩)
    obtain ⟨qq0, qq1, qq2, qq3, qq4, qq5⟩ := HBX.out wc hq.out.bel
    clear hq
    go_wp2_with fail
    go_loopw [32] (fun i wr => ∃ (k : Nat) (cur : Array Value), k ≤ 3 ∧ i = .int .i64 (k : Nat) ∧ Hid (TreeK W0 wr gt cur A8 A9 k8 k9 top levels keep time times k) ∧ Hid (∀ j (h : j < levels.length) (h2 : j < sieves.length), j < k → lvlB keep j levels[j] sieves[j] = true)) (fun i _ => 3 - (intOf i).toNat)
    case atStart => exact ⟨0, _, by omega, rfl, HK0, Lib.hid (fun j _ _ h => absurd h (Nat.not_lt_zero _))⟩
    case round =>
      obtain ⟨k, cur, hk, rfl, HK, HLV⟩ := hrel
      clear HK0 qq0 qq1 qq2 qq3 qq4 qq5
      have hg1 := G1.out
      have hg2 := G2.out
      by_cases hlt : k < 3
      · have hkl : k < levels.length := by omega
        have hks : k < sieves.length := by omega
        have z0 : (0 : Int) ≤ (k : Int) := by omega
        have z1 : (k : Int) < (levels.length : Int) := by omega
        have z2 : (k : Int) < (sieves.length : Int) := by omega
        have z3 : (k : Int) < 3 := by omega
        have HKB := Lib.hid HK.out.bel
        have HKD := Lib.hid (show TreeK W0 wr.drew gt cur A8 A9 k8 k9 top levels keep time times k from HK.out.below (bel2 (Below.refl _ _) (by rfl) (by rfl) (by rfl) (by rfl)))
        obtain ⟨lb, lo, A', c', hA, hlb, dl, he, e1, e2⟩ := (HRW.out W0 (Below.refl _ _)).1.levels.cell k hkl
        obtain ⟨sb, so, A3, c3, hA2, hsb, s0, s1, s2, s3, s4, hst, e3, e4⟩ := (HRW.out W0 (Below.refl _ _)).1.sieves.cell k hks
        have hsr := HSM.out.2.1.2 _ (List.getElem_mem hkl)
        have hsx := HSM.out.2.2.1.2 _ (List.getElem_mem hks)
        obtain ⟨r, h0⟩ : ∃ r, r = levels[k] := ⟨_, rfl⟩
        obtain ⟨x, hx⟩ : ∃ x, x = sieves[k] := ⟨_, rfl⟩
        have hLK : levels[k]? = some r := by rw [List.getElem?_eq_getElem hkl, h0]
        rw [← h0] at dl he e1
        have hsr' : smallE r := by rw [h0]; exact hsr
        have hsx' : smallS x := by rw [hx]; exact hsx
        rw [← hx] at s0 s1 s2 s3 s4 hst e3
        have HX := Lib.hid hx
        clear hsr hsx hx
        obtain ⟨X0, X1, X2, XR, XK⟩ := x
        have HLK := Lib.hid hLK
        have H0 := Lib.hid h0
        have dw := (HKB.out.cell (p := ⟨lb, lo + k, none⟩) hlb).trans dl
        have hwl := (HBX.out wr HKB.out).2.1
        have HS7 := Lib.hid (show ∀ W, Below W0.heap.size W0 W → (fun W : World => W.cell? ⟨w.heap.size, 2, none⟩ = some (.slice A2 sieves.length c2) ∧ W.cell? ⟨sb, so + k * 5, none⟩ = some (.string X0) ∧ W.cell? ⟨sb, so + k * 5 + 1, none⟩ = some (.string X1) ∧ W.cell? ⟨sb, so + k * 5 + 2, none⟩ = some (.string X2) ∧ W.cell? ⟨sb, so + k * 5 + 3, none⟩ = some (.slice A3 XR.length c3) ∧ W.cell? ⟨sb, so + k * 5 + 4, none⟩ = some (.int .i64 XK)) W from fun W hW => ⟨(HBX.out W hW).2.2.1, (hW.cell (p := ⟨sb, so + k * 5, none⟩) hsb).trans s0, (hW.cell (p := ⟨sb, so + k * 5 + 1, none⟩) hsb).trans s1, (hW.cell (p := ⟨sb, so + k * 5 + 2, none⟩) hsb).trans s2, (hW.cell (p := ⟨sb, so + k * 5 + 3, none⟩) hsb).trans s3, (hW.cell (p := ⟨sb, so + k * 5 + 4, none⟩) hsb).trans s4⟩)
        have hfr : ∀ e ∈ r, e.key.size ≤ maxLen := fun e he => by have := hsr'.2 e he; unfold maxLen; omega
        have HENT := Lib.hid (show ∀ W, Below W0.heap.size W0 W → Ents W W.heap.size A' r.length r from fun W hW => (he.below hW (Nat.le_refl _)).more hW.size)
        obtain ⟨b, hb⟩ : ∃ b, b = runB r := ⟨_, rfl⟩
        have HRK := Lib.hid (show ∀ W, Below W0.heap.size W0 W → Calls Tryz.prog 115 #[.slice A' r.length c'] W fun e w' => e = .returned (.bool b) ∧ Below W.heap.size W w' from fun W hW => by
          rw [hb]; exact runI W W.heap.size r.length c' A' r (HENT.out W hW) (Nat.le_refl _) (Nat.le_trans e1 e2) hfr)
        have HCL := Lib.hid (show ∀ W, Below W0.heap.size W0 W → Calls Tryz.prog 113 #[.slice A' r.length c'] W (NewSE W r) from fun W hW => cloneE W W.heap.size r.length c' A' r (HENT.out W hW) (Nat.le_refl _) hsr'.1)
        have HBQ := Lib.hid hb
        have HSX := Lib.hid hsx'
        have HSRR := Lib.hid hsr'
        have HFRR := Lib.hid hfr
        have HSTT := Lib.hid (show ∀ W, Below W0.heap.size W0 W → Strs W W.heap.size A3 XR.length XR from fun W hW => (hst.below hW (Nat.le_refl _)).more hW.size)
        clear hg1 hg2 hb hsx' hsr' hfr he hst s0 s1 s2 s3 s4 dl h0 hLK e1 e3
        subst hA hA2
        cases b with
        | false =>
          go_upto_region 7 with fail
          refine wp_region_held_drew (S := (fun W : World => W.cell? ⟨w.heap.size, 2, none⟩ = some (.slice (some ⟨sb, so, none⟩) sieves.length c2) ∧ W.cell? ⟨sb, so + k * 5, none⟩ = some (.string X0) ∧ W.cell? ⟨sb, so + k * 5 + 1, none⟩ = some (.string X1) ∧ W.cell? ⟨sb, so + k * 5 + 2, none⟩ = some (.string X2) ∧ W.cell? ⟨sb, so + k * 5 + 3, none⟩ = some (.slice A3 XR.length c3) ∧ W.cell? ⟨sb, so + k * 5 + 4, none⟩ = some (.int .i64 XK))) (by kernel_rfl) (HS7.out _ (by exact bel2 HKB.out (by rfl) (by rfl) (by rfl) (by rfl))) (fun hHeld => ?_)
          refine wpAnyH_takes (a' := ?a4_) [0] (k := 1) rfl (by kernel_rfl) (by kernel_rfl) (fun _ _ _ _ _ h => h) ?t4_ (by assumption) ?r4_
          case t4_ =>
            iterate 1
              apply takes_cons rfl
              · first | (refine Or.inl ⟨by rfl, fun w9 hSw => ?_⟩; clear hSw; go_simp; (first | done | with_reducible rfl))
              (try simp only [Act.put]); (try simp only [List.setIfInBounds_toArray]); (try simp only [List.set_cons_succ]); (try simp only [List.set_cons_zero])
            exact takes_nil
          refine wpAnyH_ready (rs := [1]) (by kernel_rfl) (by simp) ?_
          refine AllReadyH.cons (o := { dst := Option.some 38, op := Go.Op.call { callee := Go.Callee.value (Go.Operand.func 115), args := #[Go.Operand.tmp 37], argTypes := #[29] }, type := 4, pos := "l12_store.go:158", after := #[{ on := 0, ground := Go.Ground.data }], guard := Option.none }) rfl (fun K hK => ?_) AllReadyH.nil
          go_simp
          (go_at_call 115; refine Calls.mono (HRK.out _ (by exact bel2 HKB.out (by rfl) (by rfl) (by rfl) (by rfl))) ?_; rintro e w9 ⟨rfl, hb9⟩; have HB9 := Lib.hid (Below.trans (show Below W0.heap.size W0 _ by exact bel2 HKB.out (by rfl) (by rfl) (by rfl) (by rfl)) (hb9.mono (show W0.heap.size ≤ _ by exact HKB.out.size))); have HK9 := Lib.hid ((HKD.out).below hb9); clear hb9)
          (try go_wp2_with fail)
          refine hK.out _ _ (HS7.out _ HB9.out) (fun hHeld => ?_)
          clear hK K
          (try simp only [Act.put]); (try simp only [List.setIfInBounds_toArray]); (try simp only [List.set_cons_succ]); (try simp only [List.set_cons_zero])
          refine wpAnyH_takes (a' := ?a5_) [2, 3, 4, 5, 6, 7, 8, 9, 10, 11, 12, 13, 14, 15, 16, 17, 18, 19, 20, 21, 22, 23, 24, 25, 26] (k := 25) rfl (by kernel_rfl) (by kernel_rfl) (fun _ _ _ _ _ h => h) ?t5_ (by assumption) ?r5_
          case t5_ =>
            iterate 25
              apply takes_cons rfl
              · first | (refine Or.inl ⟨by rfl, fun w9 hSw => ?_⟩; clear hSw; go_simp; (first | done | with_reducible rfl)) | exact Or.inr ⟨by rfl, rfl⟩
              (try simp only [Act.put]); (try simp only [List.setIfInBounds_toArray]); (try simp only [List.set_cons_succ]); (try simp only [List.set_cons_zero])
            exact takes_nil
          refine wpAnyH_done (by kernel_rfl) ?_ _
          go_wp2
          go_ret2
          exact ⟨_, false, rfl, ⟨fun h => (by cases h), fun h => absurd (h.lvl k hkl hks) (by show ¬ lvlB keep k levels[k] sieves[k] = true; rw [← H0.out, lvl_run HBQ.out.symm]; simp)⟩, HB.out.trans (HB9.out.mono HB.out.size), fun h => (by cases h)⟩
        | true =>
          have hrun := HBQ.out.symm
          obtain ⟨okv, hok⟩ : ∃ b, b = (svYes (keysO r) keep && decide (r.length ≤ 8 * (k + 1))) := ⟨_, rfl⟩
          obtain ⟨eqv, heq⟩ : ∃ b, b = eqB X0 X1 X2 (svL (keysL r) keep) (svM (keysL r) keep) (svF (keysL r) keep) XR (svR (keysL r) keep) XK (svK (keysL r) keep) := ⟨_, rfl⟩
          have HLP := Lib.hid (show lvlB keep k r ⟨X0, X1, X2, XR, XK⟩ = (okv && eqv) by rw [lvl_parts hrun, hok, heq])
          have HFI0 := Lib.hid (show ∀ W A7 c7, TreeK W0 W gt cur A8 A9 k8 k9 top levels keep time times k → OwnE W W0.heap.size (.slice A7 r.length c7) r → Calls Tryz.prog 111 #[.pointer (some ⟨gt, 0, none⟩), .int .i64 (k : Nat), .slice A7 r.length c7] W (FillA W gt k cur (.slice A7 r.length c7) okv (svL (keysL r) keep) (svM (keysL r) keep) (svF (keysL r) keep) (svR (keysL r) keep) (svK (keysL r) keep)) from fun W A7 c7 hK hO => by
            rw [hok, ← keysO_run hrun]
            obtain ⟨A'', c'', hv, -, -, he⟩ := ownE_parts hO
            injection hv with ea _ ec
            subst ea ec
            exact fillI W gt k c7 A7 r cur keep hK.row hK.size (hK.cells hK.a19) hlt (HE0.out.below hK.bel) he HSRR.out.1 HFRR.out)
          have HSE := Lib.hid (show ∀ W Bq dq, Below W0.heap.size W0 W → Strs W W.heap.size Bq (svR (keysL r) keep).length (svR (keysL r) keep) → Calls Tryz.prog 116 #[.agg #[.string X0, .string X1, .string X2, .slice A3 XR.length c3, .int .i64 XK], .agg #[.string (svL (keysL r) keep), .string (svM (keysL r) keep), .string (svF (keysL r) keep), .slice Bq (svR (keysL r) keep).length dq, .int .i64 (svK (keysL r) keep)]] W fun e w' => e = .returned (.bool eqv) ∧ Below W.heap.size W w' from fun W Bq dq hW hS => by
            rw [heq]
            exact sevI W XR.length c3 (svR (keysL r) keep).length dq _ Bq X0 X1 X2 _ _ _ XR _ XK _ (HSTT.out W hW) hS (by have := HSX.out.2.1; unfold maxLen; simp at this; omega) (by have := svR_len (keysL r) keep; unfold maxLen; omega))
          have HRUN := Lib.hid hrun
          clear hok heq hrun
          cases okv with
          | false =>
            have HFI := Lib.hid (show ∀ W A7 c7, TreeK W0 W gt cur A8 A9 k8 k9 top levels keep time times k → OwnE W W0.heap.size (.slice A7 r.length c7) r → Calls Tryz.prog 111 #[.pointer (some ⟨gt, 0, none⟩), .int .i64 (k : Nat), .slice A7 r.length c7] W fun e w' => (∃ te pe, e = .returned (.iface te pe)) ∧ Below W.heap.size W w' from fun W A7 c7 h1 h2 => (HFI0.out W A7 c7 h1 h2).mono fun e w' h => by
              rcases h with ⟨h, -⟩ | ⟨-, h⟩
              · cases h
              · exact h)
            go_upto_region 7 with fail
            refine wp_region_held_drew (S := (fun W : World => W.cell? ⟨w.heap.size, 2, none⟩ = some (.slice (some ⟨sb, so, none⟩) sieves.length c2) ∧ W.cell? ⟨sb, so + k * 5, none⟩ = some (.string X0) ∧ W.cell? ⟨sb, so + k * 5 + 1, none⟩ = some (.string X1) ∧ W.cell? ⟨sb, so + k * 5 + 2, none⟩ = some (.string X2) ∧ W.cell? ⟨sb, so + k * 5 + 3, none⟩ = some (.slice A3 XR.length c3) ∧ W.cell? ⟨sb, so + k * 5 + 4, none⟩ = some (.int .i64 XK))) (by kernel_rfl) (HS7.out _ (by exact bel2 HKB.out (by rfl) (by rfl) (by rfl) (by rfl))) (fun hHeld => ?_)
            refine wpAnyH_takes (a' := ?a6_) [0] (k := 1) rfl (by kernel_rfl) (by kernel_rfl) (fun _ _ _ _ _ h => h) ?t6_ (by assumption) ?r6_
            case t6_ =>
              iterate 1
                apply takes_cons rfl
                · first | (refine Or.inl ⟨by rfl, fun w9 hSw => ?_⟩; clear hSw; go_simp; (first | done | with_reducible rfl))
                (try simp only [Act.put]); (try simp only [List.setIfInBounds_toArray]); (try simp only [List.set_cons_succ]); (try simp only [List.set_cons_zero])
              exact takes_nil
            refine wpAnyH_ready (rs := [1]) (by kernel_rfl) (by simp) ?_
            refine AllReadyH.cons (o := { dst := Option.some 38, op := Go.Op.call { callee := Go.Callee.value (Go.Operand.func 115), args := #[Go.Operand.tmp 37], argTypes := #[29] }, type := 4, pos := "l12_store.go:158", after := #[{ on := 0, ground := Go.Ground.data }], guard := Option.none }) rfl (fun K hK => ?_) AllReadyH.nil
            go_simp
            (go_at_call 115; refine Calls.mono (HRK.out _ (by exact bel2 HKB.out (by rfl) (by rfl) (by rfl) (by rfl))) ?_; rintro e w9 ⟨rfl, hb9⟩; have HB9 := Lib.hid (Below.trans (show Below W0.heap.size W0 _ by exact bel2 HKB.out (by rfl) (by rfl) (by rfl) (by rfl)) (hb9.mono (show W0.heap.size ≤ _ by exact HKB.out.size))); have HK9 := Lib.hid ((HKD.out).below hb9); clear hb9)
            (try go_wp2_with fail)
            refine hK.out _ _ (HS7.out _ HB9.out) (fun hHeld => ?_)
            clear hK K
            (try simp only [Act.put]); (try simp only [List.setIfInBounds_toArray]); (try simp only [List.set_cons_succ]); (try simp only [List.set_cons_zero])
            refine wpAnyH_takes (a' := ?a7_) [2, 3, 4, 5, 6] (k := 5) rfl (by kernel_rfl) (by kernel_rfl) (fun _ _ _ _ _ h => h) ?t7_ (by assumption) ?r7_
            case t7_ =>
              iterate 5
                apply takes_cons rfl
                · first | (refine Or.inl ⟨by rfl, fun w9 hSw => ?_⟩; clear hSw; go_simp; (first | done | with_reducible rfl))
                (try simp only [Act.put]); (try simp only [List.setIfInBounds_toArray]); (try simp only [List.set_cons_succ]); (try simp only [List.set_cons_zero])
              exact takes_nil
            refine wpAnyH_ready (rs := [7]) (by kernel_rfl) (by simp) ?_
            refine AllReadyH.cons (o := { dst := Option.some 44, op := Go.Op.call { callee := Go.Callee.value (Go.Operand.func 113), args := #[Go.Operand.tmp 43], argTypes := #[29] }, type := 29, pos := "l12_store.go:158", after := #[{ on := 6, ground := Go.Ground.data }, { on := 3, ground := Go.Ground.chain }, { on := 3, ground := Go.Ground.guard }], guard := Option.some (3, Bool.false) }) rfl (fun K hK => ?_) AllReadyH.nil
            go_simp
            (go_at_call 113; refine Calls.mono (HCL.out _ HB9.out) ?_; rintro e w8 ⟨v8, rfl, ho8, hb8⟩; obtain ⟨A7, c7, hv7, -, -, -⟩ := ownE_parts ho8; subst hv7; have HB8 := Lib.hid (HB9.out.trans (hb8.mono HB9.out.size)); have HK8 := Lib.hid (HK9.out.below hb8); have HO8 := Lib.hid (ownE_base ho8 HB9.out.size); clear ho8 hb8)
            (try go_wp2_with fail)
            refine hK.out _ _ (HS7.out _ HB8.out) (fun hHeld => ?_)
            clear hK K
            (try simp only [Act.put]); (try simp only [List.setIfInBounds_toArray]); (try simp only [List.set_cons_succ]); (try simp only [List.set_cons_zero])
            refine wpAnyH_ready (rs := [8]) (by kernel_rfl) (by simp) ?_
            refine AllReadyH.cons (o := { dst := Option.some 45, op := Go.Op.call { callee := Go.Callee.value (Go.Operand.func 111), args := #[Go.Operand.tmp 41, Go.Operand.tmp 42, Go.Operand.tmp 44], argTypes := #[69, 3, 29] }, type := 76, pos := "l12_store.go:158", after := #[{ on := 4, ground := Go.Ground.data }, { on := 5, ground := Go.Ground.data }, { on := 7, ground := Go.Ground.data }, { on := 7, ground := Go.Ground.chain }, { on := 3, ground := Go.Ground.guard }], guard := Option.some (3, Bool.false) }) rfl (fun K hK => ?_) AllReadyH.nil
            go_simp
            (go_at_call 111; refine Calls.mono (HFI.out _ _ _ HK8.out HO8.out) ?_; rintro e w7 ⟨⟨te, pe, rfl⟩, hb7⟩; have HB7 := Lib.hid (HB8.out.trans (hb7.mono HB8.out.size)); clear hb7)
            (try go_wp2_with fail)
            refine hK.out _ _ (HS7.out _ HB7.out) (fun hHeld => ?_)
            clear hK K
            (try simp only [Act.put]); (try simp only [List.setIfInBounds_toArray]); (try simp only [List.set_cons_succ]); (try simp only [List.set_cons_zero])
            refine wpAnyH_takes (a' := ?a8_) [9, 10, 11, 12, 13, 14, 15, 16, 17, 18, 19, 20, 21, 22, 23, 24, 25, 26] (k := 18) rfl (by kernel_rfl) (by kernel_rfl) (fun _ _ _ _ _ h => h) ?t8_ (by assumption) ?r8_
            case t8_ =>
              iterate 18
                apply takes_cons rfl
                · first | (refine Or.inl ⟨by rfl, fun w9 hSw => ?_⟩; clear hSw; go_simp; (first | done | with_reducible rfl)) | exact Or.inr ⟨by rfl, rfl⟩
                (try simp only [Act.put]); (try simp only [List.setIfInBounds_toArray]); (try simp only [List.set_cons_succ]); (try simp only [List.set_cons_zero])
              exact takes_nil
            refine wpAnyH_done (by kernel_rfl) ?_ _
            go_wp2
            go_ret2
            exact ⟨_, false, rfl, ⟨fun h => (by cases h), fun h => absurd (h.lvl k hkl hks) (by show ¬ lvlB keep k levels[k] sieves[k] = true; rw [← H0.out, ← HX.out, HLP.out]; simp)⟩, HB.out.trans (HB7.out.mono HB.out.size), fun h => (by cases h)⟩
          | true =>
            have HFI := Lib.hid (show ∀ W A7 c7, TreeK W0 W gt cur A8 A9 k8 k9 top levels keep time times k → OwnE W W0.heap.size (.slice A7 r.length c7) r → Calls Tryz.prog 111 #[.pointer (some ⟨gt, 0, none⟩), .int .i64 (k : Nat), .slice A7 r.length c7] W fun e w' => e = .returned .nilIface ∧ ∃ B7 d7, Filled W gt k cur (.slice A7 r.length c7) (svL (keysL r) keep) (svM (keysL r) keep) (svF (keysL r) keep) (svR (keysL r) keep) (svK (keysL r) keep) w' (.slice B7 (svR (keysL r) keep).length d7) from fun W A7 c7 h1 h2 => (HFI0.out W A7 c7 h1 h2).mono fun e w' h => by
              rcases h with ⟨-, h, v, hf⟩ | ⟨h, -⟩
              · obtain ⟨B7, d7, hv, -, -, -⟩ := hf.own.parts
                subst hv
                exact ⟨h, B7, d7, hf⟩
              · cases h)
            go_upto_region 7 with fail
            cases eqv
            case false =>
              refine wp_region_held_drew (S := (fun W : World => W.cell? ⟨w.heap.size, 2, none⟩ = some (.slice (some ⟨sb, so, none⟩) sieves.length c2) ∧ W.cell? ⟨sb, so + k * 5, none⟩ = some (.string X0) ∧ W.cell? ⟨sb, so + k * 5 + 1, none⟩ = some (.string X1) ∧ W.cell? ⟨sb, so + k * 5 + 2, none⟩ = some (.string X2) ∧ W.cell? ⟨sb, so + k * 5 + 3, none⟩ = some (.slice A3 XR.length c3) ∧ W.cell? ⟨sb, so + k * 5 + 4, none⟩ = some (.int .i64 XK))) (by kernel_rfl) (HS7.out _ (by exact bel2 HKB.out (by rfl) (by rfl) (by rfl) (by rfl))) (fun hHeld => ?_)
              refine wpAnyH_takes (a' := ?a9_) [0] (k := 1) rfl (by kernel_rfl) (by kernel_rfl) (fun _ _ _ _ _ h => h) ?t9_ (by assumption) ?r9_
              case t9_ =>
                iterate 1
                  apply takes_cons rfl
                  · first | (refine Or.inl ⟨by rfl, fun w9 hSw => ?_⟩; clear hSw; go_simp; (first | done | with_reducible rfl))
                  (try simp only [Act.put]); (try simp only [List.setIfInBounds_toArray]); (try simp only [List.set_cons_succ]); (try simp only [List.set_cons_zero])
                exact takes_nil
              refine wpAnyH_ready (rs := [1]) (by kernel_rfl) (by simp) ?_
              refine AllReadyH.cons (o := { dst := Option.some 38, op := Go.Op.call { callee := Go.Callee.value (Go.Operand.func 115), args := #[Go.Operand.tmp 37], argTypes := #[29] }, type := 4, pos := "l12_store.go:158", after := #[{ on := 0, ground := Go.Ground.data }], guard := Option.none }) rfl (fun K hK => ?_) AllReadyH.nil
              go_simp
              (go_at_call 115; refine Calls.mono (HRK.out _ (by exact bel2 HKB.out (by rfl) (by rfl) (by rfl) (by rfl))) ?_; rintro e w9 ⟨rfl, hb9⟩; have HB9 := Lib.hid (Below.trans (show Below W0.heap.size W0 _ by exact bel2 HKB.out (by rfl) (by rfl) (by rfl) (by rfl)) (hb9.mono (show W0.heap.size ≤ _ by exact HKB.out.size))); have HK9 := Lib.hid ((HKD.out).below hb9); clear hb9)
              (try go_wp2_with fail)
              refine hK.out _ _ (HS7.out _ HB9.out) (fun hHeld => ?_)
              clear hK K
              (try simp only [Act.put]); (try simp only [List.setIfInBounds_toArray]); (try simp only [List.set_cons_succ]); (try simp only [List.set_cons_zero])
              refine wpAnyH_takes (a' := ?a10_) [2, 3, 4, 5, 6] (k := 5) rfl (by kernel_rfl) (by kernel_rfl) (fun _ _ _ _ _ h => h) ?t10_ (by assumption) ?r10_
              case t10_ =>
                iterate 5
                  apply takes_cons rfl
                  · first | (refine Or.inl ⟨by rfl, fun w9 hSw => ?_⟩; clear hSw; go_simp; (first | done | with_reducible rfl))
                  (try simp only [Act.put]); (try simp only [List.setIfInBounds_toArray]); (try simp only [List.set_cons_succ]); (try simp only [List.set_cons_zero])
                exact takes_nil
              refine wpAnyH_ready (rs := [7]) (by kernel_rfl) (by simp) ?_
              refine AllReadyH.cons (o := { dst := Option.some 44, op := Go.Op.call { callee := Go.Callee.value (Go.Operand.func 113), args := #[Go.Operand.tmp 43], argTypes := #[29] }, type := 29, pos := "l12_store.go:158", after := #[{ on := 6, ground := Go.Ground.data }, { on := 3, ground := Go.Ground.chain }, { on := 3, ground := Go.Ground.guard }], guard := Option.some (3, Bool.false) }) rfl (fun K hK => ?_) AllReadyH.nil
              go_simp
              (go_at_call 113; refine Calls.mono (HCL.out _ HB9.out) ?_; rintro e w8 ⟨v8, rfl, ho8, hb8⟩; obtain ⟨A7, c7, hv7, -, -, -⟩ := ownE_parts ho8; subst hv7; have HB8 := Lib.hid (HB9.out.trans (hb8.mono HB9.out.size)); have HK8 := Lib.hid (HK9.out.below hb8); have HO8 := Lib.hid (ownE_base ho8 HB9.out.size); clear ho8 hb8)
              (try go_wp2_with fail)
              refine hK.out _ _ (HS7.out _ HB8.out) (fun hHeld => ?_)
              clear hK K
              (try simp only [Act.put]); (try simp only [List.setIfInBounds_toArray]); (try simp only [List.set_cons_succ]); (try simp only [List.set_cons_zero])
              refine wpAnyH_ready (rs := [8]) (by kernel_rfl) (by simp) ?_
              refine AllReadyH.cons (o := { dst := Option.some 45, op := Go.Op.call { callee := Go.Callee.value (Go.Operand.func 111), args := #[Go.Operand.tmp 41, Go.Operand.tmp 42, Go.Operand.tmp 44], argTypes := #[69, 3, 29] }, type := 76, pos := "l12_store.go:158", after := #[{ on := 4, ground := Go.Ground.data }, { on := 5, ground := Go.Ground.data }, { on := 7, ground := Go.Ground.data }, { on := 7, ground := Go.Ground.chain }, { on := 3, ground := Go.Ground.guard }], guard := Option.some (3, Bool.false) }) rfl (fun K hK => ?_) AllReadyH.nil
              go_simp
              (go_at_call 111; refine Calls.mono (HFI.out _ _ _ HK8.out HO8.out) ?_; rintro e w7 ⟨rfl, B7, d7, hf7⟩; obtain ⟨cur7, hk7, hc7⟩ := HK8.out.fill hlt HLK.out HO8.out hf7; have HK7 := Lib.hid hk7; obtain ⟨Aq, Bq, cq, dq, lq⟩ := hk7.lv k hkl (Nat.lt_succ_self k); rw [← H0.out] at lq; have t1 := hk7.cells lq.c1; have t2 := hk7.cells lq.c2; have t3 := hk7.cells lq.c3; have t4 := hk7.cells lq.c4; have t5 := hk7.cells lq.c5; have HSR := Lib.hid (strs_own' lq.rests); have HB7 := Lib.hid hk7.bel; clear hf7 hk7 hc7 lq)
              (try go_wp2_with fail)
              refine hK.out _ _ (HS7.out _ HB7.out) (fun hHeld => ?_)
              clear hK K
              (try simp only [Act.put]); (try simp only [List.setIfInBounds_toArray]); (try simp only [List.set_cons_succ]); (try simp only [List.set_cons_zero])
              refine wpAnyH_takes (a' := ?a11_) [9, 10, 11, 12, 13, 14, 15, 16, 17, 18, 19, 20, 21, 22] (k := 14) rfl (by kernel_rfl) (by kernel_rfl) (fun _ _ _ _ _ h => h) ?t11_ (by assumption) ?r11_
              case t11_ =>
                iterate 14
                  apply takes_cons rfl
                  · first | (refine Or.inl ⟨by rfl, fun w9 hSw => ?_⟩; clear hSw; go_simp; (first | done | with_reducible rfl)) | (refine Or.inl ⟨by rfl, fun w9 hSw => ?_⟩; obtain ⟨f0, f1, f2, f3, f4, f5⟩ := hSw; go_simp; (first | done | with_reducible rfl))
                  (try simp only [Act.put]); (try simp only [List.setIfInBounds_toArray]); (try simp only [List.set_cons_succ]); (try simp only [List.set_cons_zero])
                exact takes_nil
              refine wpAnyH_ready (rs := [23]) (by kernel_rfl) (by simp) ?_
              refine AllReadyH.cons (o := { dst := Option.some 60, op := Go.Op.load 92 (Go.Operand.tmp 59), type := 92, pos := "l12_store.go:158", after := #[{ on := 22, ground := Go.Ground.data }, { on := 11, ground := Go.Ground.guard }], guard := Option.some (11, Bool.false) }) rfl (fun K hK => ?_) AllReadyH.nil
              go_simp
              refine hK.out _ _ (HS7.out _ HB7.out) (fun hHeld => ?_)
              clear hK K
              (try simp only [Act.put]); (try simp only [List.setIfInBounds_toArray]); (try simp only [List.set_cons_succ]); (try simp only [List.set_cons_zero])
              refine wpAnyH_ready (rs := [24]) (by kernel_rfl) (by simp) ?_
              refine AllReadyH.cons (o := { dst := Option.some 61, op := Go.Op.call { callee := Go.Callee.value (Go.Operand.func 116), args := #[Go.Operand.tmp 53, Go.Operand.tmp 60], argTypes := #[92, 92] }, type := 4, pos := "l12_store.go:158", after := #[{ on := 16, ground := Go.Ground.data }, { on := 23, ground := Go.Ground.data }, { on := 11, ground := Go.Ground.chain }, { on := 11, ground := Go.Ground.guard }], guard := Option.some (11, Bool.false) }) rfl (fun K hK => ?_) AllReadyH.nil
              go_simp
              (go_at_call 116; refine Calls.mono (HSE.out _ _ _ HB7.out HSR.out) ?_; rintro e w6 ⟨rfl, hb6⟩; have HB6 := Lib.hid (HB7.out.trans (hb6.mono HB7.out.size)); have HK6 := Lib.hid (HK7.out.below hb6); clear hb6)
              (try go_wp2_with fail)
              refine hK.out _ _ (HS7.out _ HB6.out) (fun hHeld => ?_)
              clear hK K
              (try simp only [Act.put]); (try simp only [List.setIfInBounds_toArray]); (try simp only [List.set_cons_succ]); (try simp only [List.set_cons_zero])
              refine wpAnyH_takes (a' := ?a12_) [25, 26] (k := 2) rfl (by kernel_rfl) (by kernel_rfl) (fun _ _ _ _ _ h => h) ?t12_ (by assumption) ?r12_
              case t12_ =>
                iterate 2
                  apply takes_cons rfl
                  · first | (refine Or.inl ⟨by rfl, fun w9 hSw => ?_⟩; clear hSw; go_simp; (first | done | with_reducible rfl))
                  (try simp only [Act.put]); (try simp only [List.setIfInBounds_toArray]); (try simp only [List.set_cons_succ]); (try simp only [List.set_cons_zero])
                exact takes_nil
              refine wpAnyH_done (by kernel_rfl) ?_ _
              go_wp2
              go_ret2
              exact ⟨_, false, rfl, ⟨fun h => (by cases h), fun h => absurd (h.lvl k hkl hks) (by show ¬ lvlB keep k levels[k] sieves[k] = true; rw [← H0.out, ← HX.out, HLP.out]; simp)⟩, HB.out.trans (HB6.out.mono HB.out.size), fun h => (by cases h)⟩
            case true =>
              refine wp_region_held_drew (S := (fun W : World => W.cell? ⟨w.heap.size, 2, none⟩ = some (.slice (some ⟨sb, so, none⟩) sieves.length c2) ∧ W.cell? ⟨sb, so + k * 5, none⟩ = some (.string X0) ∧ W.cell? ⟨sb, so + k * 5 + 1, none⟩ = some (.string X1) ∧ W.cell? ⟨sb, so + k * 5 + 2, none⟩ = some (.string X2) ∧ W.cell? ⟨sb, so + k * 5 + 3, none⟩ = some (.slice A3 XR.length c3) ∧ W.cell? ⟨sb, so + k * 5 + 4, none⟩ = some (.int .i64 XK))) (by kernel_rfl) (HS7.out _ (by exact bel2 HKB.out (by rfl) (by rfl) (by rfl) (by rfl))) (fun hHeld => ?_)
              refine wpAnyH_takes (a' := ?a13_) [0] (k := 1) rfl (by kernel_rfl) (by kernel_rfl) (fun _ _ _ _ _ h => h) ?t13_ (by assumption) ?r13_
              case t13_ =>
                iterate 1
                  apply takes_cons rfl
                  · first | (refine Or.inl ⟨by rfl, fun w9 hSw => ?_⟩; clear hSw; go_simp; (first | done | with_reducible rfl))
                  (try simp only [Act.put]); (try simp only [List.setIfInBounds_toArray]); (try simp only [List.set_cons_succ]); (try simp only [List.set_cons_zero])
                exact takes_nil
              refine wpAnyH_ready (rs := [1]) (by kernel_rfl) (by simp) ?_
              refine AllReadyH.cons (o := { dst := Option.some 38, op := Go.Op.call { callee := Go.Callee.value (Go.Operand.func 115), args := #[Go.Operand.tmp 37], argTypes := #[29] }, type := 4, pos := "l12_store.go:158", after := #[{ on := 0, ground := Go.Ground.data }], guard := Option.none }) rfl (fun K hK => ?_) AllReadyH.nil
              go_simp
              (go_at_call 115; refine Calls.mono (HRK.out _ (by exact bel2 HKB.out (by rfl) (by rfl) (by rfl) (by rfl))) ?_; rintro e w9 ⟨rfl, hb9⟩; have HB9 := Lib.hid (Below.trans (show Below W0.heap.size W0 _ by exact bel2 HKB.out (by rfl) (by rfl) (by rfl) (by rfl)) (hb9.mono (show W0.heap.size ≤ _ by exact HKB.out.size))); have HK9 := Lib.hid ((HKD.out).below hb9); clear hb9)
              (try go_wp2_with fail)
              refine hK.out _ _ (HS7.out _ HB9.out) (fun hHeld => ?_)
              clear hK K
              (try simp only [Act.put]); (try simp only [List.setIfInBounds_toArray]); (try simp only [List.set_cons_succ]); (try simp only [List.set_cons_zero])
              refine wpAnyH_takes (a' := ?a14_) [2, 3, 4, 5, 6] (k := 5) rfl (by kernel_rfl) (by kernel_rfl) (fun _ _ _ _ _ h => h) ?t14_ (by assumption) ?r14_
              case t14_ =>
                iterate 5
                  apply takes_cons rfl
                  · first | (refine Or.inl ⟨by rfl, fun w9 hSw => ?_⟩; clear hSw; go_simp; (first | done | with_reducible rfl))
                  (try simp only [Act.put]); (try simp only [List.setIfInBounds_toArray]); (try simp only [List.set_cons_succ]); (try simp only [List.set_cons_zero])
                exact takes_nil
              refine wpAnyH_ready (rs := [7]) (by kernel_rfl) (by simp) ?_
              refine AllReadyH.cons (o := { dst := Option.some 44, op := Go.Op.call { callee := Go.Callee.value (Go.Operand.func 113), args := #[Go.Operand.tmp 43], argTypes := #[29] }, type := 29, pos := "l12_store.go:158", after := #[{ on := 6, ground := Go.Ground.data }, { on := 3, ground := Go.Ground.chain }, { on := 3, ground := Go.Ground.guard }], guard := Option.some (3, Bool.false) }) rfl (fun K hK => ?_) AllReadyH.nil
              go_simp
              (go_at_call 113; refine Calls.mono (HCL.out _ HB9.out) ?_; rintro e w8 ⟨v8, rfl, ho8, hb8⟩; obtain ⟨A7, c7, hv7, -, -, -⟩ := ownE_parts ho8; subst hv7; have HB8 := Lib.hid (HB9.out.trans (hb8.mono HB9.out.size)); have HK8 := Lib.hid (HK9.out.below hb8); have HO8 := Lib.hid (ownE_base ho8 HB9.out.size); clear ho8 hb8)
              (try go_wp2_with fail)
              refine hK.out _ _ (HS7.out _ HB8.out) (fun hHeld => ?_)
              clear hK K
              (try simp only [Act.put]); (try simp only [List.setIfInBounds_toArray]); (try simp only [List.set_cons_succ]); (try simp only [List.set_cons_zero])
              refine wpAnyH_ready (rs := [8]) (by kernel_rfl) (by simp) ?_
              refine AllReadyH.cons (o := { dst := Option.some 45, op := Go.Op.call { callee := Go.Callee.value (Go.Operand.func 111), args := #[Go.Operand.tmp 41, Go.Operand.tmp 42, Go.Operand.tmp 44], argTypes := #[69, 3, 29] }, type := 76, pos := "l12_store.go:158", after := #[{ on := 4, ground := Go.Ground.data }, { on := 5, ground := Go.Ground.data }, { on := 7, ground := Go.Ground.data }, { on := 7, ground := Go.Ground.chain }, { on := 3, ground := Go.Ground.guard }], guard := Option.some (3, Bool.false) }) rfl (fun K hK => ?_) AllReadyH.nil
              go_simp
              (go_at_call 111; refine Calls.mono (HFI.out _ _ _ HK8.out HO8.out) ?_; rintro e w7 ⟨rfl, B7, d7, hf7⟩; obtain ⟨cur7, hk7, hc7⟩ := HK8.out.fill hlt HLK.out HO8.out hf7; have HK7 := Lib.hid hk7; obtain ⟨Aq, Bq, cq, dq, lq⟩ := hk7.lv k hkl (Nat.lt_succ_self k); rw [← H0.out] at lq; have t1 := hk7.cells lq.c1; have t2 := hk7.cells lq.c2; have t3 := hk7.cells lq.c3; have t4 := hk7.cells lq.c4; have t5 := hk7.cells lq.c5; have HSR := Lib.hid (strs_own' lq.rests); have HB7 := Lib.hid hk7.bel; clear hf7 hk7 hc7 lq)
              (try go_wp2_with fail)
              refine hK.out _ _ (HS7.out _ HB7.out) (fun hHeld => ?_)
              clear hK K
              (try simp only [Act.put]); (try simp only [List.setIfInBounds_toArray]); (try simp only [List.set_cons_succ]); (try simp only [List.set_cons_zero])
              refine wpAnyH_takes (a' := ?a15_) [9, 10, 11, 12, 13, 14, 15, 16, 17, 18, 19, 20, 21, 22] (k := 14) rfl (by kernel_rfl) (by kernel_rfl) (fun _ _ _ _ _ h => h) ?t15_ (by assumption) ?r15_
              case t15_ =>
                iterate 14
                  apply takes_cons rfl
                  · first | (refine Or.inl ⟨by rfl, fun w9 hSw => ?_⟩; clear hSw; go_simp; (first | done | with_reducible rfl)) | (refine Or.inl ⟨by rfl, fun w9 hSw => ?_⟩; obtain ⟨f0, f1, f2, f3, f4, f5⟩ := hSw; go_simp; (first | done | with_reducible rfl))
                  (try simp only [Act.put]); (try simp only [List.setIfInBounds_toArray]); (try simp only [List.set_cons_succ]); (try simp only [List.set_cons_zero])
                exact takes_nil
              refine wpAnyH_ready (rs := [23]) (by kernel_rfl) (by simp) ?_
              refine AllReadyH.cons (o := { dst := Option.some 60, op := Go.Op.load 92 (Go.Operand.tmp 59), type := 92, pos := "l12_store.go:158", after := #[{ on := 22, ground := Go.Ground.data }, { on := 11, ground := Go.Ground.guard }], guard := Option.some (11, Bool.false) }) rfl (fun K hK => ?_) AllReadyH.nil
              go_simp
              refine hK.out _ _ (HS7.out _ HB7.out) (fun hHeld => ?_)
              clear hK K
              (try simp only [Act.put]); (try simp only [List.setIfInBounds_toArray]); (try simp only [List.set_cons_succ]); (try simp only [List.set_cons_zero])
              refine wpAnyH_ready (rs := [24]) (by kernel_rfl) (by simp) ?_
              refine AllReadyH.cons (o := { dst := Option.some 61, op := Go.Op.call { callee := Go.Callee.value (Go.Operand.func 116), args := #[Go.Operand.tmp 53, Go.Operand.tmp 60], argTypes := #[92, 92] }, type := 4, pos := "l12_store.go:158", after := #[{ on := 16, ground := Go.Ground.data }, { on := 23, ground := Go.Ground.data }, { on := 11, ground := Go.Ground.chain }, { on := 11, ground := Go.Ground.guard }], guard := Option.some (11, Bool.false) }) rfl (fun K hK => ?_) AllReadyH.nil
              go_simp
              (go_at_call 116; refine Calls.mono (HSE.out _ _ _ HB7.out HSR.out) ?_; rintro e w6 ⟨rfl, hb6⟩; have HB6 := Lib.hid (HB7.out.trans (hb6.mono HB7.out.size)); have HK6 := Lib.hid (HK7.out.below hb6); clear hb6)
              (try go_wp2_with fail)
              refine hK.out _ _ (HS7.out _ HB6.out) (fun hHeld => ?_)
              clear hK K
              (try simp only [Act.put]); (try simp only [List.setIfInBounds_toArray]); (try simp only [List.set_cons_succ]); (try simp only [List.set_cons_zero])
              refine wpAnyH_takes (a' := ?a16_) [25, 26] (k := 2) rfl (by kernel_rfl) (by kernel_rfl) (fun _ _ _ _ _ h => h) ?t16_ (by assumption) ?r16_
              case t16_ =>
                iterate 2
                  apply takes_cons rfl
                  · first | (refine Or.inl ⟨by rfl, fun w9 hSw => ?_⟩; clear hSw; go_simp; (first | done | with_reducible rfl))
                  (try simp only [Act.put]); (try simp only [List.setIfInBounds_toArray]); (try simp only [List.set_cons_succ]); (try simp only [List.set_cons_zero])
                exact takes_nil
              refine wpAnyH_done (by kernel_rfl) ?_ _
              go_wp2
              go_roundw
              case rel =>
                refine ⟨k + 1, cur7, by omega, by go_num, HK6, Lib.hid (fun j h h2 hj => ?_)⟩
                by_cases e : j = k
                · subst e; rw [← H0.out, ← HX.out, HLP.out]; rfl
                · exact HLV.out j h h2 (by omega)
              case measure => simp [intOf]; omega
      · have hke : k = 3 := by omega
        subst hke
        obtain ⟨l0, l1, l2, hls⟩ : ∃ l0 l1 l2, levels = [l0, l1, l2] := by
          match levels, hg1 with
          | [a, b, c], _ => exact ⟨a, b, c, rfl⟩
        have hk3 : TreeK W0 wr gt cur A8 A9 k8 k9 top [l0, l1, l2] keep time times 3 := by rw [← hls]; exact HK.out
        obtain ⟨A1', A2', A3', B0', B1', B2', c1', c2', c3', d0', d1', d2', tm⟩ := hk3.tree
        have hlv := HLV.out
        have hall : ∀ i (h : i < levels.length) (h2 : i < sieves.length), lvlB keep i levels[i] sieves[i] = true := fun i h h2 => hlv i h h2 (by omega)
        have hrun : ∀ i (h : i < levels.length), runB levels[i] = true := fun i h => by
          have := hall i h (by omega)
          unfold lvlB at this
          rw [Bool.and_eq_true] at this
          exact this.1
        have r0 : runB l0 = true := by have := hrun 0 (by omega); simpa [hls] using this
        have r1 : runB l1 = true := by have := hrun 1 (by omega); simpa [hls] using this
        have r2 : runB l2 = true := by have := hrun 2 (by omega); simpa [hls] using this
        have HV := Lib.hid (validI wr gt _ _ _ _ _ _ _ _ _ _ _ _ _ _ _ _ _ tm r0 r1 r2 (fun e he => by have := HSM.out.1.2 e he; unfold maxLen; omega) (show times.length ≤ maxLen by have := HSM.out.2.2.2; unfold maxLen; simp at this; omega))
        have HST := Lib.hid (show ∀ b : Bool, (b = true ↔ TreeP ⟨top, l0, l1, l2, sfOf l0 keep, sfOf l1 keep, sfOf l2 keep, keep, time, times⟩) → (b = true ↔ StP ⟨top, levels, sieves, keep, time, times⟩) from fun b hb => by
          have ht : treeOf ⟨top, levels, sieves, keep, time, times⟩ (sfOf l0 keep) (sfOf l1 keep) (sfOf l2 keep) = ⟨top, l0, l1, l2, sfOf l0 keep, sfOf l1 keep, sfOf l2 keep, keep, time, times⟩ := by unfold treeOf; simp [hls]
          rw [stP_iff (sfOf l0 keep) (sfOf l1 keep) (sfOf l2 keep) hg1 hg2, ht]
          exact hb.trans ⟨fun h => ⟨hall, h⟩, fun h => h.2⟩)
        have HLS := Lib.hid hls
        have HK3 := Lib.hid hk3
        have hnl : ¬ ((3 : Nat) : Int) < (levels.length : Int) := by omega
        have HBE := Lib.hid HK.out.bel
        clear hg1 hg2 hls hk3 tm hlv hall hrun r0 r1 r2
        go_wp2_with fail
        go_at_call 98
        refine Calls.mono HV.out ?_
        rintro e w5 ⟨b, rfl, hbb, hb5⟩
        have HTK := Lib.hid (HK3.out.below hb5)
        have HBB := Lib.hid hbb
        have HB5 := Lib.hid (HBE.out.trans (hb5.mono HBE.out.size))
        clear hbb hb5
        go_wp2
        go_ret2
        exact ⟨_, b, rfl, HST.out b HBB.out, HB.out.trans (HB5.out.mono HB.out.size), fun _ => ⟨W0, gt, _, A8, A9, k8, k9, l0, l1, l2, rfl, HLS.out, HB.out, HB.out.size, HTK.out⟩⟩

end Go.Proofs.YtfhpkcamigkmdaaGreatDoor.W
