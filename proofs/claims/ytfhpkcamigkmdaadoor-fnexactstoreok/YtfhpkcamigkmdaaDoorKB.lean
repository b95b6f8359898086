/-
  The program's openStore: the tree is made.
-/
import Derived.Test.YtfhpkcamigkmdaaDoorZAX
import Derived.Deep.CutRange
import Derived.Deep.RegionHeld
namespace Go.Proofs.YtfhpkcamigkmdaaDoor.W
open Go.RowKit K R

theorem ownN_slice {w : World} {base : Nat} {v : Value} {l : List Int} (h : OwnN w base v l) : ∃ (A : Option Addr) (c : Nat), v = .slice A l.length c := by
  rcases h.2 with ⟨rfl, h0⟩ | ⟨g, cap, cur, rfl, _⟩
  · exact ⟨none, 0, by rw [h0]⟩
  · exact ⟨_, cap, rfl⟩
/-- a tree that was made, without levels -/
structure Made0 (W0 wx : World) (gt : Nat) (A8 A9 : Option Addr) (k8 k9 : Nat) (top : List En) (keep time : Int) (times : List Int) : Prop where
  row : wx.heap[gt]? = some (.cells (treeC (.slice A8 top.length k8) (.slice none 0 0) blankS (.slice none 0 0) (.slice none 0 0) blankS (.slice none 0 0) (.slice none 0 0) blankS (.slice none 0 0) keep time (.slice A9 times.length k9)) 51 (0, 0))
  top : OwnE wx W0.heap.size (.slice A8 top.length k8) top
  times : OwnN wx W0.heap.size (.slice A9 times.length k9) times
  new : W0.heap.size ≤ gt
  bel : Below W0.heap.size W0 wx

theorem strs_own' {w : World} {base n c : Nat} {A : Option Addr} {l : List ByteArray} (h : Own w base (.slice A n c) l) : Strs w w.heap.size A n l := by
  obtain ⟨A', c', hv, -, -, hs⟩ := h.parts
  injection hv with e1 e2
  subst e1 e2
  exact hs
/-- a store is opened, or told not to be one -/
def OpenP (s : Sto) (w : World) (e : Ending) (w' : World) : Prop := ∃ p b, e = .returned (.tuple #[p, .bool b]) ∧ (b = true ↔ StP s) ∧ Below w.heap.size w w'
theorem lvl_parts {keep : Int} {i : Nat} {r : List En} {x : Sf} (h : runB r = true) : lvlB keep i r x = ((svYes (keysO r) keep && decide (r.length ≤ 8 * (i + 1))) && eqB x.letters x.more x.first (svL (keysL r) keep) (svM (keysL r) keep) (svF (keysL r) keep) x.rests (svR (keysL r) keep) x.keep (svK (keysL r) keep)) := by
  unfold lvlB
  rw [sfB_eq, keysO_run h, h, Bool.true_and]
  cases decide (r.length ≤ 8 * (i + 1)) <;> cases svYes (keysL r) keep <;> rfl
theorem TreeK.cells {W0 w : World} {gt : Nat} {cur : Array Value} {A8 A9 : Option Addr} {k8 k9 : Nat} {top : List En} {levels : List (List En)} {keep time : Int} {times : List Int} {k : Nat} (h : TreeK W0 w gt cur A8 A9 k8 k9 top levels keep time times k) {o : Nat} {v : Value} (ho : cur[o]? = some v) : w.cell? ⟨gt, o, none⟩ = some v := by
  rw [cell_of_row _ _ _ _ _ _ h.row]; exact ho

set_option maxHeartbeats 8000000 in
set_option maxRecDepth 100000 in
theorem openI (w : World) (A0 A1 A2 A5 : Option Addr) (c0 c1 c2 c5 : Nat) (s : Sto) (hr : StM w w.heap.size A0 A1 A2 A5 c0 c1 c2 c5 s) (hsm : smallSt s) (hE : NoRoom w) :
    Calls Tryd.prog 41 #[stV A0 A1 A2 A5 c0 c1 c2 c5 s] w (OpenP s w) := by
  obtain ⟨top, levels, sieves, keep, time, times⟩ := s
  have HR := Lib.hid hr
  have HSM := Lib.hid hsm
  simp only [stV] at *
  obtain ⟨W0, hW0⟩ : ∃ W0, W0 = w.alloc (.cells #[.slice A0 top.length c0, .slice A1 levels.length c1, .slice A2 sieves.length c2, .int .i64 keep, .int .i64 time, .slice A5 times.length c5] 27) := ⟨_, rfl⟩
  have hbw : Below w.heap.size w W0 := by rw [hW0]; exact (Below.refl _ _).alloc (Nat.le_refl _) _
  have hs0 : W0.heap.size = w.heap.size + 1 := by rw [hW0]; simp
  have x0 : W0.heap[w.heap.size]? = some (.cells #[.slice A0 top.length c0, .slice A1 levels.length c1, .slice A2 sieves.length c2, .int .i64 keep, .int .i64 time, .slice A5 times.length c5] 27 (0, 0)) := by rw [hW0]; exact heap_alloc_new _ _
  have HB := Lib.hid hbw
  have HBX := Lib.hid (show ∀ W, Below W0.heap.size W0 W → _ from fun W hW => st_cells ((hW.block w.heap.size (by omega)).trans x0))
  have HRW := Lib.hid (show ∀ W, Below W0.heap.size W0 W → StM W W.heap.size A0 A1 A2 A5 c0 c1 c2 c5 ⟨top, levels, sieves, keep, time, times⟩ ∧ w.heap.size ≤ W.heap.size from fun W hW => by
    have hz := Nat.le_trans hbw.size hW.size
    exact ⟨((HR.out.below hbw (Nat.le_refl _)).below (hW.mono hbw.size) (Nat.le_refl _)).more hz, hz⟩)
  have HE0 := Lib.hid (hE.below hbw)
  have HW0 := Lib.hid hW0
  clear hr hsm hbw hs0 x0 hW0 hE
  by_cases g1 : levels.length = 3
  case neg =>
    have n1 : ((levels.length : Int) != 3) = true := by simp; omega
    go_enter Tryd.func41, Tryd.ntmps41
    go_wp2
    go_ret2
    exact ⟨_, false, rfl, ⟨fun h => (by cases h), fun h => absurd h.nl g1⟩, (by have h := HB.out; rwa [HW0.out] at h)⟩
  have n1 : ((levels.length : Int) != 3) = false := by simp; omega
  have G1 := Lib.hid g1
  clear g1
  by_cases g2 : sieves.length = 3
  case neg =>
    have n2 : ((sieves.length : Int) != 3) = true := by simp; omega
    go_enter Tryd.func41, Tryd.ntmps41
    go_wp2
    go_ret2
    exact ⟨_, false, rfl, ⟨fun h => (by cases h), fun h => absurd h.ns g2⟩, (by have h := HB.out; rwa [HW0.out] at h)⟩
  have n2 : ((sieves.length : Int) != 3) = false := by simp; omega
  have G2 := Lib.hid g2
  clear g2
  have HCE := Lib.hid (show ∀ W, Below W0.heap.size W0 W → Calls Tryd.prog 61 #[.slice A0 top.length c0] W (NewSE W top) from fun W hW => cloneE W W.heap.size top.length c0 A0 top (HRW.out W hW).1.top (Nat.le_refl _) HSM.out.1.1)
  have HCN := Lib.hid (show ∀ W, Below W0.heap.size W0 W → Calls Tryd.prog 62 #[.slice A5 times.length c5] W (NewSN W times) from fun W hW => cloneN W W.heap.size times.length c5 A5 times (HRW.out W hW).1.times (Nat.le_refl _) HSM.out.2.2.2)
  have HSS := Lib.hid (show ∀ W, Below W0.heap.size W0 W → (fun W : World => W.cell? ⟨w.heap.size, 0, none⟩ = some (.slice A0 top.length c0) ∧ W.cell? ⟨w.heap.size, 3, none⟩ = some (.int .i64 keep) ∧ W.cell? ⟨w.heap.size, 4, none⟩ = some (.int .i64 time) ∧ W.cell? ⟨w.heap.size, 5, none⟩ = some (.slice A5 times.length c5)) W from fun W hW => ⟨(HBX.out W hW).1, (HBX.out W hW).2.2.2.1, (HBX.out W hW).2.2.2.2.1, (HBX.out W hW).2.2.2.2.2⟩)
  have HR0 := Lib.hid (Below.refl W0.heap.size W0)
  go_enter Tryd.func41, Tryd.ntmps41
  go_upto_region 3 with fail
  rw [← HW0.out]
  go_cut [4] from 17 to 28 (fun s4 wx => ∃ gt A8 k8 A9 k9, s4 = .pointer (some ⟨gt, 0, none⟩) ∧ Hid (Made0 W0 wx gt A8 A9 k8 k9 top keep time times))
  case first =>
    refine wp_region_held_drew (S := (fun W : World => W.cell? ⟨w.heap.size, 0, none⟩ = some (.slice A0 top.length c0) ∧ W.cell? ⟨w.heap.size, 3, none⟩ = some (.int .i64 keep) ∧ W.cell? ⟨w.heap.size, 4, none⟩ = some (.int .i64 time) ∧ W.cell? ⟨w.heap.size, 5, none⟩ = some (.slice A5 times.length c5))) (by kernel_rfl) (HSS.out _ (by exact bel2 HR0.out (by rfl) (by rfl) (by rfl) (by rfl))) (fun hHeld => ?_)
    refine wpAnyH_take (i := 0) (oi := { dst := Option.some 17, op := Go.Op.fieldAddr 27 (Go.Operand.tmp 1) 0, type := 0, pos := "l12_store.go:156", after := #[], guard := Option.none }) (v := ?v5) rfl (by kernel_rfl) (by kernel_rfl) (by kernel_rfl) (fun _ _ _ h => h) (Or.inl ⟨by rfl, ?hy5⟩) (by assumption) ?rest5
    case hy5 =>
      intro w9 hSw
      clear hSw
      go_simp
      first | done | with_reducible rfl
    (try simp only [Act.put]); (try simp only [List.setIfInBounds_toArray]); (try simp only [List.set_cons_succ]); (try simp only [List.set_cons_zero])
    refine wpAnyH_take (i := 1) (oi := { dst := Option.some 18, op := Go.Op.load 22 (Go.Operand.tmp 17), type := 22, pos := "l12_store.go:156", after := #[{ on := 0, ground := Go.Ground.data }], guard := Option.none }) (v := ?v6) rfl (by kernel_rfl) (by kernel_rfl) (by kernel_rfl) (fun _ _ _ h => h) (Or.inl ⟨by rfl, ?hy6⟩) (by assumption) ?rest6
    case hy6 =>
      intro w9 hSw
      obtain ⟨f0, f1, f2, f3⟩ := hSw
      go_simp
      first | done | with_reducible rfl
    (try simp only [Act.put]); (try simp only [List.setIfInBounds_toArray]); (try simp only [List.set_cons_succ]); (try simp only [List.set_cons_zero])
    refine wpAnyH_take (i := 3) (oi := { dst := Option.some 20, op := Go.Op.fieldAddr 27 (Go.Operand.tmp 1) 3, type := 0, pos := "l12_store.go:156", after := #[], guard := Option.none }) (v := ?v7) rfl (by kernel_rfl) (by kernel_rfl) (by kernel_rfl) (fun _ _ _ h => h) (Or.inl ⟨by rfl, ?hy7⟩) (by assumption) ?rest7
    case hy7 =>
      intro w9 hSw
      clear hSw
      go_simp
      first | done | with_reducible rfl
    (try simp only [Act.put]); (try simp only [List.setIfInBounds_toArray]); (try simp only [List.set_cons_succ]); (try simp only [List.set_cons_zero])
    refine wpAnyH_take (i := 4) (oi := { dst := Option.some 21, op := Go.Op.load 3 (Go.Operand.tmp 20), type := 3, pos := "l12_store.go:156", after := #[{ on := 3, ground := Go.Ground.data }], guard := Option.none }) (v := ?v8) rfl (by kernel_rfl) (by kernel_rfl) (by kernel_rfl) (fun _ _ _ h => h) (Or.inl ⟨by rfl, ?hy8⟩) (by assumption) ?rest8
    case hy8 =>
      intro w9 hSw
      obtain ⟨f0, f1, f2, f3⟩ := hSw
      go_simp
      first | done | with_reducible rfl
    (try simp only [Act.put]); (try simp only [List.setIfInBounds_toArray]); (try simp only [List.set_cons_succ]); (try simp only [List.set_cons_zero])
    refine wpAnyH_take (i := 5) (oi := { dst := Option.some 22, op := Go.Op.fieldAddr 27 (Go.Operand.tmp 1) 4, type := 0, pos := "l12_store.go:156", after := #[], guard := Option.none }) (v := ?v9) rfl (by kernel_rfl) (by kernel_rfl) (by kernel_rfl) (fun _ _ _ h => h) (Or.inl ⟨by rfl, ?hy9⟩) (by assumption) ?rest9
    case hy9 =>
      intro w9 hSw
      clear hSw
      go_simp
      first | done | with_reducible rfl
    (try simp only [Act.put]); (try simp only [List.setIfInBounds_toArray]); (try simp only [List.set_cons_succ]); (try simp only [List.set_cons_zero])
    refine wpAnyH_take (i := 6) (oi := { dst := Option.some 23, op := Go.Op.load 3 (Go.Operand.tmp 22), type := 3, pos := "l12_store.go:156", after := #[{ on := 5, ground := Go.Ground.data }], guard := Option.none }) (v := ?v10) rfl (by kernel_rfl) (by kernel_rfl) (by kernel_rfl) (fun _ _ _ h => h) (Or.inl ⟨by rfl, ?hy10⟩) (by assumption) ?rest10
    case hy10 =>
      intro w9 hSw
      obtain ⟨f0, f1, f2, f3⟩ := hSw
      go_simp
      first | done | with_reducible rfl
    (try simp only [Act.put]); (try simp only [List.setIfInBounds_toArray]); (try simp only [List.set_cons_succ]); (try simp only [List.set_cons_zero])
    refine wpAnyH_take (i := 7) (oi := { dst := Option.some 24, op := Go.Op.fieldAddr 27 (Go.Operand.tmp 1) 5, type := 0, pos := "l12_store.go:156", after := #[], guard := Option.none }) (v := ?v11) rfl (by kernel_rfl) (by kernel_rfl) (by kernel_rfl) (fun _ _ _ h => h) (Or.inl ⟨by rfl, ?hy11⟩) (by assumption) ?rest11
    case hy11 =>
      intro w9 hSw
      clear hSw
      go_simp
      first | done | with_reducible rfl
    (try simp only [Act.put]); (try simp only [List.setIfInBounds_toArray]); (try simp only [List.set_cons_succ]); (try simp only [List.set_cons_zero])
    refine wpAnyH_take (i := 8) (oi := { dst := Option.some 25, op := Go.Op.load 25 (Go.Operand.tmp 24), type := 25, pos := "l12_store.go:156", after := #[{ on := 7, ground := Go.Ground.data }], guard := Option.none }) (v := ?v12) rfl (by kernel_rfl) (by kernel_rfl) (by kernel_rfl) (fun _ _ _ h => h) (Or.inl ⟨by rfl, ?hy12⟩) (by assumption) ?rest12
    case hy12 =>
      intro w9 hSw
      obtain ⟨f0, f1, f2, f3⟩ := hSw
      go_simp
      first | done | with_reducible rfl
    (try simp only [Act.put]); (try simp only [List.setIfInBounds_toArray]); (try simp only [List.set_cons_succ]); (try simp only [List.set_cons_zero])
    refine wpAnyH_ready (rs := [2]) (by kernel_rfl) (by simp) ?_
    refine AllReadyH.cons (o := { dst := Option.some 19, op := Go.Op.call { callee := Go.Callee.value (Go.Operand.func 61), args := #[Go.Operand.tmp 18], argTypes := #[22] }, type := 22, pos := "l12_store.go:156", after := #[{ on := 1, ground := Go.Ground.data }], guard := Option.none }) rfl (fun K hK => ?_) AllReadyH.nil
    go_simp
    go_at_call 61
    refine Calls.mono (HCE.out _ (by exact bel2 HR0.out (by rfl) (by rfl) (by rfl) (by rfl))) ?_
    rintro e w8 ⟨v8, rfl, ho8, hb8⟩
    obtain ⟨A8, k8, hv8, -, -, -⟩ := ownE_parts ho8
    subst hv8
    have HB8 := Lib.hid (Below.trans (show Below W0.heap.size W0 _ by exact bel2 HR0.out (by rfl) (by rfl) (by rfl) (by rfl)) (hb8.mono (Nat.le_refl _)))
    have HO8 := Lib.hid (show OwnE w8 W0.heap.size _ top from ho8)
    clear ho8 hb8
    (try go_wp2_with fail)
    refine hK.out _ _ (HSS.out _ HB8.out) (fun hHeld => ?_)
    clear hK K
    (try simp only [Act.put]); (try simp only [List.setIfInBounds_toArray]); (try simp only [List.set_cons_succ]); (try simp only [List.set_cons_zero])
    refine wpAnyH_ready (rs := [9]) (by kernel_rfl) (by simp) ?_
    refine AllReadyH.cons (o := { dst := Option.some 26, op := Go.Op.call { callee := Go.Callee.value (Go.Operand.func 62), args := #[Go.Operand.tmp 25], argTypes := #[25] }, type := 25, pos := "l12_store.go:156", after := #[{ on := 8, ground := Go.Ground.data }, { on := 2, ground := Go.Ground.chain }], guard := Option.none }) rfl (fun K hK => ?_) AllReadyH.nil
    go_simp
    go_at_call 62
    refine Calls.mono (HCN.out _ HB8.out) ?_
    rintro e w9 ⟨v9, rfl, ho9, hb9⟩
    obtain ⟨A9, k9, hv9⟩ := ownN_slice ho9
    subst hv9
    have HB9 := Lib.hid (HB8.out.trans (hb9.mono HB8.out.size))
    have HOT := Lib.hid (rowBelow HO8.out hb9)
    have HON := Lib.hid (rowBase (base' := W0.heap.size) ho9 HB8.out.size)
    clear ho9 hb9
    (try go_wp2_with fail)
    refine hK.out _ _ (HSS.out _ HB9.out) (fun hHeld => ?_)
    clear hK K
    (try simp only [Act.put]); (try simp only [List.setIfInBounds_toArray]); (try simp only [List.set_cons_succ]); (try simp only [List.set_cons_zero])
    refine wpAnyH_take (i := 10) (oi := { dst := Option.some 27, op := Go.Op.build 51 #[(0, Go.Operand.tmp 19), (2, Go.Operand.tmp 21), (3, Go.Operand.tmp 23), (4, Go.Operand.tmp 26)], type := 51, pos := "l12_store.go:156", after := #[{ on := 2, ground := Go.Ground.data }, { on := 4, ground := Go.Ground.data }, { on := 6, ground := Go.Ground.data }, { on := 9, ground := Go.Ground.data }], guard := Option.none }) (v := ?v1) rfl (by kernel_rfl) (by kernel_rfl) (by kernel_rfl) (fun _ _ _ h => h) (Or.inl ⟨by rfl, ?hy1⟩) (by assumption) ?rest1
    case hy1 =>
      intro w9 hSw
      clear hSw
      go_simp
      first | done | with_reducible rfl
    (try simp only [Act.put]); (try simp only [List.setIfInBounds_toArray]); (try simp only [List.set_cons_succ]); (try simp only [List.set_cons_zero])
    have HBB := Lib.hid (HB9.out.alloc HB9.out.size (.cells (treeC (.slice A8 top.length k8) (.slice none 0 0) blankS (.slice none 0 0) (.slice none 0 0) blankS (.slice none 0 0) (.slice none 0 0) blankS (.slice none 0 0) keep time (.slice A9 times.length k9)) 51))
    refine wpAnyH_ready (rs := [11]) (by kernel_rfl) (by simp) ?_
    refine AllReadyH.cons (o := { dst := Option.some 28, op := Go.Op.box 51 (Go.Operand.tmp 27), type := 46, pos := "l12_store.go:156", after := #[{ on := 10, ground := Go.Ground.data }], guard := Option.none }) rfl (fun K hK => ?_) AllReadyH.nil
    go_simp
    refine hK.out _ _ (HSS.out _ HBB.out) (fun hHeld => ?_)
    clear hK K
    (try simp only [Act.put]); (try simp only [List.setIfInBounds_toArray]); (try simp only [List.set_cons_succ]); (try simp only [List.set_cons_zero])
    refine wpAnyH_take (i := 12) (oi := { dst := Option.some 4, op := Go.Op.assign (Go.Operand.tmp 28), type := 46, pos := "l12_store.go:156", after := #[{ on := 11, ground := Go.Ground.data }, { on := 9, ground := Go.Ground.chain }, { on := 0, ground := Go.Ground.phase }, { on := 1, ground := Go.Ground.phase }, { on := 2, ground := Go.Ground.phase }, { on := 3, ground := Go.Ground.phase }, { on := 4, ground := Go.Ground.phase }, { on := 5, ground := Go.Ground.phase }, { on := 6, ground := Go.Ground.phase }, { on := 7, ground := Go.Ground.phase }, { on := 8, ground := Go.Ground.phase }, { on := 9, ground := Go.Ground.phase }, { on := 10, ground := Go.Ground.phase }, { on := 11, ground := Go.Ground.phase }], guard := Option.none }) (v := ?v2) rfl (by kernel_rfl) (by kernel_rfl) (by kernel_rfl) (fun _ _ _ h => h) (Or.inl ⟨by rfl, ?hy2⟩) (by assumption) ?rest2
    case hy2 =>
      intro w9 hSw
      clear hSw
      go_simp
      first | done | with_reducible rfl
    (try simp only [Act.put]); (try simp only [List.setIfInBounds_toArray]); (try simp only [List.set_cons_succ]); (try simp only [List.set_cons_zero])
    refine wpAnyH_done (by kernel_rfl) ?_ _
    go_wp2_with fail
    go_meet
    exact ⟨w9.heap.size, A8, k8, A9, k9, rfl, Lib.hid ⟨heap_alloc_new _ _, World.ownsRow.alloc HOT.out _, World.ownsRow.alloc HON.out _, HB9.out.size, HBB.out⟩⟩
  case rest =>
    obtain ⟨gt, A8, k8, A9, k9, rfl, hq⟩ := hcut
    have HK0 := Lib.hid (show TreeK W0 wc gt _ A8 A9 k8 k9 top levels keep time times 0 from ⟨hq.out.row, rfl, rfl, rfl, rfl, rfl, hq.out.top, hq.out.times, fun j _ h => absurd h (Nat.not_lt_zero _), hq.out.new, hq.out.bel⟩)
    obtain ⟨qq0, qq1, qq2, qq3, qq4, qq5⟩ := HBX.out wc hq.out.bel
    clear hq
    go_wp2_with fail
    go_loopw [32] (fun i wr => ∃ (k : Nat) (cur : Array Value), k ≤ 3 ∧ i = .int .i64 (k : Nat) ∧ Hid (TreeK W0 wr gt cur A8 A9 k8 k9 top levels keep time times k) ∧ Hid (∀ j (h : j < levels.length) (h2 : j < sieves.length), j < k → lvlB keep j levels[j] sieves[j] = true)) (fun i _ => 3 - (intOf i).toNat)
    case atStart => exact ⟨0, _, by omega, rfl, HK0, Lib.hid (fun j _ _ h => absurd h (Nat.not_lt_zero _))⟩
    case round =>
      obtain ⟨k, cur, hk, rfl, HK, HLV⟩ := hrel
      clear HK0 qq0 qq1 qq2 qq3 qq4 qq5
      have hg1 := G1.out
      have hg2 := G2.out
      by_cases hlt : k < 3
      · have hkl : k < levels.length := by omega
        have hks : k < sieves.length := by omega
        have z0 : (0 : Int) ≤ (k : Int) := by omega
        have z1 : (k : Int) < (levels.length : Int) := by omega
        have z2 : (k : Int) < (sieves.length : Int) := by omega
        have z3 : (k : Int) < 3 := by omega
        have HKB := Lib.hid HK.out.bel
        have HKD := Lib.hid (show TreeK W0 wr.drew gt cur A8 A9 k8 k9 top levels keep time times k from HK.out.below (bel2 (Below.refl _ _) (by rfl) (by rfl) (by rfl) (by rfl)))
        obtain ⟨lb, lo, A', c', hA, hlb, dl, he, e1, e2⟩ := (HRW.out W0 (Below.refl _ _)).1.levels.cell k hkl
        obtain ⟨sb, so, A3, c3, hA2, hsb, s0, s1, s2, s3, s4, hst, e3, e4⟩ := (HRW.out W0 (Below.refl _ _)).1.sieves.cell k hks
        have hsr := HSM.out.2.1.2 _ (List.getElem_mem hkl)
        have hsx := HSM.out.2.2.1.2 _ (List.getElem_mem hks)
        obtain ⟨r, h0⟩ : ∃ r, r = levels[k] := ⟨_, rfl⟩
        obtain ⟨x, hx⟩ : ∃ x, x = sieves[k] := ⟨_, rfl⟩
        have hLK : levels[k]? = some r := by rw [List.getElem?_eq_getElem hkl, h0]
        rw [← h0] at dl he e1
        have hsr' : smallE r := by rw [h0]; exact hsr
        have hsx' : smallS x := by rw [hx]; exact hsx
        rw [← hx] at s0 s1 s2 s3 s4 hst e3
        have HX := Lib.hid hx
        clear hsr hsx hx
        obtain ⟨X0, X1, X2, XR, XK⟩ := x
        have HLK := Lib.hid hLK
        have H0 := Lib.hid h0
        have dw := (HKB.out.cell (p := ⟨lb, lo + k, none⟩) hlb).trans dl
        have hwl := (HBX.out wr HKB.out).2.1
        have HS7 := Lib.hid (show ∀ W, Below W0.heap.size W0 W → (fun W : World => W.cell? ⟨w.heap.size, 2, none⟩ = some (.slice A2 sieves.length c2) ∧ W.cell? ⟨sb, so + k * 5, none⟩ = some (.string X0) ∧ W.cell? ⟨sb, so + k * 5 + 1, none⟩ = some (.string X1) ∧ W.cell? ⟨sb, so + k * 5 + 2, none⟩ = some (.string X2) ∧ W.cell? ⟨sb, so + k * 5 + 3, none⟩ = some (.slice A3 XR.length c3) ∧ W.cell? ⟨sb, so + k * 5 + 4, none⟩ = some (.int .i64 XK)) W from fun W hW => ⟨(HBX.out W hW).2.2.1, (hW.cell (p := ⟨sb, so + k * 5, none⟩) hsb).trans s0, (hW.cell (p := ⟨sb, so + k * 5 + 1, none⟩) hsb).trans s1, (hW.cell (p := ⟨sb, so + k * 5 + 2, none⟩) hsb).trans s2, (hW.cell (p := ⟨sb, so + k * 5 + 3, none⟩) hsb).trans s3, (hW.cell (p := ⟨sb, so + k * 5 + 4, none⟩) hsb).trans s4⟩)
        have hfr : ∀ e ∈ r, e.key.size ≤ maxLen := fun e he => by have := hsr'.2 e he; unfold maxLen; omega
        have HENT := Lib.hid (show ∀ W, Below W0.heap.size W0 W → Ents W W.heap.size A' r.length r from fun W hW => (he.below hW (Nat.le_refl _)).more hW.size)
        obtain ⟨b, hb⟩ : ∃ b, b = runB r := ⟨_, rfl⟩
        have HRK := Lib.hid (show ∀ W, Below W0.heap.size W0 W → Calls Tryd.prog 63 #[.slice A' r.length c'] W fun e w' => e = .returned (.bool b) ∧ Below W.heap.size W w' from fun W hW => by
          rw [hb]; exact runI W W.heap.size r.length c' A' r (HENT.out W hW) (Nat.le_refl _) (Nat.le_trans e1 e2) hfr)
        have HCL := Lib.hid (show ∀ W, Below W0.heap.size W0 W → Calls Tryd.prog 61 #[.slice A' r.length c'] W (NewSE W r) from fun W hW => cloneE W W.heap.size r.length c' A' r (HENT.out W hW) (Nat.le_refl _) hsr'.1)
        have HBQ := Lib.hid hb
        have HSX := Lib.hid hsx'
        have HSRR := Lib.hid hsr'
        have HFRR := Lib.hid hfr
        have HSTT := Lib.hid (show ∀ W, Below W0.heap.size W0 W → Strs W W.heap.size A3 XR.length XR from fun W hW => (hst.below hW (Nat.le_refl _)).more hW.size)
        clear hg1 hg2 hb hsx' hsr' hfr he hst s0 s1 s2 s3 s4 dl h0 hLK e1 e3
        subst hA hA2
        cases b with
        | false =>
          go_upto_region 7 with fail
          refine wp_region_held_drew (S := (fun W : World => W.cell? ⟨w.heap.size, 2, none⟩ = some (.slice (some ⟨sb, so, none⟩) sieves.length c2) ∧ W.cell? ⟨sb, so + k * 5, none⟩ = some (.string X0) ∧ W.cell? ⟨sb, so + k * 5 + 1, none⟩ = some (.string X1) ∧ W.cell? ⟨sb, so + k * 5 + 2, none⟩ = some (.string X2) ∧ W.cell? ⟨sb, so + k * 5 + 3, none⟩ = some (.slice A3 XR.length c3) ∧ W.cell? ⟨sb, so + k * 5 + 4, none⟩ = some (.int .i64 XK))) (by kernel_rfl) (HS7.out _ (by exact bel2 HKB.out (by rfl) (by rfl) (by rfl) (by rfl))) (fun hHeld => ?_)
          refine wpAnyH_take (i := 0) (oi := { dst := Option.some 37, op := Go.Op.move (Go.Operand.tmp 6), type := 22, pos := "l12_store.go:158", after := #[], guard := Option.none }) (v := ?v13) rfl (by kernel_rfl) (by kernel_rfl) (by kernel_rfl) (fun _ _ _ h => h) (Or.inl ⟨by rfl, ?hy13⟩) (by assumption) ?rest13
          case hy13 =>
            intro w9 hSw
            clear hSw
            go_simp
            first | done | with_reducible rfl
          (try simp only [Act.put]); (try simp only [List.setIfInBounds_toArray]); (try simp only [List.set_cons_succ]); (try simp only [List.set_cons_zero])
          refine wpAnyH_ready (rs := [1]) (by kernel_rfl) (by simp) ?_
          refine AllReadyH.cons (o := { dst := Option.some 38, op := Go.Op.call { callee := Go.Callee.value (Go.Operand.func 63), args := #[Go.Operand.tmp 37], argTypes := #[22] }, type := 4, pos := "l12_store.go:158", after := #[{ on := 0, ground := Go.Ground.data }], guard := Option.none }) rfl (fun K hK => ?_) AllReadyH.nil
          go_simp
          (go_at_call 63; refine Calls.mono (HRK.out _ (by exact bel2 HKB.out (by rfl) (by rfl) (by rfl) (by rfl))) ?_; rintro e w9 ⟨rfl, hb9⟩; have HB9 := Lib.hid (Below.trans (show Below W0.heap.size W0 _ by exact bel2 HKB.out (by rfl) (by rfl) (by rfl) (by rfl)) (hb9.mono (show W0.heap.size ≤ _ by exact HKB.out.size))); have HK9 := Lib.hid ((HKD.out).below hb9); clear hb9)
          (try go_wp2_with fail)
          refine hK.out _ _ (HS7.out _ HB9.out) (fun hHeld => ?_)
          clear hK K
          (try simp only [Act.put]); (try simp only [List.setIfInBounds_toArray]); (try simp only [List.set_cons_succ]); (try simp only [List.set_cons_zero])
          refine wpAnyH_take (i := 2) (oi := { dst := Option.some 39, op := Go.Op.unOp Go.UnOp.not 4 (Go.Operand.tmp 38), type := 4, pos := "l12_store.go:158", after := #[{ on := 1, ground := Go.Ground.data }], guard := Option.none }) (v := ?v14) rfl (by kernel_rfl) (by kernel_rfl) (by kernel_rfl) (fun _ _ _ h => h) (Or.inl ⟨by rfl, ?hy14⟩) (by assumption) ?rest14
          case hy14 =>
            intro w9 hSw
            clear hSw
            go_simp
            first | done | with_reducible rfl
          (try simp only [Act.put]); (try simp only [List.setIfInBounds_toArray]); (try simp only [List.set_cons_succ]); (try simp only [List.set_cons_zero])
          refine wpAnyH_take (i := 3) (oi := { dst := Option.some 40, op := Go.Op.move (Go.Operand.tmp 39), type := 4, pos := "l12_store.go:158", after := #[{ on := 2, ground := Go.Ground.data }, { on := 1, ground := Go.Ground.chain }], guard := Option.none }) (v := ?v15) rfl (by kernel_rfl) (by kernel_rfl) (by kernel_rfl) (fun _ _ _ h => h) (Or.inl ⟨by rfl, ?hy15⟩) (by assumption) ?rest15
          case hy15 =>
            intro w9 hSw
            clear hSw
            go_simp
            first | done | with_reducible rfl
          (try simp only [Act.put]); (try simp only [List.setIfInBounds_toArray]); (try simp only [List.set_cons_succ]); (try simp only [List.set_cons_zero])
          refine wpAnyH_take (i := 4) (oi := { dst := Option.some 41, op := Go.Op.move (Go.Operand.tmp 4), type := 46, pos := "l12_store.go:158", after := #[{ on := 3, ground := Go.Ground.guard }], guard := Option.some (3, Bool.false) }) (v := undef) rfl (by kernel_rfl) (by kernel_rfl) (by kernel_rfl) (fun _ _ _ h => h) (Or.inr ⟨by rfl, rfl⟩) (by assumption) ?_
          (try simp only [Act.put]); (try simp only [List.setIfInBounds_toArray]); (try simp only [List.set_cons_succ]); (try simp only [List.set_cons_zero])
          refine wpAnyH_take (i := 5) (oi := { dst := Option.some 42, op := Go.Op.move (Go.Operand.tmp 5), type := 3, pos := "l12_store.go:158", after := #[{ on := 3, ground := Go.Ground.guard }], guard := Option.some (3, Bool.false) }) (v := undef) rfl (by kernel_rfl) (by kernel_rfl) (by kernel_rfl) (fun _ _ _ h => h) (Or.inr ⟨by rfl, rfl⟩) (by assumption) ?_
          (try simp only [Act.put]); (try simp only [List.setIfInBounds_toArray]); (try simp only [List.set_cons_succ]); (try simp only [List.set_cons_zero])
          refine wpAnyH_take (i := 6) (oi := { dst := Option.some 43, op := Go.Op.move (Go.Operand.tmp 6), type := 22, pos := "l12_store.go:158", after := #[{ on := 3, ground := Go.Ground.guard }], guard := Option.some (3, Bool.false) }) (v := undef) rfl (by kernel_rfl) (by kernel_rfl) (by kernel_rfl) (fun _ _ _ h => h) (Or.inr ⟨by rfl, rfl⟩) (by assumption) ?_
          (try simp only [Act.put]); (try simp only [List.setIfInBounds_toArray]); (try simp only [List.set_cons_succ]); (try simp only [List.set_cons_zero])
          refine wpAnyH_take (i := 7) (oi := { dst := Option.some 44, op := Go.Op.call { callee := Go.Callee.value (Go.Operand.func 61), args := #[Go.Operand.tmp 43], argTypes := #[22] }, type := 22, pos := "l12_store.go:158", after := #[{ on := 6, ground := Go.Ground.data }, { on := 3, ground := Go.Ground.chain }, { on := 3, ground := Go.Ground.guard }], guard := Option.some (3, Bool.false) }) (v := undef) rfl (by kernel_rfl) (by kernel_rfl) (by kernel_rfl) (fun _ _ _ h => h) (Or.inr ⟨by rfl, rfl⟩) (by assumption) ?_
          (try simp only [Act.put]); (try simp only [List.setIfInBounds_toArray]); (try simp only [List.set_cons_succ]); (try simp only [List.set_cons_zero])
          refine wpAnyH_take (i := 8) (oi := { dst := Option.some 45, op := Go.Op.call { callee := Go.Callee.value (Go.Operand.func 15), args := #[Go.Operand.tmp 41, Go.Operand.tmp 42, Go.Operand.tmp 44], argTypes := #[46, 3, 22] }, type := 53, pos := "l12_store.go:158", after := #[{ on := 4, ground := Go.Ground.data }, { on := 5, ground := Go.Ground.data }, { on := 7, ground := Go.Ground.data }, { on := 7, ground := Go.Ground.chain }, { on := 3, ground := Go.Ground.guard }], guard := Option.some (3, Bool.false) }) (v := undef) rfl (by kernel_rfl) (by kernel_rfl) (by kernel_rfl) (fun _ _ _ h => h) (Or.inr ⟨by rfl, rfl⟩) (by assumption) ?_
          (try simp only [Act.put]); (try simp only [List.setIfInBounds_toArray]); (try simp only [List.set_cons_succ]); (try simp only [List.set_cons_zero])
          refine wpAnyH_take (i := 9) (oi := { dst := Option.some 46, op := Go.Op.binOp Go.BinOp.neq 53 (Go.Operand.tmp 45) (Go.Operand.const Go.Value.nilIface) 53, type := 4, pos := "l12_store.go:158", after := #[{ on := 8, ground := Go.Ground.data }, { on := 3, ground := Go.Ground.guard }], guard := Option.some (3, Bool.false) }) (v := undef) rfl (by kernel_rfl) (by kernel_rfl) (by kernel_rfl) (fun _ _ _ h => h) (Or.inr ⟨by rfl, rfl⟩) (by assumption) ?_
          (try simp only [Act.put]); (try simp only [List.setIfInBounds_toArray]); (try simp only [List.set_cons_succ]); (try simp only [List.set_cons_zero])
          refine wpAnyH_take (i := 10) (oi := { dst := Option.some 47, op := Go.Op.pick (Go.Operand.tmp 40) (Go.Operand.const (Go.Value.bool Bool.true)) (Go.Operand.tmp 46), type := 4, pos := "l12_store.go:158", after := #[{ on := 3, ground := Go.Ground.data }, { on := 9, ground := Go.Ground.data }], guard := Option.none }) (v := ?v16) rfl (by kernel_rfl) (by kernel_rfl) (by kernel_rfl) (fun _ _ _ h => h) (Or.inl ⟨by rfl, ?hy16⟩) (by assumption) ?rest16
          case hy16 =>
            intro w9 hSw
            clear hSw
            go_simp
            first | done | with_reducible rfl
          (try simp only [Act.put]); (try simp only [List.setIfInBounds_toArray]); (try simp only [List.set_cons_succ]); (try simp only [List.set_cons_zero])
          refine wpAnyH_take (i := 11) (oi := { dst := Option.some 48, op := Go.Op.move (Go.Operand.tmp 47), type := 4, pos := "l12_store.go:158", after := #[{ on := 10, ground := Go.Ground.data }, { on := 8, ground := Go.Ground.chain }], guard := Option.none }) (v := ?v17) rfl (by kernel_rfl) (by kernel_rfl) (by kernel_rfl) (fun _ _ _ h => h) (Or.inl ⟨by rfl, ?hy17⟩) (by assumption) ?rest17
          case hy17 =>
            intro w9 hSw
            clear hSw
            go_simp
            first | done | with_reducible rfl
          (try simp only [Act.put]); (try simp only [List.setIfInBounds_toArray]); (try simp only [List.set_cons_succ]); (try simp only [List.set_cons_zero])
          refine wpAnyH_take (i := 12) (oi := { dst := Option.some 49, op := Go.Op.fieldAddr 27 (Go.Operand.tmp 1) 2, type := 0, pos := "l12_store.go:158", after := #[{ on := 11, ground := Go.Ground.guard }], guard := Option.some (11, Bool.false) }) (v := undef) rfl (by kernel_rfl) (by kernel_rfl) (by kernel_rfl) (fun _ _ _ h => h) (Or.inr ⟨by rfl, rfl⟩) (by assumption) ?_
          (try simp only [Act.put]); (try simp only [List.setIfInBounds_toArray]); (try simp only [List.set_cons_succ]); (try simp only [List.set_cons_zero])
          refine wpAnyH_take (i := 13) (oi := { dst := Option.some 50, op := Go.Op.load 24 (Go.Operand.tmp 49), type := 24, pos := "l12_store.go:158", after := #[{ on := 12, ground := Go.Ground.data }, { on := 11, ground := Go.Ground.guard }], guard := Option.some (11, Bool.false) }) (v := undef) rfl (by kernel_rfl) (by kernel_rfl) (by kernel_rfl) (fun _ _ _ h => h) (Or.inr ⟨by rfl, rfl⟩) (by assumption) ?_
          (try simp only [Act.put]); (try simp only [List.setIfInBounds_toArray]); (try simp only [List.set_cons_succ]); (try simp only [List.set_cons_zero])
          refine wpAnyH_take (i := 14) (oi := { dst := Option.some 51, op := Go.Op.move (Go.Operand.tmp 5), type := 3, pos := "l12_store.go:158", after := #[{ on := 11, ground := Go.Ground.guard }], guard := Option.some (11, Bool.false) }) (v := undef) rfl (by kernel_rfl) (by kernel_rfl) (by kernel_rfl) (fun _ _ _ h => h) (Or.inr ⟨by rfl, rfl⟩) (by assumption) ?_
          (try simp only [Act.put]); (try simp only [List.setIfInBounds_toArray]); (try simp only [List.set_cons_succ]); (try simp only [List.set_cons_zero])
          refine wpAnyH_take (i := 15) (oi := { dst := Option.some 52, op := Go.Op.indexAddr 24 (Go.Operand.tmp 50) (Go.Operand.tmp 51), type := 0, pos := "l12_store.go:158", after := #[{ on := 13, ground := Go.Ground.data }, { on := 14, ground := Go.Ground.data }, { on := 11, ground := Go.Ground.guard }], guard := Option.some (11, Bool.false) }) (v := undef) rfl (by kernel_rfl) (by kernel_rfl) (by kernel_rfl) (fun _ _ _ h => h) (Or.inr ⟨by rfl, rfl⟩) (by assumption) ?_
          (try simp only [Act.put]); (try simp only [List.setIfInBounds_toArray]); (try simp only [List.set_cons_succ]); (try simp only [List.set_cons_zero])
          refine wpAnyH_take (i := 16) (oi := { dst := Option.some 53, op := Go.Op.load 45 (Go.Operand.tmp 52), type := 45, pos := "l12_store.go:158", after := #[{ on := 15, ground := Go.Ground.data }, { on := 11, ground := Go.Ground.guard }], guard := Option.some (11, Bool.false) }) (v := undef) rfl (by kernel_rfl) (by kernel_rfl) (by kernel_rfl) (fun _ _ _ h => h) (Or.inr ⟨by rfl, rfl⟩) (by assumption) ?_
          (try simp only [Act.put]); (try simp only [List.setIfInBounds_toArray]); (try simp only [List.set_cons_succ]); (try simp only [List.set_cons_zero])
          refine wpAnyH_take (i := 17) (oi := { dst := Option.some 54, op := Go.Op.move (Go.Operand.tmp 4), type := 46, pos := "l12_store.go:158", after := #[{ on := 11, ground := Go.Ground.guard }], guard := Option.some (11, Bool.false) }) (v := undef) rfl (by kernel_rfl) (by kernel_rfl) (by kernel_rfl) (fun _ _ _ h => h) (Or.inr ⟨by rfl, rfl⟩) (by assumption) ?_
          (try simp only [Act.put]); (try simp only [List.setIfInBounds_toArray]); (try simp only [List.set_cons_succ]); (try simp only [List.set_cons_zero])
          refine wpAnyH_take (i := 18) (oi := { dst := Option.some 55, op := Go.Op.move (Go.Operand.tmp 5), type := 3, pos := "l12_store.go:158", after := #[{ on := 11, ground := Go.Ground.guard }], guard := Option.some (11, Bool.false) }) (v := undef) rfl (by kernel_rfl) (by kernel_rfl) (by kernel_rfl) (fun _ _ _ h => h) (Or.inr ⟨by rfl, rfl⟩) (by assumption) ?_
          (try simp only [Act.put]); (try simp only [List.setIfInBounds_toArray]); (try simp only [List.set_cons_succ]); (try simp only [List.set_cons_zero])
          refine wpAnyH_take (i := 19) (oi := { dst := Option.some 56, op := Go.Op.nilCheck (Go.Operand.tmp 54), type := 0, pos := "l12_store.go:158", after := #[{ on := 17, ground := Go.Ground.data }, { on := 11, ground := Go.Ground.guard }], guard := Option.some (11, Bool.false) }) (v := undef) rfl (by kernel_rfl) (by kernel_rfl) (by kernel_rfl) (fun _ _ _ h => h) (Or.inr ⟨by rfl, rfl⟩) (by assumption) ?_
          (try simp only [Act.put]); (try simp only [List.setIfInBounds_toArray]); (try simp only [List.set_cons_succ]); (try simp only [List.set_cons_zero])
          refine wpAnyH_take (i := 20) (oi := { dst := Option.some 57, op := Go.Op.fieldAddr 51 (Go.Operand.tmp 56) 1, type := 0, pos := "l12_store.go:158", after := #[{ on := 19, ground := Go.Ground.data }, { on := 11, ground := Go.Ground.guard }], guard := Option.some (11, Bool.false) }) (v := undef) rfl (by kernel_rfl) (by kernel_rfl) (by kernel_rfl) (fun _ _ _ h => h) (Or.inr ⟨by rfl, rfl⟩) (by assumption) ?_
          (try simp only [Act.put]); (try simp only [List.setIfInBounds_toArray]); (try simp only [List.set_cons_succ]); (try simp only [List.set_cons_zero])
          refine wpAnyH_take (i := 21) (oi := { dst := Option.some 58, op := Go.Op.indexAddr 49 (Go.Operand.tmp 57) (Go.Operand.tmp 55), type := 0, pos := "l12_store.go:158", after := #[{ on := 20, ground := Go.Ground.data }, { on := 18, ground := Go.Ground.data }, { on := 11, ground := Go.Ground.guard }], guard := Option.some (11, Bool.false) }) (v := undef) rfl (by kernel_rfl) (by kernel_rfl) (by kernel_rfl) (fun _ _ _ h => h) (Or.inr ⟨by rfl, rfl⟩) (by assumption) ?_
          (try simp only [Act.put]); (try simp only [List.setIfInBounds_toArray]); (try simp only [List.set_cons_succ]); (try simp only [List.set_cons_zero])
          refine wpAnyH_take (i := 22) (oi := { dst := Option.some 59, op := Go.Op.fieldAddr 48 (Go.Operand.tmp 58) 1, type := 0, pos := "l12_store.go:158", after := #[{ on := 21, ground := Go.Ground.data }, { on := 11, ground := Go.Ground.guard }], guard := Option.some (11, Bool.false) }) (v := undef) rfl (by kernel_rfl) (by kernel_rfl) (by kernel_rfl) (fun _ _ _ h => h) (Or.inr ⟨by rfl, rfl⟩) (by assumption) ?_
          (try simp only [Act.put]); (try simp only [List.setIfInBounds_toArray]); (try simp only [List.set_cons_succ]); (try simp only [List.set_cons_zero])
          refine wpAnyH_take (i := 23) (oi := { dst := Option.some 60, op := Go.Op.load 45 (Go.Operand.tmp 59), type := 45, pos := "l12_store.go:158", after := #[{ on := 22, ground := Go.Ground.data }, { on := 11, ground := Go.Ground.guard }], guard := Option.some (11, Bool.false) }) (v := undef) rfl (by kernel_rfl) (by kernel_rfl) (by kernel_rfl) (fun _ _ _ h => h) (Or.inr ⟨by rfl, rfl⟩) (by assumption) ?_
          (try simp only [Act.put]); (try simp only [List.setIfInBounds_toArray]); (try simp only [List.set_cons_succ]); (try simp only [List.set_cons_zero])
          refine wpAnyH_take (i := 24) (oi := { dst := Option.some 61, op := Go.Op.call { callee := Go.Callee.value (Go.Operand.func 64), args := #[Go.Operand.tmp 53, Go.Operand.tmp 60], argTypes := #[45, 45] }, type := 4, pos := "l12_store.go:158", after := #[{ on := 16, ground := Go.Ground.data }, { on := 23, ground := Go.Ground.data }, { on := 11, ground := Go.Ground.chain }, { on := 11, ground := Go.Ground.guard }], guard := Option.some (11, Bool.false) }) (v := undef) rfl (by kernel_rfl) (by kernel_rfl) (by kernel_rfl) (fun _ _ _ h => h) (Or.inr ⟨by rfl, rfl⟩) (by assumption) ?_
          (try simp only [Act.put]); (try simp only [List.setIfInBounds_toArray]); (try simp only [List.set_cons_succ]); (try simp only [List.set_cons_zero])
          refine wpAnyH_take (i := 25) (oi := { dst := Option.some 62, op := Go.Op.unOp Go.UnOp.not 4 (Go.Operand.tmp 61), type := 4, pos := "l12_store.go:158", after := #[{ on := 24, ground := Go.Ground.data }, { on := 11, ground := Go.Ground.guard }], guard := Option.some (11, Bool.false) }) (v := undef) rfl (by kernel_rfl) (by kernel_rfl) (by kernel_rfl) (fun _ _ _ h => h) (Or.inr ⟨by rfl, rfl⟩) (by assumption) ?_
          (try simp only [Act.put]); (try simp only [List.setIfInBounds_toArray]); (try simp only [List.set_cons_succ]); (try simp only [List.set_cons_zero])
          refine wpAnyH_take (i := 26) (oi := { dst := Option.some 63, op := Go.Op.pick (Go.Operand.tmp 48) (Go.Operand.const (Go.Value.bool Bool.true)) (Go.Operand.tmp 62), type := 4, pos := "l12_store.go:158", after := #[{ on := 11, ground := Go.Ground.data }, { on := 25, ground := Go.Ground.data }], guard := Option.none }) (v := ?v18) rfl (by kernel_rfl) (by kernel_rfl) (by kernel_rfl) (fun _ _ _ h => h) (Or.inl ⟨by rfl, ?hy18⟩) (by assumption) ?rest18
          case hy18 =>
            intro w9 hSw
            clear hSw
            go_simp
            first | done | with_reducible rfl
          (try simp only [Act.put]); (try simp only [List.setIfInBounds_toArray]); (try simp only [List.set_cons_succ]); (try simp only [List.set_cons_zero])
          refine wpAnyH_done (by kernel_rfl) ?_ _
          go_wp2
          go_ret2
          exact ⟨_, false, rfl, ⟨fun h => (by cases h), fun h => absurd (h.lvl k hkl hks) (by show ¬ lvlB keep k levels[k] sieves[k] = true; rw [← H0.out, lvl_run HBQ.out.symm]; simp)⟩, HB.out.trans (HB9.out.mono HB.out.size)⟩
        | true =>
          have hrun := HBQ.out.symm
          obtain ⟨okv, hok⟩ : ∃ b, b = (svYes (keysO r) keep && decide (r.length ≤ 8 * (k + 1))) := ⟨_, rfl⟩
          obtain ⟨eqv, heq⟩ : ∃ b, b = eqB X0 X1 X2 (svL (keysL r) keep) (svM (keysL r) keep) (svF (keysL r) keep) XR (svR (keysL r) keep) XK (svK (keysL r) keep) := ⟨_, rfl⟩
          have HLP := Lib.hid (show lvlB keep k r ⟨X0, X1, X2, XR, XK⟩ = (okv && eqv) by rw [lvl_parts hrun, hok, heq])
          have HFI0 := Lib.hid (show ∀ W A7 c7, TreeK W0 W gt cur A8 A9 k8 k9 top levels keep time times k → OwnE W W0.heap.size (.slice A7 r.length c7) r → Calls Tryd.prog 15 #[.pointer (some ⟨gt, 0, none⟩), .int .i64 (k : Nat), .slice A7 r.length c7] W (FillA W gt k cur (.slice A7 r.length c7) okv (svL (keysL r) keep) (svM (keysL r) keep) (svF (keysL r) keep) (svR (keysL r) keep) (svK (keysL r) keep)) from fun W A7 c7 hK hO => by
            rw [hok, ← keysO_run hrun]
            obtain ⟨A'', c'', hv, -, -, he⟩ := ownE_parts hO
            injection hv with ea _ ec
            subst ea ec
            exact fillI W gt k c7 A7 r cur keep hK.row hK.size (hK.cells hK.a19) hlt (HE0.out.below hK.bel) he HSRR.out.1 HFRR.out)
          have HSE := Lib.hid (show ∀ W Bq dq, Below W0.heap.size W0 W → Strs W W.heap.size Bq (svR (keysL r) keep).length (svR (keysL r) keep) → Calls Tryd.prog 64 #[.agg #[.string X0, .string X1, .string X2, .slice A3 XR.length c3, .int .i64 XK], .agg #[.string (svL (keysL r) keep), .string (svM (keysL r) keep), .string (svF (keysL r) keep), .slice Bq (svR (keysL r) keep).length dq, .int .i64 (svK (keysL r) keep)]] W fun e w' => e = .returned (.bool eqv) ∧ Below W.heap.size W w' from fun W Bq dq hW hS => by
            rw [heq]
            exact sevI W XR.length c3 (svR (keysL r) keep).length dq _ Bq X0 X1 X2 _ _ _ XR _ XK _ (HSTT.out W hW) hS (by have := HSX.out.2.1; unfold maxLen; simp at this; omega) (by have := svR_len (keysL r) keep; unfold maxLen; omega))
          have HRUN := Lib.hid hrun
          clear hok heq hrun
          cases okv with
          | false =>
            have HFI := Lib.hid (show ∀ W A7 c7, TreeK W0 W gt cur A8 A9 k8 k9 top levels keep time times k → OwnE W W0.heap.size (.slice A7 r.length c7) r → Calls Tryd.prog 15 #[.pointer (some ⟨gt, 0, none⟩), .int .i64 (k : Nat), .slice A7 r.length c7] W fun e w' => (∃ te pe, e = .returned (.iface te pe)) ∧ Below W.heap.size W w' from fun W A7 c7 h1 h2 => (HFI0.out W A7 c7 h1 h2).mono fun e w' h => by
              rcases h with ⟨h, -⟩ | ⟨-, h⟩
              · cases h
              · exact h)
            go_upto_region 7 with fail
            refine wp_region_held_drew (S := (fun W : World => W.cell? ⟨w.heap.size, 2, none⟩ = some (.slice (some ⟨sb, so, none⟩) sieves.length c2) ∧ W.cell? ⟨sb, so + k * 5, none⟩ = some (.string X0) ∧ W.cell? ⟨sb, so + k * 5 + 1, none⟩ = some (.string X1) ∧ W.cell? ⟨sb, so + k * 5 + 2, none⟩ = some (.string X2) ∧ W.cell? ⟨sb, so + k * 5 + 3, none⟩ = some (.slice A3 XR.length c3) ∧ W.cell? ⟨sb, so + k * 5 + 4, none⟩ = some (.int .i64 XK))) (by kernel_rfl) (HS7.out _ (by exact bel2 HKB.out (by rfl) (by rfl) (by rfl) (by rfl))) (fun hHeld => ?_)
            refine wpAnyH_take (i := 0) (oi := { dst := Option.some 37, op := Go.Op.move (Go.Operand.tmp 6), type := 22, pos := "l12_store.go:158", after := #[], guard := Option.none }) (v := ?v19) rfl (by kernel_rfl) (by kernel_rfl) (by kernel_rfl) (fun _ _ _ h => h) (Or.inl ⟨by rfl, ?hy19⟩) (by assumption) ?rest19
            case hy19 =>
              intro w9 hSw
              clear hSw
              go_simp
              first | done | with_reducible rfl
            (try simp only [Act.put]); (try simp only [List.setIfInBounds_toArray]); (try simp only [List.set_cons_succ]); (try simp only [List.set_cons_zero])
            refine wpAnyH_ready (rs := [1]) (by kernel_rfl) (by simp) ?_
            refine AllReadyH.cons (o := { dst := Option.some 38, op := Go.Op.call { callee := Go.Callee.value (Go.Operand.func 63), args := #[Go.Operand.tmp 37], argTypes := #[22] }, type := 4, pos := "l12_store.go:158", after := #[{ on := 0, ground := Go.Ground.data }], guard := Option.none }) rfl (fun K hK => ?_) AllReadyH.nil
            go_simp
            (go_at_call 63; refine Calls.mono (HRK.out _ (by exact bel2 HKB.out (by rfl) (by rfl) (by rfl) (by rfl))) ?_; rintro e w9 ⟨rfl, hb9⟩; have HB9 := Lib.hid (Below.trans (show Below W0.heap.size W0 _ by exact bel2 HKB.out (by rfl) (by rfl) (by rfl) (by rfl)) (hb9.mono (show W0.heap.size ≤ _ by exact HKB.out.size))); have HK9 := Lib.hid ((HKD.out).below hb9); clear hb9)
            (try go_wp2_with fail)
            refine hK.out _ _ (HS7.out _ HB9.out) (fun hHeld => ?_)
            clear hK K
            (try simp only [Act.put]); (try simp only [List.setIfInBounds_toArray]); (try simp only [List.set_cons_succ]); (try simp only [List.set_cons_zero])
            refine wpAnyH_take (i := 2) (oi := { dst := Option.some 39, op := Go.Op.unOp Go.UnOp.not 4 (Go.Operand.tmp 38), type := 4, pos := "l12_store.go:158", after := #[{ on := 1, ground := Go.Ground.data }], guard := Option.none }) (v := ?v20) rfl (by kernel_rfl) (by kernel_rfl) (by kernel_rfl) (fun _ _ _ h => h) (Or.inl ⟨by rfl, ?hy20⟩) (by assumption) ?rest20
            case hy20 =>
              intro w9 hSw
              clear hSw
              go_simp
              first | done | with_reducible rfl
            (try simp only [Act.put]); (try simp only [List.setIfInBounds_toArray]); (try simp only [List.set_cons_succ]); (try simp only [List.set_cons_zero])
            refine wpAnyH_take (i := 3) (oi := { dst := Option.some 40, op := Go.Op.move (Go.Operand.tmp 39), type := 4, pos := "l12_store.go:158", after := #[{ on := 2, ground := Go.Ground.data }, { on := 1, ground := Go.Ground.chain }], guard := Option.none }) (v := ?v21) rfl (by kernel_rfl) (by kernel_rfl) (by kernel_rfl) (fun _ _ _ h => h) (Or.inl ⟨by rfl, ?hy21⟩) (by assumption) ?rest21
            case hy21 =>
              intro w9 hSw
              clear hSw
              go_simp
              first | done | with_reducible rfl
            (try simp only [Act.put]); (try simp only [List.setIfInBounds_toArray]); (try simp only [List.set_cons_succ]); (try simp only [List.set_cons_zero])
            refine wpAnyH_take (i := 4) (oi := { dst := Option.some 41, op := Go.Op.move (Go.Operand.tmp 4), type := 46, pos := "l12_store.go:158", after := #[{ on := 3, ground := Go.Ground.guard }], guard := Option.some (3, Bool.false) }) (v := ?v22) rfl (by kernel_rfl) (by kernel_rfl) (by kernel_rfl) (fun _ _ _ h => h) (Or.inl ⟨by rfl, ?hy22⟩) (by assumption) ?rest22
            case hy22 =>
              intro w9 hSw
              clear hSw
              go_simp
              first | done | with_reducible rfl
            (try simp only [Act.put]); (try simp only [List.setIfInBounds_toArray]); (try simp only [List.set_cons_succ]); (try simp only [List.set_cons_zero])
            refine wpAnyH_take (i := 5) (oi := { dst := Option.some 42, op := Go.Op.move (Go.Operand.tmp 5), type := 3, pos := "l12_store.go:158", after := #[{ on := 3, ground := Go.Ground.guard }], guard := Option.some (3, Bool.false) }) (v := ?v23) rfl (by kernel_rfl) (by kernel_rfl) (by kernel_rfl) (fun _ _ _ h => h) (Or.inl ⟨by rfl, ?hy23⟩) (by assumption) ?rest23
            case hy23 =>
              intro w9 hSw
              clear hSw
              go_simp
              first | done | with_reducible rfl
            (try simp only [Act.put]); (try simp only [List.setIfInBounds_toArray]); (try simp only [List.set_cons_succ]); (try simp only [List.set_cons_zero])
            refine wpAnyH_take (i := 6) (oi := { dst := Option.some 43, op := Go.Op.move (Go.Operand.tmp 6), type := 22, pos := "l12_store.go:158", after := #[{ on := 3, ground := Go.Ground.guard }], guard := Option.some (3, Bool.false) }) (v := ?v24) rfl (by kernel_rfl) (by kernel_rfl) (by kernel_rfl) (fun _ _ _ h => h) (Or.inl ⟨by rfl, ?hy24⟩) (by assumption) ?rest24
            case hy24 =>
              intro w9 hSw
              clear hSw
              go_simp
              first | done | with_reducible rfl
            (try simp only [Act.put]); (try simp only [List.setIfInBounds_toArray]); (try simp only [List.set_cons_succ]); (try simp only [List.set_cons_zero])
            refine wpAnyH_ready (rs := [7]) (by kernel_rfl) (by simp) ?_
            refine AllReadyH.cons (o := { dst := Option.some 44, op := Go.Op.call { callee := Go.Callee.value (Go.Operand.func 61), args := #[Go.Operand.tmp 43], argTypes := #[22] }, type := 22, pos := "l12_store.go:158", after := #[{ on := 6, ground := Go.Ground.data }, { on := 3, ground := Go.Ground.chain }, { on := 3, ground := Go.Ground.guard }], guard := Option.some (3, Bool.false) }) rfl (fun K hK => ?_) AllReadyH.nil
            go_simp
            (go_at_call 61; refine Calls.mono (HCL.out _ HB9.out) ?_; rintro e w8 ⟨v8, rfl, ho8, hb8⟩; obtain ⟨A7, c7, hv7, -, -, -⟩ := ownE_parts ho8; subst hv7; have HB8 := Lib.hid (HB9.out.trans (hb8.mono HB9.out.size)); have HK8 := Lib.hid (HK9.out.below hb8); have HO8 := Lib.hid (ownE_base ho8 HB9.out.size); clear ho8 hb8)
            (try go_wp2_with fail)
            refine hK.out _ _ (HS7.out _ HB8.out) (fun hHeld => ?_)
            clear hK K
            (try simp only [Act.put]); (try simp only [List.setIfInBounds_toArray]); (try simp only [List.set_cons_succ]); (try simp only [List.set_cons_zero])
            refine wpAnyH_ready (rs := [8]) (by kernel_rfl) (by simp) ?_
            refine AllReadyH.cons (o := { dst := Option.some 45, op := Go.Op.call { callee := Go.Callee.value (Go.Operand.func 15), args := #[Go.Operand.tmp 41, Go.Operand.tmp 42, Go.Operand.tmp 44], argTypes := #[46, 3, 22] }, type := 53, pos := "l12_store.go:158", after := #[{ on := 4, ground := Go.Ground.data }, { on := 5, ground := Go.Ground.data }, { on := 7, ground := Go.Ground.data }, { on := 7, ground := Go.Ground.chain }, { on := 3, ground := Go.Ground.guard }], guard := Option.some (3, Bool.false) }) rfl (fun K hK => ?_) AllReadyH.nil
            go_simp
            (go_at_call 15; refine Calls.mono (HFI.out _ _ _ HK8.out HO8.out) ?_; rintro e w7 ⟨⟨te, pe, rfl⟩, hb7⟩; have HB7 := Lib.hid (HB8.out.trans (hb7.mono HB8.out.size)); clear hb7)
            (try go_wp2_with fail)
            refine hK.out _ _ (HS7.out _ HB7.out) (fun hHeld => ?_)
            clear hK K
            (try simp only [Act.put]); (try simp only [List.setIfInBounds_toArray]); (try simp only [List.set_cons_succ]); (try simp only [List.set_cons_zero])
            refine wpAnyH_take (i := 9) (oi := { dst := Option.some 46, op := Go.Op.binOp Go.BinOp.neq 53 (Go.Operand.tmp 45) (Go.Operand.const Go.Value.nilIface) 53, type := 4, pos := "l12_store.go:158", after := #[{ on := 8, ground := Go.Ground.data }, { on := 3, ground := Go.Ground.guard }], guard := Option.some (3, Bool.false) }) (v := ?v25) rfl (by kernel_rfl) (by kernel_rfl) (by kernel_rfl) (fun _ _ _ h => h) (Or.inl ⟨by rfl, ?hy25⟩) (by assumption) ?rest25
            case hy25 =>
              intro w9 hSw
              clear hSw
              go_simp
              first | done | with_reducible rfl
            (try simp only [Act.put]); (try simp only [List.setIfInBounds_toArray]); (try simp only [List.set_cons_succ]); (try simp only [List.set_cons_zero])
            refine wpAnyH_take (i := 10) (oi := { dst := Option.some 47, op := Go.Op.pick (Go.Operand.tmp 40) (Go.Operand.const (Go.Value.bool Bool.true)) (Go.Operand.tmp 46), type := 4, pos := "l12_store.go:158", after := #[{ on := 3, ground := Go.Ground.data }, { on := 9, ground := Go.Ground.data }], guard := Option.none }) (v := ?v26) rfl (by kernel_rfl) (by kernel_rfl) (by kernel_rfl) (fun _ _ _ h => h) (Or.inl ⟨by rfl, ?hy26⟩) (by assumption) ?rest26
            case hy26 =>
              intro w9 hSw
              clear hSw
              go_simp
              first | done | with_reducible rfl
            (try simp only [Act.put]); (try simp only [List.setIfInBounds_toArray]); (try simp only [List.set_cons_succ]); (try simp only [List.set_cons_zero])
            refine wpAnyH_take (i := 11) (oi := { dst := Option.some 48, op := Go.Op.move (Go.Operand.tmp 47), type := 4, pos := "l12_store.go:158", after := #[{ on := 10, ground := Go.Ground.data }, { on := 8, ground := Go.Ground.chain }], guard := Option.none }) (v := ?v27) rfl (by kernel_rfl) (by kernel_rfl) (by kernel_rfl) (fun _ _ _ h => h) (Or.inl ⟨by rfl, ?hy27⟩) (by assumption) ?rest27
            case hy27 =>
              intro w9 hSw
              clear hSw
              go_simp
              first | done | with_reducible rfl
            (try simp only [Act.put]); (try simp only [List.setIfInBounds_toArray]); (try simp only [List.set_cons_succ]); (try simp only [List.set_cons_zero])
            refine wpAnyH_take (i := 12) (oi := { dst := Option.some 49, op := Go.Op.fieldAddr 27 (Go.Operand.tmp 1) 2, type := 0, pos := "l12_store.go:158", after := #[{ on := 11, ground := Go.Ground.guard }], guard := Option.some (11, Bool.false) }) (v := undef) rfl (by kernel_rfl) (by kernel_rfl) (by kernel_rfl) (fun _ _ _ h => h) (Or.inr ⟨by rfl, rfl⟩) (by assumption) ?_
            (try simp only [Act.put]); (try simp only [List.setIfInBounds_toArray]); (try simp only [List.set_cons_succ]); (try simp only [List.set_cons_zero])
            refine wpAnyH_take (i := 13) (oi := { dst := Option.some 50, op := Go.Op.load 24 (Go.Operand.tmp 49), type := 24, pos := "l12_store.go:158", after := #[{ on := 12, ground := Go.Ground.data }, { on := 11, ground := Go.Ground.guard }], guard := Option.some (11, Bool.false) }) (v := undef) rfl (by kernel_rfl) (by kernel_rfl) (by kernel_rfl) (fun _ _ _ h => h) (Or.inr ⟨by rfl, rfl⟩) (by assumption) ?_
            (try simp only [Act.put]); (try simp only [List.setIfInBounds_toArray]); (try simp only [List.set_cons_succ]); (try simp only [List.set_cons_zero])
            refine wpAnyH_take (i := 14) (oi := { dst := Option.some 51, op := Go.Op.move (Go.Operand.tmp 5), type := 3, pos := "l12_store.go:158", after := #[{ on := 11, ground := Go.Ground.guard }], guard := Option.some (11, Bool.false) }) (v := undef) rfl (by kernel_rfl) (by kernel_rfl) (by kernel_rfl) (fun _ _ _ h => h) (Or.inr ⟨by rfl, rfl⟩) (by assumption) ?_
            (try simp only [Act.put]); (try simp only [List.setIfInBounds_toArray]); (try simp only [List.set_cons_succ]); (try simp only [List.set_cons_zero])
            refine wpAnyH_take (i := 15) (oi := { dst := Option.some 52, op := Go.Op.indexAddr 24 (Go.Operand.tmp 50) (Go.Operand.tmp 51), type := 0, pos := "l12_store.go:158", after := #[{ on := 13, ground := Go.Ground.data }, { on := 14, ground := Go.Ground.data }, { on := 11, ground := Go.Ground.guard }], guard := Option.some (11, Bool.false) }) (v := undef) rfl (by kernel_rfl) (by kernel_rfl) (by kernel_rfl) (fun _ _ _ h => h) (Or.inr ⟨by rfl, rfl⟩) (by assumption) ?_
            (try simp only [Act.put]); (try simp only [List.setIfInBounds_toArray]); (try simp only [List.set_cons_succ]); (try simp only [List.set_cons_zero])
            refine wpAnyH_take (i := 16) (oi := { dst := Option.some 53, op := Go.Op.load 45 (Go.Operand.tmp 52), type := 45, pos := "l12_store.go:158", after := #[{ on := 15, ground := Go.Ground.data }, { on := 11, ground := Go.Ground.guard }], guard := Option.some (11, Bool.false) }) (v := undef) rfl (by kernel_rfl) (by kernel_rfl) (by kernel_rfl) (fun _ _ _ h => h) (Or.inr ⟨by rfl, rfl⟩) (by assumption) ?_
            (try simp only [Act.put]); (try simp only [List.setIfInBounds_toArray]); (try simp only [List.set_cons_succ]); (try simp only [List.set_cons_zero])
            refine wpAnyH_take (i := 17) (oi := { dst := Option.some 54, op := Go.Op.move (Go.Operand.tmp 4), type := 46, pos := "l12_store.go:158", after := #[{ on := 11, ground := Go.Ground.guard }], guard := Option.some (11, Bool.false) }) (v := undef) rfl (by kernel_rfl) (by kernel_rfl) (by kernel_rfl) (fun _ _ _ h => h) (Or.inr ⟨by rfl, rfl⟩) (by assumption) ?_
            (try simp only [Act.put]); (try simp only [List.setIfInBounds_toArray]); (try simp only [List.set_cons_succ]); (try simp only [List.set_cons_zero])
            refine wpAnyH_take (i := 18) (oi := { dst := Option.some 55, op := Go.Op.move (Go.Operand.tmp 5), type := 3, pos := "l12_store.go:158", after := #[{ on := 11, ground := Go.Ground.guard }], guard := Option.some (11, Bool.false) }) (v := undef) rfl (by kernel_rfl) (by kernel_rfl) (by kernel_rfl) (fun _ _ _ h => h) (Or.inr ⟨by rfl, rfl⟩) (by assumption) ?_
            (try simp only [Act.put]); (try simp only [List.setIfInBounds_toArray]); (try simp only [List.set_cons_succ]); (try simp only [List.set_cons_zero])
            refine wpAnyH_take (i := 19) (oi := { dst := Option.some 56, op := Go.Op.nilCheck (Go.Operand.tmp 54), type := 0, pos := "l12_store.go:158", after := #[{ on := 17, ground := Go.Ground.data }, { on := 11, ground := Go.Ground.guard }], guard := Option.some (11, Bool.false) }) (v := undef) rfl (by kernel_rfl) (by kernel_rfl) (by kernel_rfl) (fun _ _ _ h => h) (Or.inr ⟨by rfl, rfl⟩) (by assumption) ?_
            (try simp only [Act.put]); (try simp only [List.setIfInBounds_toArray]); (try simp only [List.set_cons_succ]); (try simp only [List.set_cons_zero])
            refine wpAnyH_take (i := 20) (oi := { dst := Option.some 57, op := Go.Op.fieldAddr 51 (Go.Operand.tmp 56) 1, type := 0, pos := "l12_store.go:158", after := #[{ on := 19, ground := Go.Ground.data }, { on := 11, ground := Go.Ground.guard }], guard := Option.some (11, Bool.false) }) (v := undef) rfl (by kernel_rfl) (by kernel_rfl) (by kernel_rfl) (fun _ _ _ h => h) (Or.inr ⟨by rfl, rfl⟩) (by assumption) ?_
            (try simp only [Act.put]); (try simp only [List.setIfInBounds_toArray]); (try simp only [List.set_cons_succ]); (try simp only [List.set_cons_zero])
            refine wpAnyH_take (i := 21) (oi := { dst := Option.some 58, op := Go.Op.indexAddr 49 (Go.Operand.tmp 57) (Go.Operand.tmp 55), type := 0, pos := "l12_store.go:158", after := #[{ on := 20, ground := Go.Ground.data }, { on := 18, ground := Go.Ground.data }, { on := 11, ground := Go.Ground.guard }], guard := Option.some (11, Bool.false) }) (v := undef) rfl (by kernel_rfl) (by kernel_rfl) (by kernel_rfl) (fun _ _ _ h => h) (Or.inr ⟨by rfl, rfl⟩) (by assumption) ?_
            (try simp only [Act.put]); (try simp only [List.setIfInBounds_toArray]); (try simp only [List.set_cons_succ]); (try simp only [List.set_cons_zero])
            refine wpAnyH_take (i := 22) (oi := { dst := Option.some 59, op := Go.Op.fieldAddr 48 (Go.Operand.tmp 58) 1, type := 0, pos := "l12_store.go:158", after := #[{ on := 21, ground := Go.Ground.data }, { on := 11, ground := Go.Ground.guard }], guard := Option.some (11, Bool.false) }) (v := undef) rfl (by kernel_rfl) (by kernel_rfl) (by kernel_rfl) (fun _ _ _ h => h) (Or.inr ⟨by rfl, rfl⟩) (by assumption) ?_
            (try simp only [Act.put]); (try simp only [List.setIfInBounds_toArray]); (try simp only [List.set_cons_succ]); (try simp only [List.set_cons_zero])
            refine wpAnyH_take (i := 23) (oi := { dst := Option.some 60, op := Go.Op.load 45 (Go.Operand.tmp 59), type := 45, pos := "l12_store.go:158", after := #[{ on := 22, ground := Go.Ground.data }, { on := 11, ground := Go.Ground.guard }], guard := Option.some (11, Bool.false) }) (v := undef) rfl (by kernel_rfl) (by kernel_rfl) (by kernel_rfl) (fun _ _ _ h => h) (Or.inr ⟨by rfl, rfl⟩) (by assumption) ?_
            (try simp only [Act.put]); (try simp only [List.setIfInBounds_toArray]); (try simp only [List.set_cons_succ]); (try simp only [List.set_cons_zero])
            refine wpAnyH_take (i := 24) (oi := { dst := Option.some 61, op := Go.Op.call { callee := Go.Callee.value (Go.Operand.func 64), args := #[Go.Operand.tmp 53, Go.Operand.tmp 60], argTypes := #[45, 45] }, type := 4, pos := "l12_store.go:158", after := #[{ on := 16, ground := Go.Ground.data }, { on := 23, ground := Go.Ground.data }, { on := 11, ground := Go.Ground.chain }, { on := 11, ground := Go.Ground.guard }], guard := Option.some (11, Bool.false) }) (v := undef) rfl (by kernel_rfl) (by kernel_rfl) (by kernel_rfl) (fun _ _ _ h => h) (Or.inr ⟨by rfl, rfl⟩) (by assumption) ?_
            (try simp only [Act.put]); (try simp only [List.setIfInBounds_toArray]); (try simp only [List.set_cons_succ]); (try simp only [List.set_cons_zero])
            refine wpAnyH_take (i := 25) (oi := { dst := Option.some 62, op := Go.Op.unOp Go.UnOp.not 4 (Go.Operand.tmp 61), type := 4, pos := "l12_store.go:158", after := #[{ on := 24, ground := Go.Ground.data }, { on := 11, ground := Go.Ground.guard }], guard := Option.some (11, Bool.false) }) (v := undef) rfl (by kernel_rfl) (by kernel_rfl) (by kernel_rfl) (fun _ _ _ h => h) (Or.inr ⟨by rfl, rfl⟩) (by assumption) ?_
            (try simp only [Act.put]); (try simp only [List.setIfInBounds_toArray]); (try simp only [List.set_cons_succ]); (try simp only [List.set_cons_zero])
            refine wpAnyH_take (i := 26) (oi := { dst := Option.some 63, op := Go.Op.pick (Go.Operand.tmp 48) (Go.Operand.const (Go.Value.bool Bool.true)) (Go.Operand.tmp 62), type := 4, pos := "l12_store.go:158", after := #[{ on := 11, ground := Go.Ground.data }, { on := 25, ground := Go.Ground.data }], guard := Option.none }) (v := ?v28) rfl (by kernel_rfl) (by kernel_rfl) (by kernel_rfl) (fun _ _ _ h => h) (Or.inl ⟨by rfl, ?hy28⟩) (by assumption) ?rest28
            case hy28 =>
              intro w9 hSw
              clear hSw
              go_simp
              first | done | with_reducible rfl
            (try simp only [Act.put]); (try simp only [List.setIfInBounds_toArray]); (try simp only [List.set_cons_succ]); (try simp only [List.set_cons_zero])
            refine wpAnyH_done (by kernel_rfl) ?_ _
            go_wp2
            go_ret2
            exact ⟨_, false, rfl, ⟨fun h => (by cases h), fun h => absurd (h.lvl k hkl hks) (by show ¬ lvlB keep k levels[k] sieves[k] = true; rw [← H0.out, ← HX.out, HLP.out]; simp)⟩, HB.out.trans (HB7.out.mono HB.out.size)⟩
          | true =>
            have HFI := Lib.hid (show ∀ W A7 c7, TreeK W0 W gt cur A8 A9 k8 k9 top levels keep time times k → OwnE W W0.heap.size (.slice A7 r.length c7) r → Calls Tryd.prog 15 #[.pointer (some ⟨gt, 0, none⟩), .int .i64 (k : Nat), .slice A7 r.length c7] W fun e w' => e = .returned .nilIface ∧ ∃ B7 d7, Filled W gt k cur (.slice A7 r.length c7) (svL (keysL r) keep) (svM (keysL r) keep) (svF (keysL r) keep) (svR (keysL r) keep) (svK (keysL r) keep) w' (.slice B7 (svR (keysL r) keep).length d7) from fun W A7 c7 h1 h2 => (HFI0.out W A7 c7 h1 h2).mono fun e w' h => by
              rcases h with ⟨-, h, v, hf⟩ | ⟨h, -⟩
              · obtain ⟨B7, d7, hv, -, -, -⟩ := hf.own.parts
                subst hv
                exact ⟨h, B7, d7, hf⟩
              · cases h)
            go_upto_region 7 with fail
            cases eqv
            case false =>
              refine wp_region_held_drew (S := (fun W : World => W.cell? ⟨w.heap.size, 2, none⟩ = some (.slice (some ⟨sb, so, none⟩) sieves.length c2) ∧ W.cell? ⟨sb, so + k * 5, none⟩ = some (.string X0) ∧ W.cell? ⟨sb, so + k * 5 + 1, none⟩ = some (.string X1) ∧ W.cell? ⟨sb, so + k * 5 + 2, none⟩ = some (.string X2) ∧ W.cell? ⟨sb, so + k * 5 + 3, none⟩ = some (.slice A3 XR.length c3) ∧ W.cell? ⟨sb, so + k * 5 + 4, none⟩ = some (.int .i64 XK))) (by kernel_rfl) (HS7.out _ (by exact bel2 HKB.out (by rfl) (by rfl) (by rfl) (by rfl))) (fun hHeld => ?_)
              refine wpAnyH_take (i := 0) (oi := { dst := Option.some 37, op := Go.Op.move (Go.Operand.tmp 6), type := 22, pos := "l12_store.go:158", after := #[], guard := Option.none }) (v := ?v29) rfl (by kernel_rfl) (by kernel_rfl) (by kernel_rfl) (fun _ _ _ h => h) (Or.inl ⟨by rfl, ?hy29⟩) (by assumption) ?rest29
              case hy29 =>
                intro w9 hSw
                clear hSw
                go_simp
                first | done | with_reducible rfl
              (try simp only [Act.put]); (try simp only [List.setIfInBounds_toArray]); (try simp only [List.set_cons_succ]); (try simp only [List.set_cons_zero])
              refine wpAnyH_ready (rs := [1]) (by kernel_rfl) (by simp) ?_
              refine AllReadyH.cons (o := { dst := Option.some 38, op := Go.Op.call { callee := Go.Callee.value (Go.Operand.func 63), args := #[Go.Operand.tmp 37], argTypes := #[22] }, type := 4, pos := "l12_store.go:158", after := #[{ on := 0, ground := Go.Ground.data }], guard := Option.none }) rfl (fun K hK => ?_) AllReadyH.nil
              go_simp
              (go_at_call 63; refine Calls.mono (HRK.out _ (by exact bel2 HKB.out (by rfl) (by rfl) (by rfl) (by rfl))) ?_; rintro e w9 ⟨rfl, hb9⟩; have HB9 := Lib.hid (Below.trans (show Below W0.heap.size W0 _ by exact bel2 HKB.out (by rfl) (by rfl) (by rfl) (by rfl)) (hb9.mono (show W0.heap.size ≤ _ by exact HKB.out.size))); have HK9 := Lib.hid ((HKD.out).below hb9); clear hb9)
              (try go_wp2_with fail)
              refine hK.out _ _ (HS7.out _ HB9.out) (fun hHeld => ?_)
              clear hK K
              (try simp only [Act.put]); (try simp only [List.setIfInBounds_toArray]); (try simp only [List.set_cons_succ]); (try simp only [List.set_cons_zero])
              refine wpAnyH_take (i := 2) (oi := { dst := Option.some 39, op := Go.Op.unOp Go.UnOp.not 4 (Go.Operand.tmp 38), type := 4, pos := "l12_store.go:158", after := #[{ on := 1, ground := Go.Ground.data }], guard := Option.none }) (v := ?v30) rfl (by kernel_rfl) (by kernel_rfl) (by kernel_rfl) (fun _ _ _ h => h) (Or.inl ⟨by rfl, ?hy30⟩) (by assumption) ?rest30
              case hy30 =>
                intro w9 hSw
                clear hSw
                go_simp
                first | done | with_reducible rfl
              (try simp only [Act.put]); (try simp only [List.setIfInBounds_toArray]); (try simp only [List.set_cons_succ]); (try simp only [List.set_cons_zero])
              refine wpAnyH_take (i := 3) (oi := { dst := Option.some 40, op := Go.Op.move (Go.Operand.tmp 39), type := 4, pos := "l12_store.go:158", after := #[{ on := 2, ground := Go.Ground.data }, { on := 1, ground := Go.Ground.chain }], guard := Option.none }) (v := ?v31) rfl (by kernel_rfl) (by kernel_rfl) (by kernel_rfl) (fun _ _ _ h => h) (Or.inl ⟨by rfl, ?hy31⟩) (by assumption) ?rest31
              case hy31 =>
                intro w9 hSw
                clear hSw
                go_simp
                first | done | with_reducible rfl
              (try simp only [Act.put]); (try simp only [List.setIfInBounds_toArray]); (try simp only [List.set_cons_succ]); (try simp only [List.set_cons_zero])
              refine wpAnyH_take (i := 4) (oi := { dst := Option.some 41, op := Go.Op.move (Go.Operand.tmp 4), type := 46, pos := "l12_store.go:158", after := #[{ on := 3, ground := Go.Ground.guard }], guard := Option.some (3, Bool.false) }) (v := ?v32) rfl (by kernel_rfl) (by kernel_rfl) (by kernel_rfl) (fun _ _ _ h => h) (Or.inl ⟨by rfl, ?hy32⟩) (by assumption) ?rest32
              case hy32 =>
                intro w9 hSw
                clear hSw
                go_simp
                first | done | with_reducible rfl
              (try simp only [Act.put]); (try simp only [List.setIfInBounds_toArray]); (try simp only [List.set_cons_succ]); (try simp only [List.set_cons_zero])
              refine wpAnyH_take (i := 5) (oi := { dst := Option.some 42, op := Go.Op.move (Go.Operand.tmp 5), type := 3, pos := "l12_store.go:158", after := #[{ on := 3, ground := Go.Ground.guard }], guard := Option.some (3, Bool.false) }) (v := ?v33) rfl (by kernel_rfl) (by kernel_rfl) (by kernel_rfl) (fun _ _ _ h => h) (Or.inl ⟨by rfl, ?hy33⟩) (by assumption) ?rest33
              case hy33 =>
                intro w9 hSw
                clear hSw
                go_simp
                first | done | with_reducible rfl
              (try simp only [Act.put]); (try simp only [List.setIfInBounds_toArray]); (try simp only [List.set_cons_succ]); (try simp only [List.set_cons_zero])
              refine wpAnyH_take (i := 6) (oi := { dst := Option.some 43, op := Go.Op.move (Go.Operand.tmp 6), type := 22, pos := "l12_store.go:158", after := #[{ on := 3, ground := Go.Ground.guard }], guard := Option.some (3, Bool.false) }) (v := ?v34) rfl (by kernel_rfl) (by kernel_rfl) (by kernel_rfl) (fun _ _ _ h => h) (Or.inl ⟨by rfl, ?hy34⟩) (by assumption) ?rest34
              case hy34 =>
                intro w9 hSw
                clear hSw
                go_simp
                first | done | with_reducible rfl
              (try simp only [Act.put]); (try simp only [List.setIfInBounds_toArray]); (try simp only [List.set_cons_succ]); (try simp only [List.set_cons_zero])
              refine wpAnyH_ready (rs := [7]) (by kernel_rfl) (by simp) ?_
              refine AllReadyH.cons (o := { dst := Option.some 44, op := Go.Op.call { callee := Go.Callee.value (Go.Operand.func 61), args := #[Go.Operand.tmp 43], argTypes := #[22] }, type := 22, pos := "l12_store.go:158", after := #[{ on := 6, ground := Go.Ground.data }, { on := 3, ground := Go.Ground.chain }, { on := 3, ground := Go.Ground.guard }], guard := Option.some (3, Bool.false) }) rfl (fun K hK => ?_) AllReadyH.nil
              go_simp
              (go_at_call 61; refine Calls.mono (HCL.out _ HB9.out) ?_; rintro e w8 ⟨v8, rfl, ho8, hb8⟩; obtain ⟨A7, c7, hv7, -, -, -⟩ := ownE_parts ho8; subst hv7; have HB8 := Lib.hid (HB9.out.trans (hb8.mono HB9.out.size)); have HK8 := Lib.hid (HK9.out.below hb8); have HO8 := Lib.hid (ownE_base ho8 HB9.out.size); clear ho8 hb8)
              (try go_wp2_with fail)
              refine hK.out _ _ (HS7.out _ HB8.out) (fun hHeld => ?_)
              clear hK K
              (try simp only [Act.put]); (try simp only [List.setIfInBounds_toArray]); (try simp only [List.set_cons_succ]); (try simp only [List.set_cons_zero])
              refine wpAnyH_ready (rs := [8]) (by kernel_rfl) (by simp) ?_
              refine AllReadyH.cons (o := { dst := Option.some 45, op := Go.Op.call { callee := Go.Callee.value (Go.Operand.func 15), args := #[Go.Operand.tmp 41, Go.Operand.tmp 42, Go.Operand.tmp 44], argTypes := #[46, 3, 22] }, type := 53, pos := "l12_store.go:158", after := #[{ on := 4, ground := Go.Ground.data }, { on := 5, ground := Go.Ground.data }, { on := 7, ground := Go.Ground.data }, { on := 7, ground := Go.Ground.chain }, { on := 3, ground := Go.Ground.guard }], guard := Option.some (3, Bool.false) }) rfl (fun K hK => ?_) AllReadyH.nil
              go_simp
              (go_at_call 15; refine Calls.mono (HFI.out _ _ _ HK8.out HO8.out) ?_; rintro e w7 ⟨rfl, B7, d7, hf7⟩; obtain ⟨cur7, hk7, hc7⟩ := HK8.out.fill hlt HLK.out HO8.out hf7; have HK7 := Lib.hid hk7; obtain ⟨Aq, Bq, cq, dq, lq⟩ := hk7.lv k hkl (Nat.lt_succ_self k); rw [← H0.out] at lq; have t1 := hk7.cells lq.c1; have t2 := hk7.cells lq.c2; have t3 := hk7.cells lq.c3; have t4 := hk7.cells lq.c4; have t5 := hk7.cells lq.c5; have HSR := Lib.hid (strs_own' lq.rests); have HB7 := Lib.hid hk7.bel; clear hf7 hk7 hc7 lq)
              (try go_wp2_with fail)
              refine hK.out _ _ (HS7.out _ HB7.out) (fun hHeld => ?_)
              clear hK K
              (try simp only [Act.put]); (try simp only [List.setIfInBounds_toArray]); (try simp only [List.set_cons_succ]); (try simp only [List.set_cons_zero])
              refine wpAnyH_take (i := 9) (oi := { dst := Option.some 46, op := Go.Op.binOp Go.BinOp.neq 53 (Go.Operand.tmp 45) (Go.Operand.const Go.Value.nilIface) 53, type := 4, pos := "l12_store.go:158", after := #[{ on := 8, ground := Go.Ground.data }, { on := 3, ground := Go.Ground.guard }], guard := Option.some (3, Bool.false) }) (v := ?v35) rfl (by kernel_rfl) (by kernel_rfl) (by kernel_rfl) (fun _ _ _ h => h) (Or.inl ⟨by rfl, ?hy35⟩) (by assumption) ?rest35
              case hy35 =>
                intro w9 hSw
                clear hSw
                go_simp
                first | done | with_reducible rfl
              (try simp only [Act.put]); (try simp only [List.setIfInBounds_toArray]); (try simp only [List.set_cons_succ]); (try simp only [List.set_cons_zero])
              refine wpAnyH_take (i := 10) (oi := { dst := Option.some 47, op := Go.Op.pick (Go.Operand.tmp 40) (Go.Operand.const (Go.Value.bool Bool.true)) (Go.Operand.tmp 46), type := 4, pos := "l12_store.go:158", after := #[{ on := 3, ground := Go.Ground.data }, { on := 9, ground := Go.Ground.data }], guard := Option.none }) (v := ?v36) rfl (by kernel_rfl) (by kernel_rfl) (by kernel_rfl) (fun _ _ _ h => h) (Or.inl ⟨by rfl, ?hy36⟩) (by assumption) ?rest36
              case hy36 =>
                intro w9 hSw
                clear hSw
                go_simp
                first | done | with_reducible rfl
              (try simp only [Act.put]); (try simp only [List.setIfInBounds_toArray]); (try simp only [List.set_cons_succ]); (try simp only [List.set_cons_zero])
              refine wpAnyH_take (i := 11) (oi := { dst := Option.some 48, op := Go.Op.move (Go.Operand.tmp 47), type := 4, pos := "l12_store.go:158", after := #[{ on := 10, ground := Go.Ground.data }, { on := 8, ground := Go.Ground.chain }], guard := Option.none }) (v := ?v37) rfl (by kernel_rfl) (by kernel_rfl) (by kernel_rfl) (fun _ _ _ h => h) (Or.inl ⟨by rfl, ?hy37⟩) (by assumption) ?rest37
              case hy37 =>
                intro w9 hSw
                clear hSw
                go_simp
                first | done | with_reducible rfl
              (try simp only [Act.put]); (try simp only [List.setIfInBounds_toArray]); (try simp only [List.set_cons_succ]); (try simp only [List.set_cons_zero])
              refine wpAnyH_take (i := 12) (oi := { dst := Option.some 49, op := Go.Op.fieldAddr 27 (Go.Operand.tmp 1) 2, type := 0, pos := "l12_store.go:158", after := #[{ on := 11, ground := Go.Ground.guard }], guard := Option.some (11, Bool.false) }) (v := ?v38) rfl (by kernel_rfl) (by kernel_rfl) (by kernel_rfl) (fun _ _ _ h => h) (Or.inl ⟨by rfl, ?hy38⟩) (by assumption) ?rest38
              case hy38 =>
                intro w9 hSw
                clear hSw
                go_simp
                first | done | with_reducible rfl
              (try simp only [Act.put]); (try simp only [List.setIfInBounds_toArray]); (try simp only [List.set_cons_succ]); (try simp only [List.set_cons_zero])
              refine wpAnyH_take (i := 13) (oi := { dst := Option.some 50, op := Go.Op.load 24 (Go.Operand.tmp 49), type := 24, pos := "l12_store.go:158", after := #[{ on := 12, ground := Go.Ground.data }, { on := 11, ground := Go.Ground.guard }], guard := Option.some (11, Bool.false) }) (v := ?v39) rfl (by kernel_rfl) (by kernel_rfl) (by kernel_rfl) (fun _ _ _ h => h) (Or.inl ⟨by rfl, ?hy39⟩) (by assumption) ?rest39
              case hy39 =>
                intro w9 hSw
                obtain ⟨f0, f1, f2, f3, f4, f5⟩ := hSw
                go_simp
                first | done | with_reducible rfl
              (try simp only [Act.put]); (try simp only [List.setIfInBounds_toArray]); (try simp only [List.set_cons_succ]); (try simp only [List.set_cons_zero])
              refine wpAnyH_take (i := 14) (oi := { dst := Option.some 51, op := Go.Op.move (Go.Operand.tmp 5), type := 3, pos := "l12_store.go:158", after := #[{ on := 11, ground := Go.Ground.guard }], guard := Option.some (11, Bool.false) }) (v := ?v40) rfl (by kernel_rfl) (by kernel_rfl) (by kernel_rfl) (fun _ _ _ h => h) (Or.inl ⟨by rfl, ?hy40⟩) (by assumption) ?rest40
              case hy40 =>
                intro w9 hSw
                clear hSw
                go_simp
                first | done | with_reducible rfl
              (try simp only [Act.put]); (try simp only [List.setIfInBounds_toArray]); (try simp only [List.set_cons_succ]); (try simp only [List.set_cons_zero])
              refine wpAnyH_take (i := 15) (oi := { dst := Option.some 52, op := Go.Op.indexAddr 24 (Go.Operand.tmp 50) (Go.Operand.tmp 51), type := 0, pos := "l12_store.go:158", after := #[{ on := 13, ground := Go.Ground.data }, { on := 14, ground := Go.Ground.data }, { on := 11, ground := Go.Ground.guard }], guard := Option.some (11, Bool.false) }) (v := ?v41) rfl (by kernel_rfl) (by kernel_rfl) (by kernel_rfl) (fun _ _ _ h => h) (Or.inl ⟨by rfl, ?hy41⟩) (by assumption) ?rest41
              case hy41 =>
                intro w9 hSw
                clear hSw
                go_simp
                first | done | with_reducible rfl
              (try simp only [Act.put]); (try simp only [List.setIfInBounds_toArray]); (try simp only [List.set_cons_succ]); (try simp only [List.set_cons_zero])
              refine wpAnyH_take (i := 16) (oi := { dst := Option.some 53, op := Go.Op.load 45 (Go.Operand.tmp 52), type := 45, pos := "l12_store.go:158", after := #[{ on := 15, ground := Go.Ground.data }, { on := 11, ground := Go.Ground.guard }], guard := Option.some (11, Bool.false) }) (v := ?v42) rfl (by kernel_rfl) (by kernel_rfl) (by kernel_rfl) (fun _ _ _ h => h) (Or.inl ⟨by rfl, ?hy42⟩) (by assumption) ?rest42
              case hy42 =>
                intro w9 hSw
                obtain ⟨f0, f1, f2, f3, f4, f5⟩ := hSw
                go_simp
                first | done | with_reducible rfl
              (try simp only [Act.put]); (try simp only [List.setIfInBounds_toArray]); (try simp only [List.set_cons_succ]); (try simp only [List.set_cons_zero])
              refine wpAnyH_take (i := 17) (oi := { dst := Option.some 54, op := Go.Op.move (Go.Operand.tmp 4), type := 46, pos := "l12_store.go:158", after := #[{ on := 11, ground := Go.Ground.guard }], guard := Option.some (11, Bool.false) }) (v := ?v43) rfl (by kernel_rfl) (by kernel_rfl) (by kernel_rfl) (fun _ _ _ h => h) (Or.inl ⟨by rfl, ?hy43⟩) (by assumption) ?rest43
              case hy43 =>
                intro w9 hSw
                clear hSw
                go_simp
                first | done | with_reducible rfl
              (try simp only [Act.put]); (try simp only [List.setIfInBounds_toArray]); (try simp only [List.set_cons_succ]); (try simp only [List.set_cons_zero])
              refine wpAnyH_take (i := 18) (oi := { dst := Option.some 55, op := Go.Op.move (Go.Operand.tmp 5), type := 3, pos := "l12_store.go:158", after := #[{ on := 11, ground := Go.Ground.guard }], guard := Option.some (11, Bool.false) }) (v := ?v44) rfl (by kernel_rfl) (by kernel_rfl) (by kernel_rfl) (fun _ _ _ h => h) (Or.inl ⟨by rfl, ?hy44⟩) (by assumption) ?rest44
              case hy44 =>
                intro w9 hSw
                clear hSw
                go_simp
                first | done | with_reducible rfl
              (try simp only [Act.put]); (try simp only [List.setIfInBounds_toArray]); (try simp only [List.set_cons_succ]); (try simp only [List.set_cons_zero])
              refine wpAnyH_take (i := 19) (oi := { dst := Option.some 56, op := Go.Op.nilCheck (Go.Operand.tmp 54), type := 0, pos := "l12_store.go:158", after := #[{ on := 17, ground := Go.Ground.data }, { on := 11, ground := Go.Ground.guard }], guard := Option.some (11, Bool.false) }) (v := ?v45) rfl (by kernel_rfl) (by kernel_rfl) (by kernel_rfl) (fun _ _ _ h => h) (Or.inl ⟨by rfl, ?hy45⟩) (by assumption) ?rest45
              case hy45 =>
                intro w9 hSw
                clear hSw
                go_simp
                first | done | with_reducible rfl
              (try simp only [Act.put]); (try simp only [List.setIfInBounds_toArray]); (try simp only [List.set_cons_succ]); (try simp only [List.set_cons_zero])
              refine wpAnyH_take (i := 20) (oi := { dst := Option.some 57, op := Go.Op.fieldAddr 51 (Go.Operand.tmp 56) 1, type := 0, pos := "l12_store.go:158", after := #[{ on := 19, ground := Go.Ground.data }, { on := 11, ground := Go.Ground.guard }], guard := Option.some (11, Bool.false) }) (v := ?v46) rfl (by kernel_rfl) (by kernel_rfl) (by kernel_rfl) (fun _ _ _ h => h) (Or.inl ⟨by rfl, ?hy46⟩) (by assumption) ?rest46
              case hy46 =>
                intro w9 hSw
                clear hSw
                go_simp
                first | done | with_reducible rfl
              (try simp only [Act.put]); (try simp only [List.setIfInBounds_toArray]); (try simp only [List.set_cons_succ]); (try simp only [List.set_cons_zero])
              refine wpAnyH_take (i := 21) (oi := { dst := Option.some 58, op := Go.Op.indexAddr 49 (Go.Operand.tmp 57) (Go.Operand.tmp 55), type := 0, pos := "l12_store.go:158", after := #[{ on := 20, ground := Go.Ground.data }, { on := 18, ground := Go.Ground.data }, { on := 11, ground := Go.Ground.guard }], guard := Option.some (11, Bool.false) }) (v := ?v47) rfl (by kernel_rfl) (by kernel_rfl) (by kernel_rfl) (fun _ _ _ h => h) (Or.inl ⟨by rfl, ?hy47⟩) (by assumption) ?rest47
              case hy47 =>
                intro w9 hSw
                clear hSw
                go_simp
                first | done | with_reducible rfl
              (try simp only [Act.put]); (try simp only [List.setIfInBounds_toArray]); (try simp only [List.set_cons_succ]); (try simp only [List.set_cons_zero])
              refine wpAnyH_take (i := 22) (oi := { dst := Option.some 59, op := Go.Op.fieldAddr 48 (Go.Operand.tmp 58) 1, type := 0, pos := "l12_store.go:158", after := #[{ on := 21, ground := Go.Ground.data }, { on := 11, ground := Go.Ground.guard }], guard := Option.some (11, Bool.false) }) (v := ?v48) rfl (by kernel_rfl) (by kernel_rfl) (by kernel_rfl) (fun _ _ _ h => h) (Or.inl ⟨by rfl, ?hy48⟩) (by assumption) ?rest48
              case hy48 =>
                intro w9 hSw
                clear hSw
                go_simp
                first | done | with_reducible rfl
              (try simp only [Act.put]); (try simp only [List.setIfInBounds_toArray]); (try simp only [List.set_cons_succ]); (try simp only [List.set_cons_zero])
              refine wpAnyH_ready (rs := [23]) (by kernel_rfl) (by simp) ?_
              refine AllReadyH.cons (o := { dst := Option.some 60, op := Go.Op.load 45 (Go.Operand.tmp 59), type := 45, pos := "l12_store.go:158", after := #[{ on := 22, ground := Go.Ground.data }, { on := 11, ground := Go.Ground.guard }], guard := Option.some (11, Bool.false) }) rfl (fun K hK => ?_) AllReadyH.nil
              go_simp
              refine hK.out _ _ (HS7.out _ HB7.out) (fun hHeld => ?_)
              clear hK K
              (try simp only [Act.put]); (try simp only [List.setIfInBounds_toArray]); (try simp only [List.set_cons_succ]); (try simp only [List.set_cons_zero])
              refine wpAnyH_ready (rs := [24]) (by kernel_rfl) (by simp) ?_
              refine AllReadyH.cons (o := { dst := Option.some 61, op := Go.Op.call { callee := Go.Callee.value (Go.Operand.func 64), args := #[Go.Operand.tmp 53, Go.Operand.tmp 60], argTypes := #[45, 45] }, type := 4, pos := "l12_store.go:158", after := #[{ on := 16, ground := Go.Ground.data }, { on := 23, ground := Go.Ground.data }, { on := 11, ground := Go.Ground.chain }, { on := 11, ground := Go.Ground.guard }], guard := Option.some (11, Bool.false) }) rfl (fun K hK => ?_) AllReadyH.nil
              go_simp
              (go_at_call 64; refine Calls.mono (HSE.out _ _ _ HB7.out HSR.out) ?_; rintro e w6 ⟨rfl, hb6⟩; have HB6 := Lib.hid (HB7.out.trans (hb6.mono HB7.out.size)); have HK6 := Lib.hid (HK7.out.below hb6); clear hb6)
              (try go_wp2_with fail)
              refine hK.out _ _ (HS7.out _ HB6.out) (fun hHeld => ?_)
              clear hK K
              (try simp only [Act.put]); (try simp only [List.setIfInBounds_toArray]); (try simp only [List.set_cons_succ]); (try simp only [List.set_cons_zero])
              refine wpAnyH_take (i := 25) (oi := { dst := Option.some 62, op := Go.Op.unOp Go.UnOp.not 4 (Go.Operand.tmp 61), type := 4, pos := "l12_store.go:158", after := #[{ on := 24, ground := Go.Ground.data }, { on := 11, ground := Go.Ground.guard }], guard := Option.some (11, Bool.false) }) (v := ?v49) rfl (by kernel_rfl) (by kernel_rfl) (by kernel_rfl) (fun _ _ _ h => h) (Or.inl ⟨by rfl, ?hy49⟩) (by assumption) ?rest49
              case hy49 =>
                intro w9 hSw
                clear hSw
                go_simp
                first | done | with_reducible rfl
              (try simp only [Act.put]); (try simp only [List.setIfInBounds_toArray]); (try simp only [List.set_cons_succ]); (try simp only [List.set_cons_zero])
              refine wpAnyH_take (i := 26) (oi := { dst := Option.some 63, op := Go.Op.pick (Go.Operand.tmp 48) (Go.Operand.const (Go.Value.bool Bool.true)) (Go.Operand.tmp 62), type := 4, pos := "l12_store.go:158", after := #[{ on := 11, ground := Go.Ground.data }, { on := 25, ground := Go.Ground.data }], guard := Option.none }) (v := ?v50) rfl (by kernel_rfl) (by kernel_rfl) (by kernel_rfl) (fun _ _ _ h => h) (Or.inl ⟨by rfl, ?hy50⟩) (by assumption) ?rest50
              case hy50 =>
                intro w9 hSw
                clear hSw
                go_simp
                first | done | with_reducible rfl
              (try simp only [Act.put]); (try simp only [List.setIfInBounds_toArray]); (try simp only [List.set_cons_succ]); (try simp only [List.set_cons_zero])
              refine wpAnyH_done (by kernel_rfl) ?_ _
              go_wp2
              go_ret2
              exact ⟨_, false, rfl, ⟨fun h => (by cases h), fun h => absurd (h.lvl k hkl hks) (by show ¬ lvlB keep k levels[k] sieves[k] = true; rw [← H0.out, ← HX.out, HLP.out]; simp)⟩, HB.out.trans (HB6.out.mono HB.out.size)⟩
            case true =>
              refine wp_region_held_drew (S := (fun W : World => W.cell? ⟨w.heap.size, 2, none⟩ = some (.slice (some ⟨sb, so, none⟩) sieves.length c2) ∧ W.cell? ⟨sb, so + k * 5, none⟩ = some (.string X0) ∧ W.cell? ⟨sb, so + k * 5 + 1, none⟩ = some (.string X1) ∧ W.cell? ⟨sb, so + k * 5 + 2, none⟩ = some (.string X2) ∧ W.cell? ⟨sb, so + k * 5 + 3, none⟩ = some (.slice A3 XR.length c3) ∧ W.cell? ⟨sb, so + k * 5 + 4, none⟩ = some (.int .i64 XK))) (by kernel_rfl) (HS7.out _ (by exact bel2 HKB.out (by rfl) (by rfl) (by rfl) (by rfl))) (fun hHeld => ?_)
              refine wpAnyH_take (i := 0) (oi := { dst := Option.some 37, op := Go.Op.move (Go.Operand.tmp 6), type := 22, pos := "l12_store.go:158", after := #[], guard := Option.none }) (v := ?v51) rfl (by kernel_rfl) (by kernel_rfl) (by kernel_rfl) (fun _ _ _ h => h) (Or.inl ⟨by rfl, ?hy51⟩) (by assumption) ?rest51
              case hy51 =>
                intro w9 hSw
                clear hSw
                go_simp
                first | done | with_reducible rfl
              (try simp only [Act.put]); (try simp only [List.setIfInBounds_toArray]); (try simp only [List.set_cons_succ]); (try simp only [List.set_cons_zero])
              refine wpAnyH_ready (rs := [1]) (by kernel_rfl) (by simp) ?_
              refine AllReadyH.cons (o := { dst := Option.some 38, op := Go.Op.call { callee := Go.Callee.value (Go.Operand.func 63), args := #[Go.Operand.tmp 37], argTypes := #[22] }, type := 4, pos := "l12_store.go:158", after := #[{ on := 0, ground := Go.Ground.data }], guard := Option.none }) rfl (fun K hK => ?_) AllReadyH.nil
              go_simp
              (go_at_call 63; refine Calls.mono (HRK.out _ (by exact bel2 HKB.out (by rfl) (by rfl) (by rfl) (by rfl))) ?_; rintro e w9 ⟨rfl, hb9⟩; have HB9 := Lib.hid (Below.trans (show Below W0.heap.size W0 _ by exact bel2 HKB.out (by rfl) (by rfl) (by rfl) (by rfl)) (hb9.mono (show W0.heap.size ≤ _ by exact HKB.out.size))); have HK9 := Lib.hid ((HKD.out).below hb9); clear hb9)
              (try go_wp2_with fail)
              refine hK.out _ _ (HS7.out _ HB9.out) (fun hHeld => ?_)
              clear hK K
              (try simp only [Act.put]); (try simp only [List.setIfInBounds_toArray]); (try simp only [List.set_cons_succ]); (try simp only [List.set_cons_zero])
              refine wpAnyH_take (i := 2) (oi := { dst := Option.some 39, op := Go.Op.unOp Go.UnOp.not 4 (Go.Operand.tmp 38), type := 4, pos := "l12_store.go:158", after := #[{ on := 1, ground := Go.Ground.data }], guard := Option.none }) (v := ?v52) rfl (by kernel_rfl) (by kernel_rfl) (by kernel_rfl) (fun _ _ _ h => h) (Or.inl ⟨by rfl, ?hy52⟩) (by assumption) ?rest52
              case hy52 =>
                intro w9 hSw
                clear hSw
                go_simp
                first | done | with_reducible rfl
              (try simp only [Act.put]); (try simp only [List.setIfInBounds_toArray]); (try simp only [List.set_cons_succ]); (try simp only [List.set_cons_zero])
              refine wpAnyH_take (i := 3) (oi := { dst := Option.some 40, op := Go.Op.move (Go.Operand.tmp 39), type := 4, pos := "l12_store.go:158", after := #[{ on := 2, ground := Go.Ground.data }, { on := 1, ground := Go.Ground.chain }], guard := Option.none }) (v := ?v53) rfl (by kernel_rfl) (by kernel_rfl) (by kernel_rfl) (fun _ _ _ h => h) (Or.inl ⟨by rfl, ?hy53⟩) (by assumption) ?rest53
              case hy53 =>
                intro w9 hSw
                clear hSw
                go_simp
                first | done | with_reducible rfl
              (try simp only [Act.put]); (try simp only [List.setIfInBounds_toArray]); (try simp only [List.set_cons_succ]); (try simp only [List.set_cons_zero])
              refine wpAnyH_take (i := 4) (oi := { dst := Option.some 41, op := Go.Op.move (Go.Operand.tmp 4), type := 46, pos := "l12_store.go:158", after := #[{ on := 3, ground := Go.Ground.guard }], guard := Option.some (3, Bool.false) }) (v := ?v54) rfl (by kernel_rfl) (by kernel_rfl) (by kernel_rfl) (fun _ _ _ h => h) (Or.inl ⟨by rfl, ?hy54⟩) (by assumption) ?rest54
              case hy54 =>
                intro w9 hSw
                clear hSw
                go_simp
                first | done | with_reducible rfl
              (try simp only [Act.put]); (try simp only [List.setIfInBounds_toArray]); (try simp only [List.set_cons_succ]); (try simp only [List.set_cons_zero])
              refine wpAnyH_take (i := 5) (oi := { dst := Option.some 42, op := Go.Op.move (Go.Operand.tmp 5), type := 3, pos := "l12_store.go:158", after := #[{ on := 3, ground := Go.Ground.guard }], guard := Option.some (3, Bool.false) }) (v := ?v55) rfl (by kernel_rfl) (by kernel_rfl) (by kernel_rfl) (fun _ _ _ h => h) (Or.inl ⟨by rfl, ?hy55⟩) (by assumption) ?rest55
              case hy55 =>
                intro w9 hSw
                clear hSw
                go_simp
                first | done | with_reducible rfl
              (try simp only [Act.put]); (try simp only [List.setIfInBounds_toArray]); (try simp only [List.set_cons_succ]); (try simp only [List.set_cons_zero])
              refine wpAnyH_take (i := 6) (oi := { dst := Option.some 43, op := Go.Op.move (Go.Operand.tmp 6), type := 22, pos := "l12_store.go:158", after := #[{ on := 3, ground := Go.Ground.guard }], guard := Option.some (3, Bool.false) }) (v := ?v56) rfl (by kernel_rfl) (by kernel_rfl) (by kernel_rfl) (fun _ _ _ h => h) (Or.inl ⟨by rfl, ?hy56⟩) (by assumption) ?rest56
              case hy56 =>
                intro w9 hSw
                clear hSw
                go_simp
                first | done | with_reducible rfl
              (try simp only [Act.put]); (try simp only [List.setIfInBounds_toArray]); (try simp only [List.set_cons_succ]); (try simp only [List.set_cons_zero])
              refine wpAnyH_ready (rs := [7]) (by kernel_rfl) (by simp) ?_
              refine AllReadyH.cons (o := { dst := Option.some 44, op := Go.Op.call { callee := Go.Callee.value (Go.Operand.func 61), args := #[Go.Operand.tmp 43], argTypes := #[22] }, type := 22, pos := "l12_store.go:158", after := #[{ on := 6, ground := Go.Ground.data }, { on := 3, ground := Go.Ground.chain }, { on := 3, ground := Go.Ground.guard }], guard := Option.some (3, Bool.false) }) rfl (fun K hK => ?_) AllReadyH.nil
              go_simp
              (go_at_call 61; refine Calls.mono (HCL.out _ HB9.out) ?_; rintro e w8 ⟨v8, rfl, ho8, hb8⟩; obtain ⟨A7, c7, hv7, -, -, -⟩ := ownE_parts ho8; subst hv7; have HB8 := Lib.hid (HB9.out.trans (hb8.mono HB9.out.size)); have HK8 := Lib.hid (HK9.out.below hb8); have HO8 := Lib.hid (ownE_base ho8 HB9.out.size); clear ho8 hb8)
              (try go_wp2_with fail)
              refine hK.out _ _ (HS7.out _ HB8.out) (fun hHeld => ?_)
              clear hK K
              (try simp only [Act.put]); (try simp only [List.setIfInBounds_toArray]); (try simp only [List.set_cons_succ]); (try simp only [List.set_cons_zero])
              refine wpAnyH_ready (rs := [8]) (by kernel_rfl) (by simp) ?_
              refine AllReadyH.cons (o := { dst := Option.some 45, op := Go.Op.call { callee := Go.Callee.value (Go.Operand.func 15), args := #[Go.Operand.tmp 41, Go.Operand.tmp 42, Go.Operand.tmp 44], argTypes := #[46, 3, 22] }, type := 53, pos := "l12_store.go:158", after := #[{ on := 4, ground := Go.Ground.data }, { on := 5, ground := Go.Ground.data }, { on := 7, ground := Go.Ground.data }, { on := 7, ground := Go.Ground.chain }, { on := 3, ground := Go.Ground.guard }], guard := Option.some (3, Bool.false) }) rfl (fun K hK => ?_) AllReadyH.nil
              go_simp
              (go_at_call 15; refine Calls.mono (HFI.out _ _ _ HK8.out HO8.out) ?_; rintro e w7 ⟨rfl, B7, d7, hf7⟩; obtain ⟨cur7, hk7, hc7⟩ := HK8.out.fill hlt HLK.out HO8.out hf7; have HK7 := Lib.hid hk7; obtain ⟨Aq, Bq, cq, dq, lq⟩ := hk7.lv k hkl (Nat.lt_succ_self k); rw [← H0.out] at lq; have t1 := hk7.cells lq.c1; have t2 := hk7.cells lq.c2; have t3 := hk7.cells lq.c3; have t4 := hk7.cells lq.c4; have t5 := hk7.cells lq.c5; have HSR := Lib.hid (strs_own' lq.rests); have HB7 := Lib.hid hk7.bel; clear hf7 hk7 hc7 lq)
              (try go_wp2_with fail)
              refine hK.out _ _ (HS7.out _ HB7.out) (fun hHeld => ?_)
              clear hK K
              (try simp only [Act.put]); (try simp only [List.setIfInBounds_toArray]); (try simp only [List.set_cons_succ]); (try simp only [List.set_cons_zero])
              refine wpAnyH_take (i := 9) (oi := { dst := Option.some 46, op := Go.Op.binOp Go.BinOp.neq 53 (Go.Operand.tmp 45) (Go.Operand.const Go.Value.nilIface) 53, type := 4, pos := "l12_store.go:158", after := #[{ on := 8, ground := Go.Ground.data }, { on := 3, ground := Go.Ground.guard }], guard := Option.some (3, Bool.false) }) (v := ?v57) rfl (by kernel_rfl) (by kernel_rfl) (by kernel_rfl) (fun _ _ _ h => h) (Or.inl ⟨by rfl, ?hy57⟩) (by assumption) ?rest57
              case hy57 =>
                intro w9 hSw
                clear hSw
                go_simp
                first | done | with_reducible rfl
              (try simp only [Act.put]); (try simp only [List.setIfInBounds_toArray]); (try simp only [List.set_cons_succ]); (try simp only [List.set_cons_zero])
              refine wpAnyH_take (i := 10) (oi := { dst := Option.some 47, op := Go.Op.pick (Go.Operand.tmp 40) (Go.Operand.const (Go.Value.bool Bool.true)) (Go.Operand.tmp 46), type := 4, pos := "l12_store.go:158", after := #[{ on := 3, ground := Go.Ground.data }, { on := 9, ground := Go.Ground.data }], guard := Option.none }) (v := ?v58) rfl (by kernel_rfl) (by kernel_rfl) (by kernel_rfl) (fun _ _ _ h => h) (Or.inl ⟨by rfl, ?hy58⟩) (by assumption) ?rest58
              case hy58 =>
                intro w9 hSw
                clear hSw
                go_simp
                first | done | with_reducible rfl
              (try simp only [Act.put]); (try simp only [List.setIfInBounds_toArray]); (try simp only [List.set_cons_succ]); (try simp only [List.set_cons_zero])
              refine wpAnyH_take (i := 11) (oi := { dst := Option.some 48, op := Go.Op.move (Go.Operand.tmp 47), type := 4, pos := "l12_store.go:158", after := #[{ on := 10, ground := Go.Ground.data }, { on := 8, ground := Go.Ground.chain }], guard := Option.none }) (v := ?v59) rfl (by kernel_rfl) (by kernel_rfl) (by kernel_rfl) (fun _ _ _ h => h) (Or.inl ⟨by rfl, ?hy59⟩) (by assumption) ?rest59
              case hy59 =>
                intro w9 hSw
                clear hSw
                go_simp
                first | done | with_reducible rfl
              (try simp only [Act.put]); (try simp only [List.setIfInBounds_toArray]); (try simp only [List.set_cons_succ]); (try simp only [List.set_cons_zero])
              refine wpAnyH_take (i := 12) (oi := { dst := Option.some 49, op := Go.Op.fieldAddr 27 (Go.Operand.tmp 1) 2, type := 0, pos := "l12_store.go:158", after := #[{ on := 11, ground := Go.Ground.guard }], guard := Option.some (11, Bool.false) }) (v := ?v60) rfl (by kernel_rfl) (by kernel_rfl) (by kernel_rfl) (fun _ _ _ h => h) (Or.inl ⟨by rfl, ?hy60⟩) (by assumption) ?rest60
              case hy60 =>
                intro w9 hSw
                clear hSw
                go_simp
                first | done | with_reducible rfl
              (try simp only [Act.put]); (try simp only [List.setIfInBounds_toArray]); (try simp only [List.set_cons_succ]); (try simp only [List.set_cons_zero])
              refine wpAnyH_take (i := 13) (oi := { dst := Option.some 50, op := Go.Op.load 24 (Go.Operand.tmp 49), type := 24, pos := "l12_store.go:158", after := #[{ on := 12, ground := Go.Ground.data }, { on := 11, ground := Go.Ground.guard }], guard := Option.some (11, Bool.false) }) (v := ?v61) rfl (by kernel_rfl) (by kernel_rfl) (by kernel_rfl) (fun _ _ _ h => h) (Or.inl ⟨by rfl, ?hy61⟩) (by assumption) ?rest61
              case hy61 =>
                intro w9 hSw
                obtain ⟨f0, f1, f2, f3, f4, f5⟩ := hSw
                go_simp
                first | done | with_reducible rfl
              (try simp only [Act.put]); (try simp only [List.setIfInBounds_toArray]); (try simp only [List.set_cons_succ]); (try simp only [List.set_cons_zero])
              refine wpAnyH_take (i := 14) (oi := { dst := Option.some 51, op := Go.Op.move (Go.Operand.tmp 5), type := 3, pos := "l12_store.go:158", after := #[{ on := 11, ground := Go.Ground.guard }], guard := Option.some (11, Bool.false) }) (v := ?v62) rfl (by kernel_rfl) (by kernel_rfl) (by kernel_rfl) (fun _ _ _ h => h) (Or.inl ⟨by rfl, ?hy62⟩) (by assumption) ?rest62
              case hy62 =>
                intro w9 hSw
                clear hSw
                go_simp
                first | done | with_reducible rfl
              (try simp only [Act.put]); (try simp only [List.setIfInBounds_toArray]); (try simp only [List.set_cons_succ]); (try simp only [List.set_cons_zero])
              refine wpAnyH_take (i := 15) (oi := { dst := Option.some 52, op := Go.Op.indexAddr 24 (Go.Operand.tmp 50) (Go.Operand.tmp 51), type := 0, pos := "l12_store.go:158", after := #[{ on := 13, ground := Go.Ground.data }, { on := 14, ground := Go.Ground.data }, { on := 11, ground := Go.Ground.guard }], guard := Option.some (11, Bool.false) }) (v := ?v63) rfl (by kernel_rfl) (by kernel_rfl) (by kernel_rfl) (fun _ _ _ h => h) (Or.inl ⟨by rfl, ?hy63⟩) (by assumption) ?rest63
              case hy63 =>
                intro w9 hSw
                clear hSw
                go_simp
                first | done | with_reducible rfl
              (try simp only [Act.put]); (try simp only [List.setIfInBounds_toArray]); (try simp only [List.set_cons_succ]); (try simp only [List.set_cons_zero])
              refine wpAnyH_take (i := 16) (oi := { dst := Option.some 53, op := Go.Op.load 45 (Go.Operand.tmp 52), type := 45, pos := "l12_store.go:158", after := #[{ on := 15, ground := Go.Ground.data }, { on := 11, ground := Go.Ground.guard }], guard := Option.some (11, Bool.false) }) (v := ?v64) rfl (by kernel_rfl) (by kernel_rfl) (by kernel_rfl) (fun _ _ _ h => h) (Or.inl ⟨by rfl, ?hy64⟩) (by assumption) ?rest64
              case hy64 =>
                intro w9 hSw
                obtain ⟨f0, f1, f2, f3, f4, f5⟩ := hSw
                go_simp
                first | done | with_reducible rfl
              (try simp only [Act.put]); (try simp only [List.setIfInBounds_toArray]); (try simp only [List.set_cons_succ]); (try simp only [List.set_cons_zero])
              refine wpAnyH_take (i := 17) (oi := { dst := Option.some 54, op := Go.Op.move (Go.Operand.tmp 4), type := 46, pos := "l12_store.go:158", after := #[{ on := 11, ground := Go.Ground.guard }], guard := Option.some (11, Bool.false) }) (v := ?v65) rfl (by kernel_rfl) (by kernel_rfl) (by kernel_rfl) (fun _ _ _ h => h) (Or.inl ⟨by rfl, ?hy65⟩) (by assumption) ?rest65
              case hy65 =>
                intro w9 hSw
                clear hSw
                go_simp
                first | done | with_reducible rfl
              (try simp only [Act.put]); (try simp only [List.setIfInBounds_toArray]); (try simp only [List.set_cons_succ]); (try simp only [List.set_cons_zero])
              refine wpAnyH_take (i := 18) (oi := { dst := Option.some 55, op := Go.Op.move (Go.Operand.tmp 5), type := 3, pos := "l12_store.go:158", after := #[{ on := 11, ground := Go.Ground.guard }], guard := Option.some (11, Bool.false) }) (v := ?v66) rfl (by kernel_rfl) (by kernel_rfl) (by kernel_rfl) (fun _ _ _ h => h) (Or.inl ⟨by rfl, ?hy66⟩) (by assumption) ?rest66
              case hy66 =>
                intro w9 hSw
                clear hSw
                go_simp
                first | done | with_reducible rfl
              (try simp only [Act.put]); (try simp only [List.setIfInBounds_toArray]); (try simp only [List.set_cons_succ]); (try simp only [List.set_cons_zero])
              refine wpAnyH_take (i := 19) (oi := { dst := Option.some 56, op := Go.Op.nilCheck (Go.Operand.tmp 54), type := 0, pos := "l12_store.go:158", after := #[{ on := 17, ground := Go.Ground.data }, { on := 11, ground := Go.Ground.guard }], guard := Option.some (11, Bool.false) }) (v := ?v67) rfl (by kernel_rfl) (by kernel_rfl) (by kernel_rfl) (fun _ _ _ h => h) (Or.inl ⟨by rfl, ?hy67⟩) (by assumption) ?rest67
              case hy67 =>
                intro w9 hSw
                clear hSw
                go_simp
                first | done | with_reducible rfl
              (try simp only [Act.put]); (try simp only [List.setIfInBounds_toArray]); (try simp only [List.set_cons_succ]); (try simp only [List.set_cons_zero])
              refine wpAnyH_take (i := 20) (oi := { dst := Option.some 57, op := Go.Op.fieldAddr 51 (Go.Operand.tmp 56) 1, type := 0, pos := "l12_store.go:158", after := #[{ on := 19, ground := Go.Ground.data }, { on := 11, ground := Go.Ground.guard }], guard := Option.some (11, Bool.false) }) (v := ?v68) rfl (by kernel_rfl) (by kernel_rfl) (by kernel_rfl) (fun _ _ _ h => h) (Or.inl ⟨by rfl, ?hy68⟩) (by assumption) ?rest68
              case hy68 =>
                intro w9 hSw
                clear hSw
                go_simp
                first | done | with_reducible rfl
              (try simp only [Act.put]); (try simp only [List.setIfInBounds_toArray]); (try simp only [List.set_cons_succ]); (try simp only [List.set_cons_zero])
              refine wpAnyH_take (i := 21) (oi := { dst := Option.some 58, op := Go.Op.indexAddr 49 (Go.Operand.tmp 57) (Go.Operand.tmp 55), type := 0, pos := "l12_store.go:158", after := #[{ on := 20, ground := Go.Ground.data }, { on := 18, ground := Go.Ground.data }, { on := 11, ground := Go.Ground.guard }], guard := Option.some (11, Bool.false) }) (v := ?v69) rfl (by kernel_rfl) (by kernel_rfl) (by kernel_rfl) (fun _ _ _ h => h) (Or.inl ⟨by rfl, ?hy69⟩) (by assumption) ?rest69
              case hy69 =>
                intro w9 hSw
                clear hSw
                go_simp
                first | done | with_reducible rfl
              (try simp only [Act.put]); (try simp only [List.setIfInBounds_toArray]); (try simp only [List.set_cons_succ]); (try simp only [List.set_cons_zero])
              refine wpAnyH_take (i := 22) (oi := { dst := Option.some 59, op := Go.Op.fieldAddr 48 (Go.Operand.tmp 58) 1, type := 0, pos := "l12_store.go:158", after := #[{ on := 21, ground := Go.Ground.data }, { on := 11, ground := Go.Ground.guard }], guard := Option.some (11, Bool.false) }) (v := ?v70) rfl (by kernel_rfl) (by kernel_rfl) (by kernel_rfl) (fun _ _ _ h => h) (Or.inl ⟨by rfl, ?hy70⟩) (by assumption) ?rest70
              case hy70 =>
                intro w9 hSw
                clear hSw
                go_simp
                first | done | with_reducible rfl
              (try simp only [Act.put]); (try simp only [List.setIfInBounds_toArray]); (try simp only [List.set_cons_succ]); (try simp only [List.set_cons_zero])
              refine wpAnyH_ready (rs := [23]) (by kernel_rfl) (by simp) ?_
              refine AllReadyH.cons (o := { dst := Option.some 60, op := Go.Op.load 45 (Go.Operand.tmp 59), type := 45, pos := "l12_store.go:158", after := #[{ on := 22, ground := Go.Ground.data }, { on := 11, ground := Go.Ground.guard }], guard := Option.some (11, Bool.false) }) rfl (fun K hK => ?_) AllReadyH.nil
              go_simp
              refine hK.out _ _ (HS7.out _ HB7.out) (fun hHeld => ?_)
              clear hK K
              (try simp only [Act.put]); (try simp only [List.setIfInBounds_toArray]); (try simp only [List.set_cons_succ]); (try simp only [List.set_cons_zero])
              refine wpAnyH_ready (rs := [24]) (by kernel_rfl) (by simp) ?_
              refine AllReadyH.cons (o := { dst := Option.some 61, op := Go.Op.call { callee := Go.Callee.value (Go.Operand.func 64), args := #[Go.Operand.tmp 53, Go.Operand.tmp 60], argTypes := #[45, 45] }, type := 4, pos := "l12_store.go:158", after := #[{ on := 16, ground := Go.Ground.data }, { on := 23, ground := Go.Ground.data }, { on := 11, ground := Go.Ground.chain }, { on := 11, ground := Go.Ground.guard }], guard := Option.some (11, Bool.false) }) rfl (fun K hK => ?_) AllReadyH.nil
              go_simp
              (go_at_call 64; refine Calls.mono (HSE.out _ _ _ HB7.out HSR.out) ?_; rintro e w6 ⟨rfl, hb6⟩; have HB6 := Lib.hid (HB7.out.trans (hb6.mono HB7.out.size)); have HK6 := Lib.hid (HK7.out.below hb6); clear hb6)
              (try go_wp2_with fail)
              refine hK.out _ _ (HS7.out _ HB6.out) (fun hHeld => ?_)
              clear hK K
              (try simp only [Act.put]); (try simp only [List.setIfInBounds_toArray]); (try simp only [List.set_cons_succ]); (try simp only [List.set_cons_zero])
              refine wpAnyH_take (i := 25) (oi := { dst := Option.some 62, op := Go.Op.unOp Go.UnOp.not 4 (Go.Operand.tmp 61), type := 4, pos := "l12_store.go:158", after := #[{ on := 24, ground := Go.Ground.data }, { on := 11, ground := Go.Ground.guard }], guard := Option.some (11, Bool.false) }) (v := ?v71) rfl (by kernel_rfl) (by kernel_rfl) (by kernel_rfl) (fun _ _ _ h => h) (Or.inl ⟨by rfl, ?hy71⟩) (by assumption) ?rest71
              case hy71 =>
                intro w9 hSw
                clear hSw
                go_simp
                first | done | with_reducible rfl
              (try simp only [Act.put]); (try simp only [List.setIfInBounds_toArray]); (try simp only [List.set_cons_succ]); (try simp only [List.set_cons_zero])
              refine wpAnyH_take (i := 26) (oi := { dst := Option.some 63, op := Go.Op.pick (Go.Operand.tmp 48) (Go.Operand.const (Go.Value.bool Bool.true)) (Go.Operand.tmp 62), type := 4, pos := "l12_store.go:158", after := #[{ on := 11, ground := Go.Ground.data }, { on := 25, ground := Go.Ground.data }], guard := Option.none }) (v := ?v72) rfl (by kernel_rfl) (by kernel_rfl) (by kernel_rfl) (fun _ _ _ h => h) (Or.inl ⟨by rfl, ?hy72⟩) (by assumption) ?rest72
              case hy72 =>
                intro w9 hSw
                clear hSw
                go_simp
                first | done | with_reducible rfl
              (try simp only [Act.put]); (try simp only [List.setIfInBounds_toArray]); (try simp only [List.set_cons_succ]); (try simp only [List.set_cons_zero])
              refine wpAnyH_done (by kernel_rfl) ?_ _
              go_wp2
              go_roundw
              case rel =>
                refine ⟨k + 1, cur7, by omega, by go_num, HK6, Lib.hid (fun j h h2 hj => ?_)⟩
                by_cases e : j = k
                · subst e; rw [← H0.out, ← HX.out, HLP.out]; rfl
                · exact HLV.out j h h2 (by omega)
              case measure => simp [intOf]; omega
      · have hke : k = 3 := by omega
        subst hke
        obtain ⟨l0, l1, l2, hls⟩ : ∃ l0 l1 l2, levels = [l0, l1, l2] := by
          match levels, hg1 with
          | [a, b, c], _ => exact ⟨a, b, c, rfl⟩
        have hk3 : TreeK W0 wr gt cur A8 A9 k8 k9 top [l0, l1, l2] keep time times 3 := by rw [← hls]; exact HK.out
        obtain ⟨A1', A2', A3', B0', B1', B2', c1', c2', c3', d0', d1', d2', tm⟩ := hk3.tree
        have hlv := HLV.out
        have hall : ∀ i (h : i < levels.length) (h2 : i < sieves.length), lvlB keep i levels[i] sieves[i] = true := fun i h h2 => hlv i h h2 (by omega)
        have hrun : ∀ i (h : i < levels.length), runB levels[i] = true := fun i h => by
          have := hall i h (by omega)
          unfold lvlB at this
          rw [Bool.and_eq_true] at this
          exact this.1
        have r0 : runB l0 = true := by have := hrun 0 (by omega); simpa [hls] using this
        have r1 : runB l1 = true := by have := hrun 1 (by omega); simpa [hls] using this
        have r2 : runB l2 = true := by have := hrun 2 (by omega); simpa [hls] using this
        have HV := Lib.hid (validI wr gt _ _ _ _ _ _ _ _ _ _ _ _ _ _ _ _ _ tm r0 r1 r2 (fun e he => by have := HSM.out.1.2 e he; unfold maxLen; omega) (show times.length ≤ maxLen by have := HSM.out.2.2.2; unfold maxLen; simp at this; omega))
        have HST := Lib.hid (show ∀ b : Bool, (b = true ↔ TreeP ⟨top, l0, l1, l2, sfOf l0 keep, sfOf l1 keep, sfOf l2 keep, keep, time, times⟩) → (b = true ↔ StP ⟨top, levels, sieves, keep, time, times⟩) from fun b hb => by
          have ht : treeOf ⟨top, levels, sieves, keep, time, times⟩ (sfOf l0 keep) (sfOf l1 keep) (sfOf l2 keep) = ⟨top, l0, l1, l2, sfOf l0 keep, sfOf l1 keep, sfOf l2 keep, keep, time, times⟩ := by unfold treeOf; simp [hls]
          rw [stP_iff (sfOf l0 keep) (sfOf l1 keep) (sfOf l2 keep) hg1 hg2, ht]
          exact hb.trans ⟨fun h => ⟨hall, h⟩, fun h => h.2⟩)
        have hnl : ¬ ((3 : Nat) : Int) < (levels.length : Int) := by omega
        have HBE := Lib.hid HK.out.bel
        clear hg1 hg2 hls hk3 tm hlv hall hrun r0 r1 r2
        go_wp2_with fail
        go_at_call 65
        refine Calls.mono HV.out ?_
        rintro e w5 ⟨b, rfl, hbb, hb5⟩
        have HBB := Lib.hid hbb
        have HB5 := Lib.hid (HBE.out.trans (hb5.mono HBE.out.size))
        clear hbb hb5
        go_wp2
        go_ret2
        exact ⟨_, b, rfl, HST.out b HBB.out, HB.out.trans (HB5.out.mono HB.out.size)⟩

end Go.Proofs.YtfhpkcamigkmdaaDoor.W
