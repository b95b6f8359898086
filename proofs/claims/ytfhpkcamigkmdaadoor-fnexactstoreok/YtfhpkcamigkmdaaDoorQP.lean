/-
  The program's fill: a run becomes a level of a tree, with its filter.
-/
import Derived.Test.YtfhpkcamigkmdaaDoorZAM
import Derived.Test.YtfhpkcamigkmdaaDoorZAP
import Derived.Test.YtfhpkcamigkmdaaDoorQ4
import Derived.Deep.CutRange
import Derived.Deep.RegionHeld
import Derived.StillTailTactics
namespace Go.Proofs.YtfhpkcamigkmdaaDoor.W
open Go.RowKit K R

/-- six cells of a tree's box: level n -/
def set6 (cur : Array Value) (n : Nat) (v0 v1 v2 v3 v4 v5 : Value) : Array Value := (((((cur.setIfInBounds (1 + n * 6) v0).setIfInBounds (1 + n * 6 + 1) v1).setIfInBounds (1 + n * 6 + 2) v2).setIfInBounds (1 + n * 6 + 3) v3).setIfInBounds (1 + n * 6 + 4) v4).setIfInBounds (1 + n * 6 + 5) v5
/-- the error of the program's that says that there is no room: it is not nil -/
def NoRoom (w : World) : Prop := ∃ te pe, w.cell? ⟨0, 0, none⟩ = some (.iface te pe)
theorem NoRoom.below {w w' : World} (h : NoRoom w) (hb : Below w.heap.size w w') : NoRoom w' := by
  obtain ⟨te, pe, hc⟩ := h
  exact ⟨te, pe, (hb.cell (block_lt_of_cell hc)).trans hc⟩
/-- a level was filled -/
structure Filled (w : World) (g n : Nat) (cur : Array Value) (run : Value) (L M_ F : ByteArray) (SR : List ByteArray) (K : Int) (w' : World) (v : Value) : Prop where
  row : w'.heap[g]? = some (.cells (set6 cur n run (.string L) (.string M_) (.string F) v (.int .i64 K)) 51 (0, 0))
  own : Own w' w.heap.size v SR
  grown : w.grownBy w' (some g)
/-- what fill does -/
def FillA (w : World) (g n : Nat) (cur : Array Value) (run : Value) (ok : Bool) (L M_ F : ByteArray) (SR : List ByteArray) (K : Int) (e : Ending) (w' : World) : Prop :=
  (ok = true ∧ e = .returned .nilIface ∧ ∃ v, Filled w g n cur run L M_ F SR K w' v) ∨ (ok = false ∧ (∃ te pe, e = .returned (.iface te pe)) ∧ Below w.heap.size w w')
theorem box6 {W : World} {g n : Nat} {cur : Array Value} {t : TypeId} (h : W.heap[g]? = some (.cells cur t (0, 0))) (v0 v1 v2 v3 v4 v5 : Value) :
    ((((((W.setCell ⟨g, 1 + n * 6, none⟩ v0).setCell ⟨g, 1 + n * 6 + 1, none⟩ v1).setCell ⟨g, 1 + n * 6 + 2, none⟩ v2).setCell ⟨g, 1 + n * 6 + 3, none⟩ v3).setCell ⟨g, 1 + n * 6 + 4, none⟩ v4).setCell ⟨g, 1 + n * 6 + 5, none⟩ v5).heap[g]? = some (.cells (set6 cur n v0 v1 v2 v3 v4 v5) t (0, 0)) :=
  heap_setCell_same _ _ _ _ _ _ (heap_setCell_same _ _ _ _ _ _ (heap_setCell_same _ _ _ _ _ _ (heap_setCell_same _ _ _ _ _ _ (heap_setCell_same _ _ _ _ _ _ (heap_setCell_same _ _ _ _ _ _ h)))))
theorem cell_in {W : World} {g : Nat} {cur : Array Value} {t : TypeId} (h : W.heap[g]? = some (.cells cur t (0, 0))) {o : Nat} (ho : o < cur.size) : ∃ v, W.cell? ⟨g, o, none⟩ = some v := by
  rw [cell_of_row _ _ _ _ _ _ h]
  exact ⟨cur[o], Array.getElem?_eq_getElem ho⟩

theorem grownOf {w w' : World} (h : Below w.heap.size w w') (g : Nat) : w.grownBy w' (some g) := ⟨h.os, h.tape, h.output, h.size, fun k hk _ => h.block k hk⟩

theorem filled_drew {w WF : World} {g n : Nat} {cur : Array Value} {run : Value} {L M_ F : ByteArray} {SR : List ByteArray} {K : Int} {v : Value} (h : Filled w g n cur run L M_ F SR K WF v) : Filled w g n cur run L M_ F SR K WF.drew v :=
  ⟨h.row, h.own, ⟨h.grown.os, h.grown.tape, h.grown.output, h.grown.size, h.grown.block⟩⟩

set_option maxHeartbeats 8000000 in
set_option maxRecDepth 100000 in
theorem fillI (w : World) (g n c : Nat) (A : Option Addr) (r : List En) (cur : Array Value) (keep : Int) (hbox : w.heap[g]? = some (.cells cur 51 (0, 0))) (hcur : cur.size = 22) (hkeep : w.cell? ⟨g, 19, none⟩ = some (.int .i64 keep)) (hn3 : n < 3) (hE : NoRoom w)
    (hr : Ents w w.heap.size A r.length r) (hrc : r.length ≤ 1048576) (hf : ∀ e ∈ r, e.key.size ≤ maxLen) :
    Calls Tryd.prog 15 #[.pointer (some ⟨g, 0, none⟩), .int .i64 (n : Nat), .slice A r.length c] w
      (FillA w g n cur (.slice A r.length c) (svYes (keysO r) keep && decide (r.length ≤ 8 * (n + 1))) (svL (keysO r) keep) (svM (keysO r) keep) (svF (keysO r) keep) (svR (keysO r) keep) (svK (keysO r) keep)) := by
  have hgl : g < w.heap.size := (Array.getElem?_eq_some_iff.1 hbox).1
  obtain ⟨ks, hks⟩ : ∃ ks, ks = keysO r := ⟨_, rfl⟩
  rw [← hks]
  obtain ⟨L, hL⟩ : ∃ x, x = svL ks keep := ⟨_, rfl⟩
  obtain ⟨M_, hM⟩ : ∃ x, x = svM ks keep := ⟨_, rfl⟩
  obtain ⟨F, hF⟩ : ∃ x, x = svF ks keep := ⟨_, rfl⟩
  obtain ⟨SR, hSR⟩ : ∃ x, x = svR ks keep := ⟨_, rfl⟩
  obtain ⟨K, hK⟩ : ∃ x, x = svK ks keep := ⟨_, rfl⟩
  obtain ⟨y, hy⟩ : ∃ x, x = svYes ks keep := ⟨_, rfl⟩
  have hkl : ∀ s ∈ ks, s.size ≤ maxLen := fun s hs => by
    rw [hks] at hs
    unfold keysO at hs
    split at hs
    · obtain ⟨e, he, rfl⟩ := mem_keysL.mp hs
      exact hf e he
    · cases hs
  have HKY := Lib.hid (show ∀ W, Below w.heap.size w W → Calls Tryd.prog 43 #[.slice A r.length c] W fun e w' => ∃ A c, e = .returned (.slice A ks.length c) ∧ ks.length ≤ c ∧ c ≤ maxLen ∧ Strs w' w'.heap.size A ks.length ks ∧ Below W.heap.size W w' from fun W hW => by
    refine (runKeysI W w.heap.size r.length c A r (hr.below hW (Nat.le_refl _)) hW.size (by omega) hf).mono ?_
    rintro e w' ⟨v, rfl, ho, hb'⟩
    rw [← hks] at ho
    obtain ⟨A, c, rfl, p1, p2, p3⟩ := ho.parts
    exact ⟨A, c, rfl, p1, p2, p3, hb'⟩)
  have HSV := Lib.hid (show ∀ (W : World) (A : Option Addr) (c : Nat), Strs W W.heap.size A ks.length ks → ks.length ≤ c → c ≤ maxLen → Calls Tryd.prog 42 #[.slice A ks.length c, .int .i64 keep] W (OfF W L M_ F SR K y) from fun W A c g1 g2 g3 => by
    rw [hL, hM, hF, hSR, hK, hy]
    exact (ofI W ks.length c A ks keep g1 g2 g3 hkl).mono fun _ _ h => of_fields h)
  rw [← hL, ← hM, ← hF, ← hSR, ← hK, ← hy]
  clear hL hM hF hSR hK hy hks hkl
  have HSS := Lib.hid (show ∀ W, Below w.heap.size w W → (fun W : World => W.cell? ⟨g, 19, none⟩ = some (.int .i64 keep)) W from fun W hW => (hW.cell (p := ⟨g, 19, none⟩) hgl).trans hkeep)
  have HR0 := Lib.hid (Below.refl w.heap.size w)
  have HE := Lib.hid hE
  have HBOX := Lib.hid hbox
  have z0 : (0 : Int) ≤ (n : Int) := by omega
  have z1 : (n : Int) < 3 := by omega
  have HMX := Lib.hid (show ∀ W : World, Calls Tryd.prog 44 #[.int .i64 (n : Nat)] W fun e w' => e = .returned (.int .i64 (8 * ((n : Int) + 1))) ∧ W = w' from fun W => maxI n W (by omega) (by omega))
  clear hr hf hkeep hbox hE
  go_enter Tryd.func15, Tryd.ntmps15
  go_upto_region 1 with fail
  go_cut [7, 8] from 9 to 18 (fun s7 s8 wx => ∃ bx v, s7 = .pointer (some ⟨bx, 0, none⟩) ∧ s8 = .bool y ∧ Hid (SvBox w wx bx v L M_ F SR K))
  case first =>
    refine wp_region_held_drew (S := (fun W : World => W.cell? ⟨g, 19, none⟩ = some (.int .i64 keep))) (by kernel_rfl) (HSS.out _ (by exact bel2 HR0.out (by rfl) (by rfl) (by rfl) (by rfl))) (fun hHeld => ?_)
    refine wpAnyH_take (i := 0) (oi := { dst := Option.some 10, op := Go.Op.move (Go.Operand.tmp 2), type := 22, pos := "l12_store.go:235", after := #[], guard := Option.none }) (v := ?v13) rfl (by kernel_rfl) (by kernel_rfl) (by kernel_rfl) (fun _ _ _ h => h) (Or.inl ⟨by rfl, ?hy13⟩) (by assumption) ?rest13
    case hy13 =>
      intro w9 hSw
      clear hSw
      go_simp
      first | done | with_reducible rfl
    (try simp only [Act.put]); (try simp only [List.setIfInBounds_toArray]); (try simp only [List.set_cons_succ]); (try simp only [List.set_cons_zero])
    refine wpAnyH_take (i := 2) (oi := { dst := Option.some 12, op := Go.Op.move (Go.Operand.tmp 0), type := 46, pos := "l12_store.go:235", after := #[], guard := Option.none }) (v := ?v14) rfl (by kernel_rfl) (by kernel_rfl) (by kernel_rfl) (fun _ _ _ h => h) (Or.inl ⟨by rfl, ?hy14⟩) (by assumption) ?rest14
    case hy14 =>
      intro w9 hSw
      clear hSw
      go_simp
      first | done | with_reducible rfl
    (try simp only [Act.put]); (try simp only [List.setIfInBounds_toArray]); (try simp only [List.set_cons_succ]); (try simp only [List.set_cons_zero])
    refine wpAnyH_take (i := 3) (oi := { dst := Option.some 13, op := Go.Op.nilCheck (Go.Operand.tmp 12), type := 0, pos := "l12_store.go:235", after := #[{ on := 2, ground := Go.Ground.data }], guard := Option.none }) (v := ?v15) rfl (by kernel_rfl) (by kernel_rfl) (by kernel_rfl) (fun _ _ _ h => h) (Or.inl ⟨by rfl, ?hy15⟩) (by assumption) ?rest15
    case hy15 =>
      intro w9 hSw
      clear hSw
      go_simp
      first | done | with_reducible rfl
    (try simp only [Act.put]); (try simp only [List.setIfInBounds_toArray]); (try simp only [List.set_cons_succ]); (try simp only [List.set_cons_zero])
    refine wpAnyH_take (i := 4) (oi := { dst := Option.some 14, op := Go.Op.fieldAddr 51 (Go.Operand.tmp 13) 2, type := 0, pos := "l12_store.go:235", after := #[{ on := 3, ground := Go.Ground.data }], guard := Option.none }) (v := ?v16) rfl (by kernel_rfl) (by kernel_rfl) (by kernel_rfl) (fun _ _ _ h => h) (Or.inl ⟨by rfl, ?hy16⟩) (by assumption) ?rest16
    case hy16 =>
      intro w9 hSw
      clear hSw
      go_simp
      first | done | with_reducible rfl
    (try simp only [Act.put]); (try simp only [List.setIfInBounds_toArray]); (try simp only [List.set_cons_succ]); (try simp only [List.set_cons_zero])
    refine wpAnyH_take (i := 5) (oi := { dst := Option.some 15, op := Go.Op.load 3 (Go.Operand.tmp 14), type := 3, pos := "l12_store.go:235", after := #[{ on := 4, ground := Go.Ground.data }], guard := Option.none }) (v := ?v17) rfl (by kernel_rfl) (by kernel_rfl) (by kernel_rfl) (fun _ _ _ h => h) (Or.inl ⟨by rfl, ?hy17⟩) (by assumption) ?rest17
    case hy17 =>
      intro w9 hSw
      obtain f0 := hSw
      go_simp
      first | done | with_reducible rfl
    (try simp only [Act.put]); (try simp only [List.setIfInBounds_toArray]); (try simp only [List.set_cons_succ]); (try simp only [List.set_cons_zero])
    refine wpAnyH_ready (rs := [1, 10]) (by kernel_rfl) (by simp) ?_
    refine AllReadyH.cons (o := { dst := Option.some 11, op := Go.Op.call { callee := Go.Callee.value (Go.Operand.func 43), args := #[Go.Operand.tmp 10], argTypes := #[22] }, type := 43, pos := "l12_store.go:235", after := #[{ on := 0, ground := Go.Ground.data }], guard := Option.none }) rfl (fun K hK => ?_) (AllReadyH.cons (o := { dst := Option.some 7, op := Go.Op.alloc 45, type := 0, pos := "l12_store.go:235", after := #[], guard := Option.none }) rfl (fun K hK => ?_) AllReadyH.nil)
    · go_simp
      go_at_call 43
      refine Calls.mono (HKY.out _ (by exact bel2 HR0.out (by rfl) (by rfl) (by rfl) (by rfl))) ?_
      rintro e w9 ⟨A9, k9, rfl, hc9, hm9, hs9, hb9⟩
      have HB9 := Lib.hid (Below.trans (by exact bel2 HR0.out (by rfl) (by rfl) (by rfl) (by rfl)) (hb9.mono (Below.size (by exact bel2 HR0.out (by rfl) (by rfl) (by rfl) (by rfl)))))
      have HS9 := Lib.hid hs9
      clear hb9 hs9
      (try go_wp2_with fail)
      refine hK.out _ _ (HSS.out _ HB9.out) (fun hHeld => ?_)
      clear hK K
      (try simp only [Act.put]); (try simp only [List.setIfInBounds_toArray]); (try simp only [List.set_cons_succ]); (try simp only [List.set_cons_zero])
      refine wpAnyH_ready (rs := [6, 10]) (by kernel_rfl) (by simp) ?_
      refine AllReadyH.cons (o := { dst := Option.some 16, op := Go.Op.call { callee := Go.Callee.value (Go.Operand.func 42), args := #[Go.Operand.tmp 11, Go.Operand.tmp 15], argTypes := #[43, 3] }, type := 77, pos := "l12_store.go:235", after := #[{ on := 1, ground := Go.Ground.data }, { on := 5, ground := Go.Ground.data }, { on := 1, ground := Go.Ground.chain }], guard := Option.none }) rfl (fun K hK => ?_) (AllReadyH.cons (o := { dst := Option.some 7, op := Go.Op.alloc 45, type := 0, pos := "l12_store.go:235", after := #[], guard := Option.none }) rfl (fun K hK => ?_) AllReadyH.nil)
      · go_simp
        go_at_call 42
        refine Calls.mono (HSV.out _ _ _ HS9.out hc9 hm9) ?_
        rintro e w8 ⟨A8, k8, rfl, ho8, hb8⟩
        have HB8 := Lib.hid (HB9.out.trans (hb8.mono HB9.out.size))
        have HO8 := Lib.hid (ho8.base HB9.out.size)
        clear ho8 hb8
        (try go_wp2_with fail)
        refine hK.out _ _ (HSS.out _ HB8.out) (fun hHeld => ?_)
        clear hK K
        (try simp only [Act.put]); (try simp only [List.setIfInBounds_toArray]); (try simp only [List.set_cons_succ]); (try simp only [List.set_cons_zero])
        refine wpAnyH_take (i := 7) (oi := { dst := Option.some 9, op := Go.Op.move (Go.Operand.tmp 16), type := 77, pos := "l12_store.go:235", after := #[{ on := 6, ground := Go.Ground.data }], guard := Option.none }) (v := ?v1) rfl (by kernel_rfl) (by kernel_rfl) (by kernel_rfl) (fun _ _ _ h => h) (Or.inl ⟨by rfl, ?hy1⟩) (by assumption) ?rest1
        case hy1 =>
          intro w9 hSw
          clear hSw
          go_simp
          first | done | with_reducible rfl
        (try simp only [Act.put]); (try simp only [List.setIfInBounds_toArray]); (try simp only [List.set_cons_succ]); (try simp only [List.set_cons_zero])
        refine wpAnyH_take (i := 8) (oi := { dst := Option.some 17, op := Go.Op.extract (Go.Operand.tmp 9) 0, type := 45, pos := "l12_store.go:235", after := #[{ on := 7, ground := Go.Ground.data }], guard := Option.none }) (v := ?v2) rfl (by kernel_rfl) (by kernel_rfl) (by kernel_rfl) (fun _ _ _ h => h) (Or.inl ⟨by rfl, ?hy2⟩) (by assumption) ?rest2
        case hy2 =>
          intro w9 hSw
          clear hSw
          go_simp
          first | done | with_reducible rfl
        (try simp only [Act.put]); (try simp only [List.setIfInBounds_toArray]); (try simp only [List.set_cons_succ]); (try simp only [List.set_cons_zero])
        refine wpAnyH_take (i := 9) (oi := { dst := Option.some 18, op := Go.Op.extract (Go.Operand.tmp 9) 1, type := 4, pos := "l12_store.go:235", after := #[{ on := 7, ground := Go.Ground.data }, { on := 11, ground := Go.Ground.gcOnly Go.Departure.lateStores }], guard := Option.none }) (v := ?v3) rfl (by kernel_rfl) (by kernel_rfl) (by kernel_rfl) (fun _ _ _ h => h) (Or.inl ⟨by rfl, ?hy3⟩) (by assumption) ?rest3
        case hy3 =>
          intro w9 hSw
          clear hSw
          go_simp
          first | done | with_reducible rfl
        (try simp only [Act.put]); (try simp only [List.setIfInBounds_toArray]); (try simp only [List.set_cons_succ]); (try simp only [List.set_cons_zero])
        have HBA := Lib.hid (HB8.out.alloc HB8.out.size (.cells #[.string ⟨#[]⟩, .string ⟨#[]⟩, .string ⟨#[]⟩, .slice none 0 0, .int .i64 0] 45))
        refine wpAnyH_ready (rs := [10]) (by kernel_rfl) (by simp) ?_
        refine AllReadyH.cons (o := { dst := Option.some 7, op := Go.Op.alloc 45, type := 0, pos := "l12_store.go:235", after := #[], guard := Option.none }) rfl (fun K hK => ?_) AllReadyH.nil
        go_simp
        refine hK.out _ _ (HSS.out _ HBA.out) (fun hHeld => ?_)
        clear hK K
        (try simp only [Act.put]); (try simp only [List.setIfInBounds_toArray]); (try simp only [List.set_cons_succ]); (try simp only [List.set_cons_zero])
        have HBC := Lib.hid (svbox_new HB8.out HO8.out L M_ F K)
        refine wpAnyH_ready (rs := [11]) (by kernel_rfl) (by simp) ?_
        refine AllReadyH.cons (o := { dst := Option.none, op := Go.Op.store 45 (Go.Operand.tmp 7) (Go.Operand.tmp 17), type := 0, pos := "l12_store.go:235", after := #[{ on := 10, ground := Go.Ground.data }, { on := 8, ground := Go.Ground.data }, { on := 6, ground := Go.Ground.chain }, { on := 0, ground := Go.Ground.phase }, { on := 1, ground := Go.Ground.phase }, { on := 2, ground := Go.Ground.phase }, { on := 3, ground := Go.Ground.phase }, { on := 4, ground := Go.Ground.phase }, { on := 5, ground := Go.Ground.phase }, { on := 6, ground := Go.Ground.phase }, { on := 7, ground := Go.Ground.phase }, { on := 8, ground := Go.Ground.phase }, { on := 9, ground := Go.Ground.textOnly Go.Departure.lateStores }, { on := 10, ground := Go.Ground.phase }], guard := Option.none }) rfl (fun K hK => ?_) AllReadyH.nil
        go_simp
        refine hK.out _ _ (HSS.out _ HBC.out.bel) (fun hHeld => ?_)
        clear hK K
        (try simp only [Act.put]); (try simp only [List.setIfInBounds_toArray]); (try simp only [List.set_cons_succ]); (try simp only [List.set_cons_zero])
        refine wpAnyH_take (i := 12) (oi := { dst := Option.some 8, op := Go.Op.assign (Go.Operand.tmp 18), type := 4, pos := "l12_store.go:235", after := #[{ on := 9, ground := Go.Ground.data }, { on := 11, ground := Go.Ground.chain }, { on := 0, ground := Go.Ground.phase }, { on := 1, ground := Go.Ground.phase }, { on := 2, ground := Go.Ground.phase }, { on := 3, ground := Go.Ground.phase }, { on := 4, ground := Go.Ground.phase }, { on := 5, ground := Go.Ground.phase }, { on := 6, ground := Go.Ground.phase }, { on := 7, ground := Go.Ground.phase }, { on := 8, ground := Go.Ground.phase }, { on := 9, ground := Go.Ground.phase }, { on := 10, ground := Go.Ground.phase }, { on := 11, ground := Go.Ground.phase }], guard := Option.none }) (v := ?v4) rfl (by kernel_rfl) (by kernel_rfl) (by kernel_rfl) (fun _ _ _ h => h) (Or.inl ⟨by rfl, ?hy4⟩) (by assumption) ?rest4
        case hy4 =>
          intro w9 hSw
          clear hSw
          go_simp
          first | done | with_reducible rfl
        (try simp only [Act.put]); (try simp only [List.setIfInBounds_toArray]); (try simp only [List.set_cons_succ]); (try simp only [List.set_cons_zero])
        refine wpAnyH_done (by kernel_rfl) ?_ _
        go_wp2_with fail
        go_meet
        exact ⟨_, _, rfl, rfl, HBC⟩
      · have HBA := Lib.hid (HB9.out.alloc HB9.out.size (.cells #[.string ⟨#[]⟩, .string ⟨#[]⟩, .string ⟨#[]⟩, .slice none 0 0, .int .i64 0] 45))
        go_simp
        refine hK.out _ _ (HSS.out _ HBA.out) (fun hHeld => ?_)
        clear hK K
        (try simp only [Act.put]); (try simp only [List.setIfInBounds_toArray]); (try simp only [List.set_cons_succ]); (try simp only [List.set_cons_zero])
        refine wpAnyH_ready (rs := [6]) (by kernel_rfl) (by simp) ?_
        refine AllReadyH.cons (o := { dst := Option.some 16, op := Go.Op.call { callee := Go.Callee.value (Go.Operand.func 42), args := #[Go.Operand.tmp 11, Go.Operand.tmp 15], argTypes := #[43, 3] }, type := 77, pos := "l12_store.go:235", after := #[{ on := 1, ground := Go.Ground.data }, { on := 5, ground := Go.Ground.data }, { on := 1, ground := Go.Ground.chain }], guard := Option.none }) rfl (fun K hK => ?_) AllReadyH.nil
        go_simp
        go_at_call 42
        refine Calls.mono (HSV.out _ _ _ (strs_alloc HS9.out _) hc9 hm9) ?_
        rintro e w8 ⟨A8, k8, rfl, ho8, hb8⟩
        have HB8 := Lib.hid (HBA.out.trans (hb8.mono HBA.out.size))
        have HO8 := Lib.hid ho8
        have HX8 := Lib.hid ((hb8.block _ (by simp)).trans (heap_alloc_new w9 _))
        clear ho8 hb8
        (try go_wp2_with fail)
        refine hK.out _ _ (HSS.out _ HB8.out) (fun hHeld => ?_)
        clear hK K
        (try simp only [Act.put]); (try simp only [List.setIfInBounds_toArray]); (try simp only [List.set_cons_succ]); (try simp only [List.set_cons_zero])
        refine wpAnyH_take (i := 7) (oi := { dst := Option.some 9, op := Go.Op.move (Go.Operand.tmp 16), type := 77, pos := "l12_store.go:235", after := #[{ on := 6, ground := Go.Ground.data }], guard := Option.none }) (v := ?v5) rfl (by kernel_rfl) (by kernel_rfl) (by kernel_rfl) (fun _ _ _ h => h) (Or.inl ⟨by rfl, ?hy5⟩) (by assumption) ?rest5
        case hy5 =>
          intro w9 hSw
          clear hSw
          go_simp
          first | done | with_reducible rfl
        (try simp only [Act.put]); (try simp only [List.setIfInBounds_toArray]); (try simp only [List.set_cons_succ]); (try simp only [List.set_cons_zero])
        refine wpAnyH_take (i := 8) (oi := { dst := Option.some 17, op := Go.Op.extract (Go.Operand.tmp 9) 0, type := 45, pos := "l12_store.go:235", after := #[{ on := 7, ground := Go.Ground.data }], guard := Option.none }) (v := ?v6) rfl (by kernel_rfl) (by kernel_rfl) (by kernel_rfl) (fun _ _ _ h => h) (Or.inl ⟨by rfl, ?hy6⟩) (by assumption) ?rest6
        case hy6 =>
          intro w9 hSw
          clear hSw
          go_simp
          first | done | with_reducible rfl
        (try simp only [Act.put]); (try simp only [List.setIfInBounds_toArray]); (try simp only [List.set_cons_succ]); (try simp only [List.set_cons_zero])
        refine wpAnyH_take (i := 9) (oi := { dst := Option.some 18, op := Go.Op.extract (Go.Operand.tmp 9) 1, type := 4, pos := "l12_store.go:235", after := #[{ on := 7, ground := Go.Ground.data }, { on := 11, ground := Go.Ground.gcOnly Go.Departure.lateStores }], guard := Option.none }) (v := ?v7) rfl (by kernel_rfl) (by kernel_rfl) (by kernel_rfl) (fun _ _ _ h => h) (Or.inl ⟨by rfl, ?hy7⟩) (by assumption) ?rest7
        case hy7 =>
          intro w9 hSw
          clear hSw
          go_simp
          first | done | with_reducible rfl
        (try simp only [Act.put]); (try simp only [List.setIfInBounds_toArray]); (try simp only [List.set_cons_succ]); (try simp only [List.set_cons_zero])
        have HBC := Lib.hid (svbox_set HB8.out HO8.out HX8.out HB9.out.size (by simp) L M_ F K)
        obtain ⟨q0, q1, q2, q3, q4⟩ := sv_row HX8.out
        have r0 := frozen_of_row _ _ 0 _ _ HX8.out
        have r1 := frozen_of_row _ _ 1 _ _ HX8.out
        have r2 := frozen_of_row _ _ 2 _ _ HX8.out
        have r3 := frozen_of_row _ _ 3 _ _ HX8.out
        have r4 := frozen_of_row _ _ 4 _ _ HX8.out
        refine wpAnyH_ready (rs := [11]) (by kernel_rfl) (by simp) ?_
        refine AllReadyH.cons (o := { dst := Option.none, op := Go.Op.store 45 (Go.Operand.tmp 7) (Go.Operand.tmp 17), type := 0, pos := "l12_store.go:235", after := #[{ on := 10, ground := Go.Ground.data }, { on := 8, ground := Go.Ground.data }, { on := 6, ground := Go.Ground.chain }, { on := 0, ground := Go.Ground.phase }, { on := 1, ground := Go.Ground.phase }, { on := 2, ground := Go.Ground.phase }, { on := 3, ground := Go.Ground.phase }, { on := 4, ground := Go.Ground.phase }, { on := 5, ground := Go.Ground.phase }, { on := 6, ground := Go.Ground.phase }, { on := 7, ground := Go.Ground.phase }, { on := 8, ground := Go.Ground.phase }, { on := 9, ground := Go.Ground.textOnly Go.Departure.lateStores }, { on := 10, ground := Go.Ground.phase }], guard := Option.none }) rfl (fun K hK => ?_) AllReadyH.nil
        go_simp
        refine hK.out _ _ (HSS.out _ HBC.out.bel) (fun hHeld => ?_)
        clear hK K
        (try simp only [Act.put]); (try simp only [List.setIfInBounds_toArray]); (try simp only [List.set_cons_succ]); (try simp only [List.set_cons_zero])
        refine wpAnyH_take (i := 12) (oi := { dst := Option.some 8, op := Go.Op.assign (Go.Operand.tmp 18), type := 4, pos := "l12_store.go:235", after := #[{ on := 9, ground := Go.Ground.data }, { on := 11, ground := Go.Ground.chain }, { on := 0, ground := Go.Ground.phase }, { on := 1, ground := Go.Ground.phase }, { on := 2, ground := Go.Ground.phase }, { on := 3, ground := Go.Ground.phase }, { on := 4, ground := Go.Ground.phase }, { on := 5, ground := Go.Ground.phase }, { on := 6, ground := Go.Ground.phase }, { on := 7, ground := Go.Ground.phase }, { on := 8, ground := Go.Ground.phase }, { on := 9, ground := Go.Ground.phase }, { on := 10, ground := Go.Ground.phase }, { on := 11, ground := Go.Ground.phase }], guard := Option.none }) (v := ?v8) rfl (by kernel_rfl) (by kernel_rfl) (by kernel_rfl) (fun _ _ _ h => h) (Or.inl ⟨by rfl, ?hy8⟩) (by assumption) ?rest8
        case hy8 =>
          intro w9 hSw
          clear hSw
          go_simp
          first | done | with_reducible rfl
        (try simp only [Act.put]); (try simp only [List.setIfInBounds_toArray]); (try simp only [List.set_cons_succ]); (try simp only [List.set_cons_zero])
        refine wpAnyH_done (by kernel_rfl) ?_ _
        go_wp2_with fail
        go_meet
        exact ⟨_, _, rfl, rfl, HBC⟩
    · have HBA := Lib.hid ((Below.refl w.heap.size w).alloc (Nat.le_refl _) (.cells #[.string ⟨#[]⟩, .string ⟨#[]⟩, .string ⟨#[]⟩, .slice none 0 0, .int .i64 0] 45))
      have HZA := Lib.hid (heap_alloc_new w (.cells #[.string ⟨#[]⟩, .string ⟨#[]⟩, .string ⟨#[]⟩, .slice none 0 0, .int .i64 0] 45))
      go_simp
      refine hK.out _ _ (HSS.out _ (by exact bel2 HBA.out (by rfl) (by rfl) (by rfl) (by rfl))) (fun hHeld => ?_)
      clear hK K
      (try simp only [Act.put]); (try simp only [List.setIfInBounds_toArray]); (try simp only [List.set_cons_succ]); (try simp only [List.set_cons_zero])
      refine wpAnyH_ready (rs := [1]) (by kernel_rfl) (by simp) ?_
      refine AllReadyH.cons (o := { dst := Option.some 11, op := Go.Op.call { callee := Go.Callee.value (Go.Operand.func 43), args := #[Go.Operand.tmp 10], argTypes := #[22] }, type := 43, pos := "l12_store.go:235", after := #[{ on := 0, ground := Go.Ground.data }], guard := Option.none }) rfl (fun K hK => ?_) AllReadyH.nil
      go_simp
      go_at_call 43
      refine Calls.mono (HKY.out _ (by exact bel2 HBA.out (by rfl) (by rfl) (by rfl) (by rfl))) ?_
      rintro e w9 ⟨A9, k9, rfl, hc9, hm9, hs9, hb9⟩
      have HB9 := Lib.hid (Below.trans (show Below w.heap.size w _ by exact bel2 HBA.out (by rfl) (by rfl) (by rfl) (by rfl)) (hb9.mono (show w.heap.size ≤ _ by exact HBA.out.size)))
      have HS9 := Lib.hid hs9
      have HX9 := Lib.hid ((hb9.block w.heap.size (by show w.heap.size < (w.alloc _).heap.size; simp)).trans (by exact HZA.out))
      have hz9 : w.heap.size < w9.heap.size := Nat.lt_of_lt_of_le (by show w.heap.size < (w.alloc _).heap.size; simp) hb9.size
      clear hb9 hs9
      (try go_wp2_with fail)
      refine hK.out _ _ (HSS.out _ HB9.out) (fun hHeld => ?_)
      clear hK K
      (try simp only [Act.put]); (try simp only [List.setIfInBounds_toArray]); (try simp only [List.set_cons_succ]); (try simp only [List.set_cons_zero])
      refine wpAnyH_ready (rs := [6]) (by kernel_rfl) (by simp) ?_
      refine AllReadyH.cons (o := { dst := Option.some 16, op := Go.Op.call { callee := Go.Callee.value (Go.Operand.func 42), args := #[Go.Operand.tmp 11, Go.Operand.tmp 15], argTypes := #[43, 3] }, type := 77, pos := "l12_store.go:235", after := #[{ on := 1, ground := Go.Ground.data }, { on := 5, ground := Go.Ground.data }, { on := 1, ground := Go.Ground.chain }], guard := Option.none }) rfl (fun K hK => ?_) AllReadyH.nil
      go_simp
      go_at_call 42
      refine Calls.mono (HSV.out _ _ _ HS9.out hc9 hm9) ?_
      rintro e w8 ⟨A8, k8, rfl, ho8, hb8⟩
      have HB8 := Lib.hid (HB9.out.trans (hb8.mono HB9.out.size))
      have HO8 := Lib.hid ho8
      have HX8 := Lib.hid ((hb8.block _ hz9).trans HX9.out)
      clear ho8 hb8
      (try go_wp2_with fail)
      refine hK.out _ _ (HSS.out _ HB8.out) (fun hHeld => ?_)
      clear hK K
      (try simp only [Act.put]); (try simp only [List.setIfInBounds_toArray]); (try simp only [List.set_cons_succ]); (try simp only [List.set_cons_zero])
      refine wpAnyH_take (i := 7) (oi := { dst := Option.some 9, op := Go.Op.move (Go.Operand.tmp 16), type := 77, pos := "l12_store.go:235", after := #[{ on := 6, ground := Go.Ground.data }], guard := Option.none }) (v := ?v9) rfl (by kernel_rfl) (by kernel_rfl) (by kernel_rfl) (fun _ _ _ h => h) (Or.inl ⟨by rfl, ?hy9⟩) (by assumption) ?rest9
      case hy9 =>
        intro w9 hSw
        clear hSw
        go_simp
        first | done | with_reducible rfl
      (try simp only [Act.put]); (try simp only [List.setIfInBounds_toArray]); (try simp only [List.set_cons_succ]); (try simp only [List.set_cons_zero])
      refine wpAnyH_take (i := 8) (oi := { dst := Option.some 17, op := Go.Op.extract (Go.Operand.tmp 9) 0, type := 45, pos := "l12_store.go:235", after := #[{ on := 7, ground := Go.Ground.data }], guard := Option.none }) (v := ?v10) rfl (by kernel_rfl) (by kernel_rfl) (by kernel_rfl) (fun _ _ _ h => h) (Or.inl ⟨by rfl, ?hy10⟩) (by assumption) ?rest10
      case hy10 =>
        intro w9 hSw
        clear hSw
        go_simp
        first | done | with_reducible rfl
      (try simp only [Act.put]); (try simp only [List.setIfInBounds_toArray]); (try simp only [List.set_cons_succ]); (try simp only [List.set_cons_zero])
      refine wpAnyH_take (i := 9) (oi := { dst := Option.some 18, op := Go.Op.extract (Go.Operand.tmp 9) 1, type := 4, pos := "l12_store.go:235", after := #[{ on := 7, ground := Go.Ground.data }, { on := 11, ground := Go.Ground.gcOnly Go.Departure.lateStores }], guard := Option.none }) (v := ?v11) rfl (by kernel_rfl) (by kernel_rfl) (by kernel_rfl) (fun _ _ _ h => h) (Or.inl ⟨by rfl, ?hy11⟩) (by assumption) ?rest11
      case hy11 =>
        intro w9 hSw
        clear hSw
        go_simp
        first | done | with_reducible rfl
      (try simp only [Act.put]); (try simp only [List.setIfInBounds_toArray]); (try simp only [List.set_cons_succ]); (try simp only [List.set_cons_zero])
      have HBC := Lib.hid (svbox_set HB8.out HO8.out HX8.out (Nat.le_refl _) hz9 L M_ F K)
      obtain ⟨q0, q1, q2, q3, q4⟩ := sv_row HX8.out
      have r0 := frozen_of_row _ _ 0 _ _ HX8.out
      have r1 := frozen_of_row _ _ 1 _ _ HX8.out
      have r2 := frozen_of_row _ _ 2 _ _ HX8.out
      have r3 := frozen_of_row _ _ 3 _ _ HX8.out
      have r4 := frozen_of_row _ _ 4 _ _ HX8.out
      refine wpAnyH_ready (rs := [11]) (by kernel_rfl) (by simp) ?_
      refine AllReadyH.cons (o := { dst := Option.none, op := Go.Op.store 45 (Go.Operand.tmp 7) (Go.Operand.tmp 17), type := 0, pos := "l12_store.go:235", after := #[{ on := 10, ground := Go.Ground.data }, { on := 8, ground := Go.Ground.data }, { on := 6, ground := Go.Ground.chain }, { on := 0, ground := Go.Ground.phase }, { on := 1, ground := Go.Ground.phase }, { on := 2, ground := Go.Ground.phase }, { on := 3, ground := Go.Ground.phase }, { on := 4, ground := Go.Ground.phase }, { on := 5, ground := Go.Ground.phase }, { on := 6, ground := Go.Ground.phase }, { on := 7, ground := Go.Ground.phase }, { on := 8, ground := Go.Ground.phase }, { on := 9, ground := Go.Ground.textOnly Go.Departure.lateStores }, { on := 10, ground := Go.Ground.phase }], guard := Option.none }) rfl (fun K hK => ?_) AllReadyH.nil
      go_simp
      refine hK.out _ _ (HSS.out _ HBC.out.bel) (fun hHeld => ?_)
      clear hK K
      (try simp only [Act.put]); (try simp only [List.setIfInBounds_toArray]); (try simp only [List.set_cons_succ]); (try simp only [List.set_cons_zero])
      refine wpAnyH_take (i := 12) (oi := { dst := Option.some 8, op := Go.Op.assign (Go.Operand.tmp 18), type := 4, pos := "l12_store.go:235", after := #[{ on := 9, ground := Go.Ground.data }, { on := 11, ground := Go.Ground.chain }, { on := 0, ground := Go.Ground.phase }, { on := 1, ground := Go.Ground.phase }, { on := 2, ground := Go.Ground.phase }, { on := 3, ground := Go.Ground.phase }, { on := 4, ground := Go.Ground.phase }, { on := 5, ground := Go.Ground.phase }, { on := 6, ground := Go.Ground.phase }, { on := 7, ground := Go.Ground.phase }, { on := 8, ground := Go.Ground.phase }, { on := 9, ground := Go.Ground.phase }, { on := 10, ground := Go.Ground.phase }, { on := 11, ground := Go.Ground.phase }], guard := Option.none }) (v := ?v12) rfl (by kernel_rfl) (by kernel_rfl) (by kernel_rfl) (fun _ _ _ h => h) (Or.inl ⟨by rfl, ?hy12⟩) (by assumption) ?rest12
      case hy12 =>
        intro w9 hSw
        clear hSw
        go_simp
        first | done | with_reducible rfl
      (try simp only [Act.put]); (try simp only [List.setIfInBounds_toArray]); (try simp only [List.set_cons_succ]); (try simp only [List.set_cons_zero])
      refine wpAnyH_done (by kernel_rfl) ?_ _
      go_wp2_with fail
      go_meet
      exact ⟨_, _, rfl, rfl, HBC⟩
  case rest =>
    obtain ⟨bx, v, rfl, rfl, hq⟩ := hcut
    obtain ⟨te, pe, hce⟩ := HE.out.below hq.out.bel
    obtain ⟨A6, c6, hv6, -, -, -⟩ := hq.out.own.parts
    subst hv6
    have HQ := Lib.hid hq.out
    clear hq
    cases y with
    | false =>
      go_wp2
      go_ret
      exact .inr ⟨rfl, ⟨te, pe, rfl⟩, HQ.out.bel⟩
    | true =>
      by_cases hlong : r.length ≤ 8 * (n + 1)
      · have hng : ¬ 8 * ((n : Int) + 1) < (r.length : Int) := by omega
        have HLG := Lib.hid hlong
        obtain ⟨x0, x1, x2, x3, x4⟩ := sv_row HQ.out.row
        have hb0 := (HQ.out.bel.block g hgl).trans HBOX.out
        obtain ⟨u0, hu0⟩ := cell_in hb0 (o := 1 + n * 6) (by omega)
        have fr0 : wc.frozen? ⟨g, 1 + n * 6, none⟩ = false := box_free hb0
        obtain ⟨u1, hu1⟩ := cell_in hb0 (o := 1 + n * 6 + 1) (by omega)
        have fr1 : wc.frozen? ⟨g, 1 + n * 6 + 1, none⟩ = false := box_free hb0
        obtain ⟨u2, hu2⟩ := cell_in hb0 (o := 1 + n * 6 + 2) (by omega)
        have fr2 : wc.frozen? ⟨g, 1 + n * 6 + 2, none⟩ = false := box_free hb0
        obtain ⟨u3, hu3⟩ := cell_in hb0 (o := 1 + n * 6 + 3) (by omega)
        have fr3 : wc.frozen? ⟨g, 1 + n * 6 + 3, none⟩ = false := box_free hb0
        obtain ⟨u4, hu4⟩ := cell_in hb0 (o := 1 + n * 6 + 4) (by omega)
        have fr4 : wc.frozen? ⟨g, 1 + n * 6 + 4, none⟩ = false := box_free hb0
        obtain ⟨u5, hu5⟩ := cell_in hb0 (o := 1 + n * 6 + 5) (by omega)
        have fr5 : wc.frozen? ⟨g, 1 + n * 6 + 5, none⟩ = false := box_free hb0
        have HB0 := Lib.hid hb0
        clear hb0 hce hlong
        go_upto_region 4 with (go_at_call 44; refine Calls.mono (HMX.out _) ?_; rintro e w7 ⟨rfl, rfl⟩)
        obtain ⟨WF, hWF⟩ : ∃ W, W = ((((((wc.setCell ⟨g, 1 + n * 6, none⟩ (.slice A r.length c)).setCell ⟨g, 1 + n * 6 + 1, none⟩ (.string L)).setCell ⟨g, 1 + n * 6 + 2, none⟩ (.string M_)).setCell ⟨g, 1 + n * 6 + 3, none⟩ (.string F)).setCell ⟨g, 1 + n * 6 + 4, none⟩ (.slice A6 SR.length c6)).setCell ⟨g, 1 + n * 6 + 5, none⟩ (.int .i64 K)) := ⟨_, rfl⟩
        have HF1 := Lib.hid (show WF.heap[g]? = some (.cells (set6 cur n (.slice A r.length c) (.string L) (.string M_) (.string F) (.slice A6 SR.length c6) (.int .i64 K)) 51 (0, 0)) by rw [hWF]; exact box6 HB0.out _ _ _ _ _ _)
        have HF2 := Lib.hid (show Own WF w.heap.size (.slice A6 SR.length c6) SR by rw [hWF]; exact own_setFar (own_setFar (own_setFar (own_setFar (own_setFar (own_setFar (HQ.out.own) _ _ _ hgl) _ _ _ hgl) _ _ _ hgl) _ _ _ hgl) _ _ _ hgl) _ _ _ hgl)
        have HF3 := Lib.hid (show w.grownBy WF (some g) by rw [hWF]; exact grown_set (grown_set (grown_set (grown_set (grown_set (grown_set (grownOf HQ.out.bel g) _ _) _ _) _ _) _ _) _ _) _ _)
        have HWF := Lib.hid hWF
        clear hWF
        go_still_tail 8, (by kernel_rfl)
        change wpList _ _ _ _ _ wc.drew
        have hv0 : wc.drew.cell? ⟨g, 1 + n * 6, none⟩ = some u0 := hu0
        have gr0 : wc.drew.frozen? ⟨g, 1 + n * 6, none⟩ = false := fr0
        have hv1 : wc.drew.cell? ⟨g, 1 + n * 6 + 1, none⟩ = some u1 := hu1
        have gr1 : wc.drew.frozen? ⟨g, 1 + n * 6 + 1, none⟩ = false := fr1
        have hv2 : wc.drew.cell? ⟨g, 1 + n * 6 + 2, none⟩ = some u2 := hu2
        have gr2 : wc.drew.frozen? ⟨g, 1 + n * 6 + 2, none⟩ = false := fr2
        have hv3 : wc.drew.cell? ⟨g, 1 + n * 6 + 3, none⟩ = some u3 := hu3
        have gr3 : wc.drew.frozen? ⟨g, 1 + n * 6 + 3, none⟩ = false := fr3
        have hv4 : wc.drew.cell? ⟨g, 1 + n * 6 + 4, none⟩ = some u4 := hu4
        have gr4 : wc.drew.frozen? ⟨g, 1 + n * 6 + 4, none⟩ = false := fr4
        have hv5 : wc.drew.cell? ⟨g, 1 + n * 6 + 5, none⟩ = some u5 := hu5
        have gr5 : wc.drew.frozen? ⟨g, 1 + n * 6 + 5, none⟩ = false := fr5
        go_wp2
        rw [← HWF.out]
        go_ret
        exact .inl ⟨by rw [decide_eq_true HLG.out]; rfl, rfl, .slice A6 SR.length c6, filled_drew ⟨HF1.out, HF2.out, HF3.out⟩⟩
      · have hng : 8 * ((n : Int) + 1) < (r.length : Int) := by omega
        go_wp2_with (go_at_call 44; refine Calls.mono (HMX.out _) ?_; rintro e w7 ⟨rfl, rfl⟩)
        go_ret
        exact .inr ⟨by rw [decide_eq_false hlong]; rfl, ⟨te, pe, rfl⟩, HQ.out.bel⟩

end Go.Proofs.YtfhpkcamigkmdaaDoor.W
