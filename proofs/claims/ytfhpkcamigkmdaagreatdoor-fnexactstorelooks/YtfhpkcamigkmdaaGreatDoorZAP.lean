/-
  Contracts of the program's levelMax and (*tree).timesOk.
  The program's fill: a run becomes a level of a tree, with its filter.
  What the listed variable gives a walk: the program's error that there is no room; and that the program's own start meets the condition.
-/
import Derived.Test.YtfhpkcamigkmdaaGreatDoorZAI
import Derived.Test.YtfhpkcamigkmdaaGreatDoorZAA
import Derived.Test.YtfhpkcamigkmdaaGreatDoorZAL
import Derived.Test.YtfhpkcamigkmdaaGreatDoorZAO
import Derived.Test.YtfhpkcamigkmdaaGreatDoorRows
import Derived.Deep.CutRange
import Derived.Deep.RegionHeld
import Derived.StillTailTactics
import Derived.LaidMore
import Derived.Stop.LaidErr
import Derived.OpenShut
import Derived.Stop.Joined
import Derived.Lay
namespace Go.Proofs.YtfhpkcamigkmdaaGreatDoor.W
open Go.RowKit K R

theorem maxI (n : Int) (w : World) (h0 : 0 ≤ n) (h1 : n ≤ 1000) :
    Calls Tryz.prog 149 #[.int .i64 n] w fun e w' => e = .returned (.int .i64 (8 * (n + 1))) ∧ w = w' := by
  go_enter Tryz.func149, Tryz.ntmps149
  go_wp2
  go_ret
  exact ⟨ret_int (by omega), rfl⟩

/-- the time before the k-th: none is -1 -/
def beforeT (l : List Int) (k : Nat) : Int := if h : 0 < k ∧ k ≤ l.length then l[k - 1]'(by omega) else -1
theorem beforeT_zero (l : List Int) : beforeT l 0 = -1 := by unfold beforeT; rw [dif_neg (by omega)]
theorem beforeT_succ {l : List Int} {k : Nat} (h : k < l.length) : beforeT l (k + 1) = l[k] := by unfold beforeT; rw [dif_pos (by omega)]; rfl
/-- what the program asks of times -/
def treeTimesB (l : List Int) (now : Int) : Bool := inB now 0 999 && timesB l now
theorem tt_off {l : List Int} {now : Int} (h : ¬ (0 ≤ now ∧ now ≤ 999)) : treeTimesB l now = false := by unfold treeTimesB inB; rw [decide_eq_false h]; rfl
theorem tt_many {l : List Int} {now : Int} (h : ¬ l.length ≤ 3) : treeTimesB l now = false := by unfold treeTimesB timesB; rw [decide_eq_false h]; simp
theorem tt_bad {l : List Int} {now : Int} {k : Nat} (g : goodT l now k) (h : k < l.length) (hb : l[k] ≤ beforeT l k ∨ now < l[k]) : treeTimesB l now = false := by
  have : timesB l now = false := by
    by_cases hin : 0 ≤ l[k] ∧ l[k] ≤ now
    · cases k with
      | zero => rw [beforeT_zero] at hb; omega
      | succ j =>
        rw [beforeT_succ (by omega)] at hb
        exact badT_ord (j := j) rfl h (by omega)
    · exact badT_in h hin
  unfold treeTimesB; rw [this, Bool.and_false]
theorem tt_next {l : List Int} {now : Int} {k : Nat} (g : goodT l now k) (h : k < l.length) (h1 : ¬ l[k] ≤ beforeT l k) (h2 : ¬ now < l[k]) : goodT l now (k + 1) := by
  cases k with
  | zero => rw [beforeT_zero] at h1; exact goodT_succ g h (by omega) (fun j hj => by omega)
  | succ j =>
    rw [beforeT_succ (by omega)] at h1
    have := g.1 j (by omega) (by omega)
    exact goodT_succ g h (by omega) (fun i hi => by obtain rfl : i = j := by omega
                                                    omega)

set_option maxHeartbeats 4000000 in
theorem timesI (w : World) (B g c : Nat) (A : Option Addr) (l : List Int) (now : Int) (hr : Nums w B A l.length l) (hB : B ≤ w.heap.size) (hn : l.length ≤ maxLen)
    (ht : w.cell? ⟨g, 20, none⟩ = some (.int .i64 now)) (hs : w.cell? ⟨g, 21, none⟩ = some (.slice A l.length c)) :
    Calls Tryz.prog 137 #[.pointer (some ⟨g, 0, none⟩)] w fun e w' => e = .returned (.bool (treeTimesB l now)) ∧ w = w' := by
  unfold maxLen at hn
  have HR := Lib.hid hr
  clear hr
  by_cases h1 : now < 0
  · have HQ := Lib.hid (tt_off (l := l) (now := now) (by omega))
    go_enter Tryz.func137, Tryz.ntmps137
    go_wp2
    go_ret
    exact ⟨ret_bool HQ.out.symm, rfl⟩
  · by_cases h2 : 999 < now
    · have HQ := Lib.hid (tt_off (l := l) (now := now) (by omega))
      go_enter Tryz.func137, Tryz.ntmps137
      go_wp2
      go_ret
      exact ⟨ret_bool HQ.out.symm, rfl⟩
    · by_cases h3 : (3 : Int) < (l.length : Int)
      · have HQ := Lib.hid (tt_many (l := l) (now := now) (by omega))
        go_enter Tryz.func137, Tryz.ntmps137
        go_wp2
        go_ret
        exact ⟨ret_bool HQ.out.symm, rfl⟩
      · go_enter Tryz.func137, Tryz.ntmps137
        go_wp2
        go_loopw [3, 31] (fun bv iv wr => ∃ k : Nat, k ≤ l.length ∧ iv = .int .i64 (k : Nat) ∧ bv = .int .i64 (beforeT l k) ∧ goodT l now k ∧ wr = w) (fun _ iv _ => l.length - (intOf iv).toNat)
        case atStart => exact ⟨0, Nat.zero_le _, rfl, by rw [beforeT_zero], goodT_zero l now, rfl⟩
        case round =>
          obtain ⟨k, hk, rfl, rfl, hg, rfl⟩ := hrel
          have HG := Lib.hid hg
          clear hg
          by_cases hlt : k < l.length
          · obtain ⟨b, off, hA, hb, hc⟩ := HR.out.cell k hlt
            subst hA
            have hx0 : (0 : Int) ≤ (k : Int) := by omega
            have hx1 : (k : Int) < (l.length : Int) := by omega
            obtain ⟨x, hx⟩ : ∃ y, y = l[k] := ⟨_, rfl⟩
            obtain ⟨y, hy⟩ : ∃ y, y = beforeT l k := ⟨_, rfl⟩
            have HX := Lib.hid hx
            have HY := Lib.hid hy
            rw [← hx] at hc
            rw [← hy]
            clear hx hy
            by_cases hq1 : x ≤ y
            · have HQ := Lib.hid (tt_bad HG.out hlt (.inl (by rw [← HX.out, ← HY.out]; exact hq1)))
              go_wp2
              go_ret
              exact ⟨ret_bool HQ.out.symm, rfl⟩
            · by_cases hq2 : now < x
              · have HQ := Lib.hid (tt_bad HG.out hlt (.inr (by rw [← HX.out]; exact hq2)))
                go_wp2
                go_ret
                exact ⟨ret_bool HQ.out.symm, rfl⟩
              · have HN := Lib.hid (tt_next HG.out hlt (by rw [← HX.out, ← HY.out]; exact hq1) (by rw [← HX.out]; exact hq2))
                go_wp2
                go_roundw
                case rel => exact ⟨k + 1, by omega, by go_num, by rw [beforeT_succ hlt, HX.out], HN.out, by first | rfl | trivial⟩
                case measure => simp [intOf]; omega
          · have hke : k = l.length := by omega
            subst hke
            have HQ := Lib.hid (show treeTimesB l now = true by unfold treeTimesB inB; rw [goodT_end HG.out, decide_eq_true (by omega), decide_eq_true (by omega)]; rfl)
            go_wp2
            go_ret
            exact ⟨ret_bool HQ.out.symm, rfl⟩

end Go.Proofs.YtfhpkcamigkmdaaGreatDoor.W
namespace Go.Proofs.YtfhpkcamigkmdaaGreatDoor.W
open Go.RowKit K R

/-- six cells of a tree's box: level n -/
def set6 (cur : Array Value) (n : Nat) (v0 v1 v2 v3 v4 v5 : Value) : Array Value := (((((cur.setIfInBounds (1 + n * 6) v0).setIfInBounds (1 + n * 6 + 1) v1).setIfInBounds (1 + n * 6 + 2) v2).setIfInBounds (1 + n * 6 + 3) v3).setIfInBounds (1 + n * 6 + 4) v4).setIfInBounds (1 + n * 6 + 5) v5
/-- the error of the program's that says that there is no room: it is not nil -/
def NoRoom (w : World) : Prop := ∃ te pe, w.cell? ⟨0, 0, none⟩ = some (.iface te pe)
theorem NoRoom.below {w w' : World} (h : NoRoom w) (hb : Below w.heap.size w w') : NoRoom w' := by
  obtain ⟨te, pe, hc⟩ := h
  exact ⟨te, pe, (hb.cell (block_lt_of_cell hc)).trans hc⟩
/-- a level was filled -/
structure Filled (w : World) (g n : Nat) (cur : Array Value) (run : Value) (L M_ F : ByteArray) (SR : List ByteArray) (K : Int) (w' : World) (v : Value) : Prop where
  row : w'.heap[g]? = some (.cells (set6 cur n run (.string L) (.string M_) (.string F) v (.int .i64 K)) 119 (0, 0))
  own : Own w' w.heap.size v SR
  grown : w.grownBy w' (some g)
/-- what fill does -/
def FillA (w : World) (g n : Nat) (cur : Array Value) (run : Value) (ok : Bool) (L M_ F : ByteArray) (SR : List ByteArray) (K : Int) (e : Ending) (w' : World) : Prop :=
  (ok = true ∧ e = .returned .nilIface ∧ ∃ v, Filled w g n cur run L M_ F SR K w' v) ∨ (ok = false ∧ (∃ te pe, e = .returned (.iface te pe)) ∧ Below w.heap.size w w')
theorem box6 {W : World} {g n : Nat} {cur : Array Value} {t : TypeId} (h : W.heap[g]? = some (.cells cur t (0, 0))) (v0 v1 v2 v3 v4 v5 : Value) :
    ((((((W.setCell ⟨g, 1 + n * 6, none⟩ v0).setCell ⟨g, 1 + n * 6 + 1, none⟩ v1).setCell ⟨g, 1 + n * 6 + 2, none⟩ v2).setCell ⟨g, 1 + n * 6 + 3, none⟩ v3).setCell ⟨g, 1 + n * 6 + 4, none⟩ v4).setCell ⟨g, 1 + n * 6 + 5, none⟩ v5).heap[g]? = some (.cells (set6 cur n v0 v1 v2 v3 v4 v5) t (0, 0)) :=
  heap_setCell_same _ _ _ _ _ _ (heap_setCell_same _ _ _ _ _ _ (heap_setCell_same _ _ _ _ _ _ (heap_setCell_same _ _ _ _ _ _ (heap_setCell_same _ _ _ _ _ _ (heap_setCell_same _ _ _ _ _ _ h)))))
theorem cell_in {W : World} {g : Nat} {cur : Array Value} {t : TypeId} (h : W.heap[g]? = some (.cells cur t (0, 0))) {o : Nat} (ho : o < cur.size) : ∃ v, W.cell? ⟨g, o, none⟩ = some v := by
  rw [cell_of_row _ _ _ _ _ _ h]
  exact ⟨cur[o], Array.getElem?_eq_getElem ho⟩

theorem grownOf {w w' : World} (h : Below w.heap.size w w') (g : Nat) : w.grownBy w' (some g) := ⟨h.os, h.tape, h.output, h.size, fun k hk _ => h.block k hk⟩

theorem filled_drew {w WF : World} {g n : Nat} {cur : Array Value} {run : Value} {L M_ F : ByteArray} {SR : List ByteArray} {K : Int} {v : Value} (h : Filled w g n cur run L M_ F SR K WF v) : Filled w g n cur run L M_ F SR K WF.drew v :=
  ⟨h.row, h.own, ⟨h.grown.os, h.grown.tape, h.grown.output, h.grown.size, h.grown.block⟩⟩

set_option maxHeartbeats 8000000 in
set_option maxRecDepth 100000 in
theorem fillI (w : World) (g n c : Nat) (A : Option Addr) (r : List En) (cur : Array Value) (keep : Int) (hbox : w.heap[g]? = some (.cells cur 119 (0, 0))) (hcur : cur.size = 22) (hkeep : w.cell? ⟨g, 19, none⟩ = some (.int .i64 keep)) (hn3 : n < 3) (hE : NoRoom w)
    (hr : Ents w w.heap.size A r.length r) (hrc : r.length ≤ 1048576) (hf : ∀ e ∈ r, e.key.size ≤ maxLen) :
    Calls Tryz.prog 111 #[.pointer (some ⟨g, 0, none⟩), .int .i64 (n : Nat), .slice A r.length c] w
      (FillA w g n cur (.slice A r.length c) (svYes (keysO r) keep && decide (r.length ≤ 8 * (n + 1))) (svL (keysO r) keep) (svM (keysO r) keep) (svF (keysO r) keep) (svR (keysO r) keep) (svK (keysO r) keep)) := by
  have hgl : g < w.heap.size := (Array.getElem?_eq_some_iff.1 hbox).1
  obtain ⟨ks, hks⟩ : ∃ ks, ks = keysO r := ⟨_, rfl⟩
  rw [← hks]
  obtain ⟨L, hL⟩ : ∃ x, x = svL ks keep := ⟨_, rfl⟩
  obtain ⟨M_, hM⟩ : ∃ x, x = svM ks keep := ⟨_, rfl⟩
  obtain ⟨F, hF⟩ : ∃ x, x = svF ks keep := ⟨_, rfl⟩
  obtain ⟨SR, hSR⟩ : ∃ x, x = svR ks keep := ⟨_, rfl⟩
  obtain ⟨K, hK⟩ : ∃ x, x = svK ks keep := ⟨_, rfl⟩
  obtain ⟨y, hy⟩ : ∃ x, x = svYes ks keep := ⟨_, rfl⟩
  have hkl : ∀ s ∈ ks, s.size ≤ maxLen := fun s hs => by
    rw [hks] at hs
    unfold keysO at hs
    split at hs
    · obtain ⟨e, he, rfl⟩ := mem_keysL.mp hs
      exact hf e he
    · cases hs
  have HKY := Lib.hid (show ∀ W, Below w.heap.size w W → Calls Tryz.prog 148 #[.slice A r.length c] W fun e w' => ∃ A c, e = .returned (.slice A ks.length c) ∧ ks.length ≤ c ∧ c ≤ maxLen ∧ Strs w' w'.heap.size A ks.length ks ∧ Below W.heap.size W w' from fun W hW => by
    refine (runKeysI W w.heap.size r.length c A r (hr.below hW (Nat.le_refl _)) hW.size (by omega) hf).mono ?_
    rintro e w' ⟨v, rfl, ho, hb'⟩
    rw [← hks] at ho
    obtain ⟨A, c, rfl, p1, p2, p3⟩ := ho.parts
    exact ⟨A, c, rfl, p1, p2, p3, hb'⟩)
  have HSV := Lib.hid (show ∀ (W : World) (A : Option Addr) (c : Nat), Strs W W.heap.size A ks.length ks → ks.length ≤ c → c ≤ maxLen → Calls Tryz.prog 147 #[.slice A ks.length c, .int .i64 keep] W (OfF W L M_ F SR K y) from fun W A c g1 g2 g3 => by
    rw [hL, hM, hF, hSR, hK, hy]
    exact (ofI W ks.length c A ks keep g1 g2 g3 hkl).mono fun _ _ h => of_fields h)
  rw [← hL, ← hM, ← hF, ← hSR, ← hK, ← hy]
  clear hL hM hF hSR hK hy hks hkl
  have HSS := Lib.hid (show ∀ W, Below w.heap.size w W → (fun W : World => W.cell? ⟨g, 19, none⟩ = some (.int .i64 keep)) W from fun W hW => (hW.cell (p := ⟨g, 19, none⟩) hgl).trans hkeep)
  have HR0 := Lib.hid (Below.refl w.heap.size w)
  have HE := Lib.hid hE
  have HBOX := Lib.hid hbox
  have z0 : (0 : Int) ≤ (n : Int) := by omega
  have z1 : (n : Int) < 3 := by omega
  have HMX := Lib.hid (show ∀ W : World, Calls Tryz.prog 149 #[.int .i64 (n : Nat)] W fun e w' => e = .returned (.int .i64 (8 * ((n : Int) + 1))) ∧ W = w' from fun W => maxI n W (by omega) (by omega))
  clear hr hf hkeep hbox hE
  go_enter Tryz.func111, Tryz.ntmps111
  go_upto_region 1 with fail
  go_cut [7, 8] from 9 to 18 (fun s7 s8 wx => ∃ bx v, s7 = .pointer (some ⟨bx, 0, none⟩) ∧ s8 = .bool y ∧ Hid (SvBox w wx bx v L M_ F SR K))
  case first =>
    refine wp_region_held_drew (S := (fun W : World => W.cell? ⟨g, 19, none⟩ = some (.int .i64 keep))) (by kernel_rfl) (HSS.out _ (by exact bel2 HR0.out (by rfl) (by rfl) (by rfl) (by rfl))) (fun hHeld => ?_)
    refine wpAnyH_takes (a' := ?a1_) [0, 2, 3, 4, 5] (k := 5) rfl (by kernel_rfl) (by kernel_rfl) (fun _ _ _ _ _ h => h) ?t1_ (by assumption) ?r1_
    case t1_ =>
      iterate 5
        apply takes_cons rfl
        · first | (refine Or.inl ⟨by rfl, fun w9 hSw => ?_⟩; clear hSw; go_simp; (first | done | with_reducible rfl)) | (refine Or.inl ⟨by rfl, fun w9 hSw => ?_⟩; obtain f0 := hSw; go_simp; (first | done | with_reducible rfl))
        (try simp only [Act.put]); (try simp only [List.setIfInBounds_toArray]); (try simp only [List.set_cons_succ]); (try simp only [List.set_cons_zero])
      exact takes_nil
    refine wpAnyH_ready (rs := [1, 10]) (by kernel_rfl) (by simp) ?_
    refine AllReadyH.cons (o := { dst := Option.some 11, op := Go.Op.call { callee := Go.Callee.value (Go.Operand.func 148), args := #[Go.Operand.tmp 10], argTypes := #[29] }, type := 90, pos := "l12_store.go:235", after := #[{ on := 0, ground := Go.Ground.data }], guard := Option.none }) rfl (fun K hK => ?_) (AllReadyH.cons (o := { dst := Option.some 7, op := Go.Op.alloc 92, type := 0, pos := "l12_store.go:235", after := #[], guard := Option.none }) rfl (fun K hK => ?_) AllReadyH.nil)
    · go_simp
      go_at_call 148
      refine Calls.mono (HKY.out _ (by exact bel2 HR0.out (by rfl) (by rfl) (by rfl) (by rfl))) ?_
      rintro e w9 ⟨A9, k9, rfl, hc9, hm9, hs9, hb9⟩
      have HB9 := Lib.hid (Below.trans (by exact bel2 HR0.out (by rfl) (by rfl) (by rfl) (by rfl)) (hb9.mono (Below.size (by exact bel2 HR0.out (by rfl) (by rfl) (by rfl) (by rfl)))))
      have HS9 := Lib.hid hs9
      clear hb9 hs9
      (try go_wp2_with fail)
      refine hK.out _ _ (HSS.out _ HB9.out) (fun hHeld => ?_)
      clear hK K
      (try simp only [Act.put]); (try simp only [List.setIfInBounds_toArray]); (try simp only [List.set_cons_succ]); (try simp only [List.set_cons_zero])
      refine wpAnyH_ready (rs := [6, 10]) (by kernel_rfl) (by simp) ?_
      refine AllReadyH.cons (o := { dst := Option.some 16, op := Go.Op.call { callee := Go.Callee.value (Go.Operand.func 147), args := #[Go.Operand.tmp 11, Go.Operand.tmp 15], argTypes := #[90, 3] }, type := 124, pos := "l12_store.go:235", after := #[{ on := 1, ground := Go.Ground.data }, { on := 5, ground := Go.Ground.data }, { on := 1, ground := Go.Ground.chain }], guard := Option.none }) rfl (fun K hK => ?_) (AllReadyH.cons (o := { dst := Option.some 7, op := Go.Op.alloc 92, type := 0, pos := "l12_store.go:235", after := #[], guard := Option.none }) rfl (fun K hK => ?_) AllReadyH.nil)
      · go_simp
        go_at_call 147
        refine Calls.mono (HSV.out _ _ _ HS9.out hc9 hm9) ?_
        rintro e w8 ⟨A8, k8, rfl, ho8, hb8⟩
        have HB8 := Lib.hid (HB9.out.trans (hb8.mono HB9.out.size))
        have HO8 := Lib.hid (ho8.base HB9.out.size)
        clear ho8 hb8
        (try go_wp2_with fail)
        refine hK.out _ _ (HSS.out _ HB8.out) (fun hHeld => ?_)
        clear hK K
        (try simp only [Act.put]); (try simp only [List.setIfInBounds_toArray]); (try simp only [List.set_cons_succ]); (try simp only [List.set_cons_zero])
        refine wpAnyH_takes (a' := ?a2_) [7, 8, 9] (k := 3) rfl (by kernel_rfl) (by kernel_rfl) (fun _ _ _ _ _ h => h) ?t2_ (by assumption) ?r2_
        case t2_ =>
          iterate 3
            apply takes_cons rfl
            · first | (refine Or.inl ⟨by rfl, fun w9 hSw => ?_⟩; clear hSw; go_simp; (first | done | with_reducible rfl))
            (try simp only [Act.put]); (try simp only [List.setIfInBounds_toArray]); (try simp only [List.set_cons_succ]); (try simp only [List.set_cons_zero])
          exact takes_nil
        have HBA := Lib.hid (HB8.out.alloc HB8.out.size (.cells #[.string ⟨#[]⟩, .string ⟨#[]⟩, .string ⟨#[]⟩, .slice none 0 0, .int .i64 0] 92))
        refine wpAnyH_ready (rs := [10]) (by kernel_rfl) (by simp) ?_
        refine AllReadyH.cons (o := { dst := Option.some 7, op := Go.Op.alloc 92, type := 0, pos := "l12_store.go:235", after := #[], guard := Option.none }) rfl (fun K hK => ?_) AllReadyH.nil
        go_simp
        refine hK.out _ _ (HSS.out _ HBA.out) (fun hHeld => ?_)
        clear hK K
        (try simp only [Act.put]); (try simp only [List.setIfInBounds_toArray]); (try simp only [List.set_cons_succ]); (try simp only [List.set_cons_zero])
        have HBC := Lib.hid (svbox_new HB8.out HO8.out L M_ F K)
        refine wpAnyH_ready (rs := [11]) (by kernel_rfl) (by simp) ?_
        refine AllReadyH.cons (o := { dst := Option.none, op := Go.Op.store 92 (Go.Operand.tmp 7) (Go.Operand.tmp 17), type := 0, pos := "l12_store.go:235", after := #[{ on := 10, ground := Go.Ground.data }, { on := 8, ground := Go.Ground.data }, { on := 6, ground := Go.Ground.chain }, { on := 0, ground := Go.Ground.phase }, { on := 1, ground := Go.Ground.phase }, { on := 2, ground := Go.Ground.phase }, { on := 3, ground := Go.Ground.phase }, { on := 4, ground := Go.Ground.phase }, { on := 5, ground := Go.Ground.phase }, { on := 6, ground := Go.Ground.phase }, { on := 7, ground := Go.Ground.phase }, { on := 8, ground := Go.Ground.phase }, { on := 9, ground := Go.Ground.textOnly Go.Departure.lateStores }, { on := 10, ground := Go.Ground.phase }], guard := Option.none }) rfl (fun K hK => ?_) AllReadyH.nil
        go_simp
        refine hK.out _ _ (HSS.out _ HBC.out.bel) (fun hHeld => ?_)
        clear hK K
        (try simp only [Act.put]); (try simp only [List.setIfInBounds_toArray]); (try simp only [List.set_cons_succ]); (try simp only [List.set_cons_zero])
        refine wpAnyH_takes (a' := ?a3_) [12] (k := 1) rfl (by kernel_rfl) (by kernel_rfl) (fun _ _ _ _ _ h => h) ?t3_ (by assumption) ?r3_
        case t3_ =>
          iterate 1
            apply takes_cons rfl
            · first | (refine Or.inl ⟨by rfl, fun w9 hSw => ?_⟩; clear hSw; go_simp; (first | done | with_reducible rfl))
            (try simp only [Act.put]); (try simp only [List.setIfInBounds_toArray]); (try simp only [List.set_cons_succ]); (try simp only [List.set_cons_zero])
          exact takes_nil
        refine wpAnyH_done (by kernel_rfl) ?_ _
        go_wp2_with fail
        go_meet
        exact ⟨_, _, rfl, rfl, HBC⟩
      · have HBA := Lib.hid (HB9.out.alloc HB9.out.size (.cells #[.string ⟨#[]⟩, .string ⟨#[]⟩, .string ⟨#[]⟩, .slice none 0 0, .int .i64 0] 92))
        go_simp
        refine hK.out _ _ (HSS.out _ HBA.out) (fun hHeld => ?_)
        clear hK K
        (try simp only [Act.put]); (try simp only [List.setIfInBounds_toArray]); (try simp only [List.set_cons_succ]); (try simp only [List.set_cons_zero])
        refine wpAnyH_ready (rs := [6]) (by kernel_rfl) (by simp) ?_
        refine AllReadyH.cons (o := { dst := Option.some 16, op := Go.Op.call { callee := Go.Callee.value (Go.Operand.func 147), args := #[Go.Operand.tmp 11, Go.Operand.tmp 15], argTypes := #[90, 3] }, type := 124, pos := "l12_store.go:235", after := #[{ on := 1, ground := Go.Ground.data }, { on := 5, ground := Go.Ground.data }, { on := 1, ground := Go.Ground.chain }], guard := Option.none }) rfl (fun K hK => ?_) AllReadyH.nil
        go_simp
        go_at_call 147
        refine Calls.mono (HSV.out _ _ _ (strs_alloc HS9.out _) hc9 hm9) ?_
        rintro e w8 ⟨A8, k8, rfl, ho8, hb8⟩
        have HB8 := Lib.hid (HBA.out.trans (hb8.mono HBA.out.size))
        have HO8 := Lib.hid ho8
        have HX8 := Lib.hid ((hb8.block _ (by simp)).trans (heap_alloc_new w9 _))
        clear ho8 hb8
        (try go_wp2_with fail)
        refine hK.out _ _ (HSS.out _ HB8.out) (fun hHeld => ?_)
        clear hK K
        (try simp only [Act.put]); (try simp only [List.setIfInBounds_toArray]); (try simp only [List.set_cons_succ]); (try simp only [List.set_cons_zero])
        refine wpAnyH_takes (a' := ?a4_) [7, 8, 9] (k := 3) rfl (by kernel_rfl) (by kernel_rfl) (fun _ _ _ _ _ h => h) ?t4_ (by assumption) ?r4_
        case t4_ =>
          iterate 3
            apply takes_cons rfl
            · first | (refine Or.inl ⟨by rfl, fun w9 hSw => ?_⟩; clear hSw; go_simp; (first | done | with_reducible rfl))
            (try simp only [Act.put]); (try simp only [List.setIfInBounds_toArray]); (try simp only [List.set_cons_succ]); (try simp only [List.set_cons_zero])
          exact takes_nil
        have HBC := Lib.hid (svbox_set HB8.out HO8.out HX8.out HB9.out.size (by simp) L M_ F K)
        obtain ⟨q0, q1, q2, q3, q4⟩ := sv_row HX8.out
        have r0 := frozen_of_row _ _ 0 _ _ HX8.out
        have r1 := frozen_of_row _ _ 1 _ _ HX8.out
        have r2 := frozen_of_row _ _ 2 _ _ HX8.out
        have r3 := frozen_of_row _ _ 3 _ _ HX8.out
        have r4 := frozen_of_row _ _ 4 _ _ HX8.out
        refine wpAnyH_ready (rs := [11]) (by kernel_rfl) (by simp) ?_
        refine AllReadyH.cons (o := { dst := Option.none, op := Go.Op.store 92 (Go.Operand.tmp 7) (Go.Operand.tmp 17), type := 0, pos := "l12_store.go:235", after := #[{ on := 10, ground := Go.Ground.data }, { on := 8, ground := Go.Ground.data }, { on := 6, ground := Go.Ground.chain }, { on := 0, ground := Go.Ground.phase }, { on := 1, ground := Go.Ground.phase }, { on := 2, ground := Go.Ground.phase }, { on := 3, ground := Go.Ground.phase }, { on := 4, ground := Go.Ground.phase }, { on := 5, ground := Go.Ground.phase }, { on := 6, ground := Go.Ground.phase }, { on := 7, ground := Go.Ground.phase }, { on := 8, ground := Go.Ground.phase }, { on := 9, ground := Go.Ground.textOnly Go.Departure.lateStores }, { on := 10, ground := Go.Ground.phase }], guard := Option.none }) rfl (fun K hK => ?_) AllReadyH.nil
        go_simp
        refine hK.out _ _ (HSS.out _ HBC.out.bel) (fun hHeld => ?_)
        clear hK K
        (try simp only [Act.put]); (try simp only [List.setIfInBounds_toArray]); (try simp only [List.set_cons_succ]); (try simp only [List.set_cons_zero])
        refine wpAnyH_takes (a' := ?a5_) [12] (k := 1) rfl (by kernel_rfl) (by kernel_rfl) (fun _ _ _ _ _ h => h) ?t5_ (by assumption) ?r5_
        case t5_ =>
          iterate 1
            apply takes_cons rfl
            · first | (refine Or.inl ⟨by rfl, fun w9 hSw => ?_⟩; clear hSw; go_simp; (first | done | with_reducible rfl))
            (try simp only [Act.put]); (try simp only [List.setIfInBounds_toArray]); (try simp only [List.set_cons_succ]); (try simp only [List.set_cons_zero])
          exact takes_nil
        refine wpAnyH_done (by kernel_rfl) ?_ _
        go_wp2_with fail
        go_meet
        exact ⟨_, _, rfl, rfl, HBC⟩
    · have HBA := Lib.hid ((Below.refl w.heap.size w).alloc (Nat.le_refl _) (.cells #[.string ⟨#[]⟩, .string ⟨#[]⟩, .string ⟨#[]⟩, .slice none 0 0, .int .i64 0] 92))
      have HZA := Lib.hid (heap_alloc_new w (.cells #[.string ⟨#[]⟩, .string ⟨#[]⟩, .string ⟨#[]⟩, .slice none 0 0, .int .i64 0] 92))
      go_simp
      refine hK.out _ _ (HSS.out _ (by exact bel2 HBA.out (by rfl) (by rfl) (by rfl) (by rfl))) (fun hHeld => ?_)
      clear hK K
      (try simp only [Act.put]); (try simp only [List.setIfInBounds_toArray]); (try simp only [List.set_cons_succ]); (try simp only [List.set_cons_zero])
      refine wpAnyH_ready (rs := [1]) (by kernel_rfl) (by simp) ?_
      refine AllReadyH.cons (o := { dst := Option.some 11, op := Go.Op.call { callee := Go.Callee.value (Go.Operand.func 148), args := #[Go.Operand.tmp 10], argTypes := #[29] }, type := 90, pos := "l12_store.go:235", after := #[{ on := 0, ground := Go.Ground.data }], guard := Option.none }) rfl (fun K hK => ?_) AllReadyH.nil
      go_simp
      go_at_call 148
      refine Calls.mono (HKY.out _ (by exact bel2 HBA.out (by rfl) (by rfl) (by rfl) (by rfl))) ?_
      rintro e w9 ⟨A9, k9, rfl, hc9, hm9, hs9, hb9⟩
      have HB9 := Lib.hid (Below.trans (show Below w.heap.size w _ by exact bel2 HBA.out (by rfl) (by rfl) (by rfl) (by rfl)) (hb9.mono (show w.heap.size ≤ _ by exact HBA.out.size)))
      have HS9 := Lib.hid hs9
      have HX9 := Lib.hid ((hb9.block w.heap.size (by show w.heap.size < (w.alloc _).heap.size; simp)).trans (by exact HZA.out))
      have hz9 : w.heap.size < w9.heap.size := Nat.lt_of_lt_of_le (by show w.heap.size < (w.alloc _).heap.size; simp) hb9.size
      clear hb9 hs9
      (try go_wp2_with fail)
      refine hK.out _ _ (HSS.out _ HB9.out) (fun hHeld => ?_)
      clear hK K
      (try simp only [Act.put]); (try simp only [List.setIfInBounds_toArray]); (try simp only [List.set_cons_succ]); (try simp only [List.set_cons_zero])
      refine wpAnyH_ready (rs := [6]) (by kernel_rfl) (by simp) ?_
      refine AllReadyH.cons (o := { dst := Option.some 16, op := Go.Op.call { callee := Go.Callee.value (Go.Operand.func 147), args := #[Go.Operand.tmp 11, Go.Operand.tmp 15], argTypes := #[90, 3] }, type := 124, pos := "l12_store.go:235", after := #[{ on := 1, ground := Go.Ground.data }, { on := 5, ground := Go.Ground.data }, { on := 1, ground := Go.Ground.chain }], guard := Option.none }) rfl (fun K hK => ?_) AllReadyH.nil
      go_simp
      go_at_call 147
      refine Calls.mono (HSV.out _ _ _ HS9.out hc9 hm9) ?_
      rintro e w8 ⟨A8, k8, rfl, ho8, hb8⟩
      have HB8 := Lib.hid (HB9.out.trans (hb8.mono HB9.out.size))
      have HO8 := Lib.hid ho8
      have HX8 := Lib.hid ((hb8.block _ hz9).trans HX9.out)
      clear ho8 hb8
      (try go_wp2_with fail)
      refine hK.out _ _ (HSS.out _ HB8.out) (fun hHeld => ?_)
      clear hK K
      (try simp only [Act.put]); (try simp only [List.setIfInBounds_toArray]); (try simp only [List.set_cons_succ]); (try simp only [List.set_cons_zero])
      refine wpAnyH_takes (a' := ?a6_) [7, 8, 9] (k := 3) rfl (by kernel_rfl) (by kernel_rfl) (fun _ _ _ _ _ h => h) ?t6_ (by assumption) ?r6_
      case t6_ =>
        iterate 3
          apply takes_cons rfl
          · first | (refine Or.inl ⟨by rfl, fun w9 hSw => ?_⟩; clear hSw; go_simp; (first | done | with_reducible rfl))
          (try simp only [Act.put]); (try simp only [List.setIfInBounds_toArray]); (try simp only [List.set_cons_succ]); (try simp only [List.set_cons_zero])
        exact takes_nil
      have HBC := Lib.hid (svbox_set HB8.out HO8.out HX8.out (Nat.le_refl _) hz9 L M_ F K)
      obtain ⟨q0, q1, q2, q3, q4⟩ := sv_row HX8.out
      have r0 := frozen_of_row _ _ 0 _ _ HX8.out
      have r1 := frozen_of_row _ _ 1 _ _ HX8.out
      have r2 := frozen_of_row _ _ 2 _ _ HX8.out
      have r3 := frozen_of_row _ _ 3 _ _ HX8.out
      have r4 := frozen_of_row _ _ 4 _ _ HX8.out
      refine wpAnyH_ready (rs := [11]) (by kernel_rfl) (by simp) ?_
      refine AllReadyH.cons (o := { dst := Option.none, op := Go.Op.store 92 (Go.Operand.tmp 7) (Go.Operand.tmp 17), type := 0, pos := "l12_store.go:235", after := #[{ on := 10, ground := Go.Ground.data }, { on := 8, ground := Go.Ground.data }, { on := 6, ground := Go.Ground.chain }, { on := 0, ground := Go.Ground.phase }, { on := 1, ground := Go.Ground.phase }, { on := 2, ground := Go.Ground.phase }, { on := 3, ground := Go.Ground.phase }, { on := 4, ground := Go.Ground.phase }, { on := 5, ground := Go.Ground.phase }, { on := 6, ground := Go.Ground.phase }, { on := 7, ground := Go.Ground.phase }, { on := 8, ground := Go.Ground.phase }, { on := 9, ground := Go.Ground.textOnly Go.Departure.lateStores }, { on := 10, ground := Go.Ground.phase }], guard := Option.none }) rfl (fun K hK => ?_) AllReadyH.nil
      go_simp
      refine hK.out _ _ (HSS.out _ HBC.out.bel) (fun hHeld => ?_)
      clear hK K
      (try simp only [Act.put]); (try simp only [List.setIfInBounds_toArray]); (try simp only [List.set_cons_succ]); (try simp only [List.set_cons_zero])
      refine wpAnyH_takes (a' := ?a7_) [12] (k := 1) rfl (by kernel_rfl) (by kernel_rfl) (fun _ _ _ _ _ h => h) ?t7_ (by assumption) ?r7_
      case t7_ =>
        iterate 1
          apply takes_cons rfl
          · first | (refine Or.inl ⟨by rfl, fun w9 hSw => ?_⟩; clear hSw; go_simp; (first | done | with_reducible rfl))
          (try simp only [Act.put]); (try simp only [List.setIfInBounds_toArray]); (try simp only [List.set_cons_succ]); (try simp only [List.set_cons_zero])
        exact takes_nil
      refine wpAnyH_done (by kernel_rfl) ?_ _
      go_wp2_with fail
      go_meet
      exact ⟨_, _, rfl, rfl, HBC⟩
  case rest =>
    obtain ⟨bx, v, rfl, rfl, hq⟩ := hcut
    obtain ⟨te, pe, hce⟩ := HE.out.below hq.out.bel
    obtain ⟨A6, c6, hv6, -, -, -⟩ := hq.out.own.parts
    subst hv6
    have HQ := Lib.hid hq.out
    clear hq
    cases y with
    | false =>
      go_wp2
      go_ret
      exact .inr ⟨rfl, ⟨te, pe, rfl⟩, HQ.out.bel⟩
    | true =>
      by_cases hlong : r.length ≤ 8 * (n + 1)
      · have hng : ¬ 8 * ((n : Int) + 1) < (r.length : Int) := by omega
        have HLG := Lib.hid hlong
        obtain ⟨x0, x1, x2, x3, x4⟩ := sv_row HQ.out.row
        have hb0 := (HQ.out.bel.block g hgl).trans HBOX.out
        obtain ⟨u0, hu0⟩ := cell_in hb0 (o := 1 + n * 6) (by omega)
        have fr0 : wc.frozen? ⟨g, 1 + n * 6, none⟩ = false := box_free hb0
        obtain ⟨u1, hu1⟩ := cell_in hb0 (o := 1 + n * 6 + 1) (by omega)
        have fr1 : wc.frozen? ⟨g, 1 + n * 6 + 1, none⟩ = false := box_free hb0
        obtain ⟨u2, hu2⟩ := cell_in hb0 (o := 1 + n * 6 + 2) (by omega)
        have fr2 : wc.frozen? ⟨g, 1 + n * 6 + 2, none⟩ = false := box_free hb0
        obtain ⟨u3, hu3⟩ := cell_in hb0 (o := 1 + n * 6 + 3) (by omega)
        have fr3 : wc.frozen? ⟨g, 1 + n * 6 + 3, none⟩ = false := box_free hb0
        obtain ⟨u4, hu4⟩ := cell_in hb0 (o := 1 + n * 6 + 4) (by omega)
        have fr4 : wc.frozen? ⟨g, 1 + n * 6 + 4, none⟩ = false := box_free hb0
        obtain ⟨u5, hu5⟩ := cell_in hb0 (o := 1 + n * 6 + 5) (by omega)
        have fr5 : wc.frozen? ⟨g, 1 + n * 6 + 5, none⟩ = false := box_free hb0
        have HB0 := Lib.hid hb0
        clear hb0 hce hlong
        go_upto_region 4 with (go_at_call 149; refine Calls.mono (HMX.out _) ?_; rintro e w7 ⟨rfl, rfl⟩)
        obtain ⟨WF, hWF⟩ : ∃ W, W = ((((((wc.setCell ⟨g, 1 + n * 6, none⟩ (.slice A r.length c)).setCell ⟨g, 1 + n * 6 + 1, none⟩ (.string L)).setCell ⟨g, 1 + n * 6 + 2, none⟩ (.string M_)).setCell ⟨g, 1 + n * 6 + 3, none⟩ (.string F)).setCell ⟨g, 1 + n * 6 + 4, none⟩ (.slice A6 SR.length c6)).setCell ⟨g, 1 + n * 6 + 5, none⟩ (.int .i64 K)) := ⟨_, rfl⟩
        have HF1 := Lib.hid (show WF.heap[g]? = some (.cells (set6 cur n (.slice A r.length c) (.string L) (.string M_) (.string F) (.slice A6 SR.length c6) (.int .i64 K)) 119 (0, 0)) by rw [hWF]; exact box6 HB0.out _ _ _ _ _ _)
        have HF2 := Lib.hid (show Own WF w.heap.size (.slice A6 SR.length c6) SR by rw [hWF]; exact own_setFar (own_setFar (own_setFar (own_setFar (own_setFar (own_setFar (HQ.out.own) _ _ _ hgl) _ _ _ hgl) _ _ _ hgl) _ _ _ hgl) _ _ _ hgl) _ _ _ hgl)
        have HF3 := Lib.hid (show w.grownBy WF (some g) by rw [hWF]; exact grown_set (grown_set (grown_set (grown_set (grown_set (grown_set (grownOf HQ.out.bel g) _ _) _ _) _ _) _ _) _ _) _ _)
        have HWF := Lib.hid hWF
        clear hWF
        go_still_tail 8, (by kernel_rfl)
        change wpList _ _ _ _ _ wc.drew
        have hv0 : wc.drew.cell? ⟨g, 1 + n * 6, none⟩ = some u0 := hu0
        have gr0 : wc.drew.frozen? ⟨g, 1 + n * 6, none⟩ = false := fr0
        have hv1 : wc.drew.cell? ⟨g, 1 + n * 6 + 1, none⟩ = some u1 := hu1
        have gr1 : wc.drew.frozen? ⟨g, 1 + n * 6 + 1, none⟩ = false := fr1
        have hv2 : wc.drew.cell? ⟨g, 1 + n * 6 + 2, none⟩ = some u2 := hu2
        have gr2 : wc.drew.frozen? ⟨g, 1 + n * 6 + 2, none⟩ = false := fr2
        have hv3 : wc.drew.cell? ⟨g, 1 + n * 6 + 3, none⟩ = some u3 := hu3
        have gr3 : wc.drew.frozen? ⟨g, 1 + n * 6 + 3, none⟩ = false := fr3
        have hv4 : wc.drew.cell? ⟨g, 1 + n * 6 + 4, none⟩ = some u4 := hu4
        have gr4 : wc.drew.frozen? ⟨g, 1 + n * 6 + 4, none⟩ = false := fr4
        have hv5 : wc.drew.cell? ⟨g, 1 + n * 6 + 5, none⟩ = some u5 := hu5
        have gr5 : wc.drew.frozen? ⟨g, 1 + n * 6 + 5, none⟩ = false := fr5
        go_wp2
        rw [← HWF.out]
        go_ret
        exact .inl ⟨by rw [decide_eq_true HLG.out]; rfl, rfl, .slice A6 SR.length c6, filled_drew ⟨HF1.out, HF2.out, HF3.out⟩⟩
      · have hng : 8 * ((n : Int) + 1) < (r.length : Int) := by omega
        go_wp2_with (go_at_call 149; refine Calls.mono (HMX.out _) ?_; rintro e w7 ⟨rfl, rfl⟩)
        go_ret
        exact .inr ⟨by rw [decide_eq_false hlong]; rfl, ⟨te, pe, rfl⟩, HQ.out.bel⟩

end Go.Proofs.YtfhpkcamigkmdaaGreatDoor.W
namespace Go.Proofs.YtfhpkcamigkmdaaGreatDoor.W
open Go.ChangeShapes Go.WideShapes Go.ChangeAt Go.RowKit

def laid1 : List (String × DataW Unit) := [("loop.example/temse/impl.errNoRoom", Rows.laid_loop_example_temse_impl_errNoRoom)]
theorem gNo : Tryz.prog.globalNamed "loop.example/temse/impl.errNoRoom" = some 0 := by kernel_rfl
theorem tNo : (Tryz.prog.globals[0]?).map (·.type) = some 76 := by kernel_rfl
theorem cErrN : Tryz.prog.cellsOf 266 = 1 := by kernel_rfl
theorem cStrN : Tryz.prog.cellsOf 9 = 1 := by kernel_rfl
theorem starN : ("*errors.errorString" : String) = "*" ++ "errors.errorString" := by decide
theorem rowErrN (u : TypeId) (h : Tryz.prog.typeName? 3 u = some "*errors.errorString") : u = 242 :=
  typeName_ptr_named (nm := "errors.errorString") (by rw [← starN]; kernel_rfl) (by kernel_rfl) (by decide) u (by rw [← starN]; exact h)
theorem of_laid1 {W : World} (h : laidMetH Tryz.prog laid1 W) : NoRoom W := by
  rw [MakeChecks.laidMetH_plain _ _ _ (by kernel_rfl)] at h
  obtain ⟨a1, s1, hv1, -, -, -⟩ := laid_sentinel h gNo tNo Tryz.underlying76 rowErrN Tryz.underlying242 Tryz.underlying266 rfl rfl Tryz.underlying9 cErrN cStrN
  have := World.var?_cell gNo hv1 0
  exact ⟨_, _, by simpa using this⟩
set_option maxRecDepth 100000 in
theorem door1 (os : Os) (args : Array Value) : laidMetH Tryz.prog laid1 ((World.doorLaid Tryz.prog 400 os).forCall (fun _ _ => 0) ⟨#[], args, []⟩).memory :=
  laidMetH_of_parts3 (fuel := 8) (laidMet_of_run' 8 (by kernel_rfl) (by kernel_rfl)) (by kernel_rfl) (by kernel_rfl)

end Go.Proofs.YtfhpkcamigkmdaaGreatDoor.W
