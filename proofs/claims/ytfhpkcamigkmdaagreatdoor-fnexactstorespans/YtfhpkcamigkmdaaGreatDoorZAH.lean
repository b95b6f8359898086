/-
  The keys of a run, the model's and the program's.
  Whether an entry can be found, as the model says it.
  The size of entries that came in, as an exact law reckons it.
  Entries in memory of the call's own; entries that came in, handed on: a copy in new memory.
  What was put last, as the model looks for it.
  Contracts of the model's l12Size, l12Times and l12Newest.
  Contract of the model's l12Newest.
  Stores in memory: levels (slices of slices of entries), filters of levels, and a store's six parts; what keeps them.
-/
import Derived.Test.YtfhpkcamigkmdaaGreatDoorZAA
import Derived.Test.YtfhpkcamigkmdaaGreatDoorZAG
import Derived.Test.YtfhpkcamigkmdaaGreatDoorE2
import Derived.Deep.RegionHeld
import Derived.Laws.CopyOwn
namespace Go.Proofs.YtfhpkcamigkmdaaGreatDoor.W
open Go.RowKit K R

theorem new_zero (l : List En) : newAt l 0 = true := rfl
theorem new_pos {l : List En} {j k : Nat} (hj : j + 1 = k) (h : k < l.length) : newAt l k = !((l[j]'(by omega)).key.toList == l[k].key.toList) := by
  subst hj
  unfold newAt
  rw [decide_eq_false (by omega), Bool.false_or, en_at h, Nat.add_sub_cancel, en_at (by omega)]
  rfl
theorem key_at {l : List En} {k : Nat} (h : k < l.length) : (en l k).key = l[k].key := by rw [en_at h]

set_option maxHeartbeats 4000000 in
set_option maxRecDepth 100000 in
theorem followsI (w : World) (B n c k : Nat) (A : Option Addr) (l : List En) (hr : Ents w B A n l) (hn : n ≤ maxLen) (hk : k < l.length) :
    Calls Tryz.prog 181 #[.slice A n c, .int .i64 k] w fun e w' => e = .returned (.bool (!newAt l k)) ∧ Same w w' := by
  have hlen := hr.len
  subst hlen
  unfold maxLen at hn
  have HR := Lib.hid hr
  clear hr
  by_cases hk0 : k = 0
  · subst hk0
    go_enter Tryz.func181, Tryz.ntmps181
    go_wp2_with fail
    refine wp_region_held_drew (S := (fun _ : World => True)) (by kernel_rfl) (trivial) (fun hHeld => ?_)
    refine wpAnyH_takes (a' := ?a1_) [0, 1, 2, 3, 4, 5, 6, 7, 8, 9, 10, 11, 12, 13, 14, 15, 16] (k := 17) rfl (by kernel_rfl) (by kernel_rfl) (fun _ _ _ _ _ h => h) ?t1_ (by assumption) ?r1_
    case t1_ =>
      iterate 17
        apply takes_cons rfl
        · first | (refine Or.inl ⟨by rfl, fun w9 hSw => ?_⟩; clear hSw; go_simp; (first | done | with_reducible rfl)) | exact Or.inr ⟨by rfl, rfl⟩
        (try simp only [Act.put]); (try simp only [List.setIfInBounds_toArray]); (try simp only [List.set_cons_succ]); (try simp only [List.set_cons_zero])
      exact takes_nil
    refine wpAnyH_done (by kernel_rfl) ?_ _
    go_wp2
    go_ret
    exact ⟨by rw [new_zero]; rfl, ⟨1, rfl⟩⟩
  · obtain ⟨j, hjk⟩ : ∃ j, j + 1 = k := ⟨k - 1, by omega⟩
    have hjl : j < l.length := by omega
    obtain ⟨kb, ko, hA, hkb, c0, -⟩ := HR.out.cell k hk
    obtain ⟨jb, jo, hA2, hjb, d0, -⟩ := HR.out.cell j hjl
    subst hA
    injection hA2 with hA2
    injection hA2 with e1 e2
    subst e1 e2
    have HNE := Lib.hid (new_pos hjk hk)
    obtain ⟨x0, h0⟩ : ∃ y, y = l[k].key := ⟨_, rfl⟩
    obtain ⟨y0, g0⟩ : ∃ y, y = l[j].key := ⟨_, rfl⟩
    rw [← h0] at c0 HNE
    rw [← g0] at d0 HNE
    have hwr : IntKind.i64.wrap ((k : Int) - 1) = (j : Nat) := i64_n j (by omega) _ (by omega)
    have y0' : (0 : Int) ≤ (j : Int) := by omega
    have y1' : (j : Int) < (l.length : Int) := by omega
    have y2' : (0 : Int) < (k : Int) := by omega
    have y3' : 0 < k := by omega
    have y4' : decide (0 < k) = true := by simpa using y3'
    have y5' : decide ((0 : Int) < (k : Int)) = true := by simpa using y3'
    have z0 : (0 : Int) ≤ (k : Int) := by omega
    have z1 : (k : Int) < (l.length : Int) := by omega
    have HSS := Lib.hid (show (fun W : World => W.cell? ⟨kb, ko + j * 4, none⟩ = some (.string y0) ∧ W.cell? ⟨kb, ko + k * 4, none⟩ = some (.string x0)) w.drew from ⟨d0, c0⟩)
    obtain ⟨b, hb⟩ : ∃ b, (y0.toList == x0.toList) = b := ⟨_, rfl⟩
    rw [hb] at HNE
    clear c0 d0 h0 g0 hk0 hjk
    go_enter Tryz.func181, Tryz.ntmps181
    go_wp2_with fail
    refine wp_region_held_drew (S := (fun W : World => W.cell? ⟨kb, ko + j * 4, none⟩ = some (.string y0) ∧ W.cell? ⟨kb, ko + k * 4, none⟩ = some (.string x0))) (by kernel_rfl) (HSS.out) (fun hHeld => ?_)
    refine wpAnyH_takes (a' := ?a2_) [0, 1, 2, 3, 4, 5, 6, 7, 8, 9, 10, 11, 12, 13, 14, 15, 16] (k := 17) rfl (by kernel_rfl) (by kernel_rfl) (fun _ _ _ _ _ h => h) ?t2_ (by assumption) ?r2_
    case t2_ =>
      iterate 17
        apply takes_cons rfl
        · first | (refine Or.inl ⟨by rfl, fun w9 hSw => ?_⟩; clear hSw; go_simp; (first | done | with_reducible rfl)) | (refine Or.inl ⟨by rfl, fun w9 hSw => ?_⟩; obtain ⟨f0, f1⟩ := hSw; go_simp; (first | done | with_reducible rfl))
        (try simp only [Act.put]); (try simp only [List.setIfInBounds_toArray]); (try simp only [List.set_cons_succ]); (try simp only [List.set_cons_zero])
      exact takes_nil
    refine wpAnyH_done (by kernel_rfl) ?_ _
    go_wp2
    go_ret
    exact ⟨by rw [HNE.out, Bool.not_not]; rfl, ⟨1, rfl⟩⟩

set_option maxHeartbeats 8000000 in
set_option maxRecDepth 100000 in
theorem keysOfS (w : World) (B n c : Nat) (A : Option Addr) (l : List En) (hr : Ents w B A n l) (hB : B ≤ w.heap.size) (hn : n ≤ 1073741824) :
    Calls Tryz.prog 76 #[.slice A n c] w (New w (keysL l)) := by
  have hlen := hr.len
  subst hlen
  have HR := Lib.hid hr
  clear hr
  have E5 := Lib.hid (Own.empty w w.heap.size (Nat.le_refl _))
  have G5 := Lib.hid ((Below.refl w.heap.size w).alloc (Nat.le_refl _) (.cells #[] 9))
  go_enter Tryz.func76, Tryz.ntmps76
  go_wp2_with fail
  go_loopw [3, 4] (fun s i wr => ∃ (k : Nat) (v : Value), k ≤ l.length ∧ i = .int .i64 (k : Nat) ∧ s = v ∧ Own wr w.heap.size v (keysUp l k) ∧ Below w.heap.size w wr) (fun _ i _ => l.length - (intOf i).toNat)
  case atStart => exact ⟨0, _, Nat.zero_le _, rfl, rfl, E5.out, G5.out⟩
  case round =>
    obtain ⟨k, s0, hk, rfl, hs0, ho, hbl⟩ := hrel
    have hs1 := hs0.symm
    clear hs0
    subst hs1
    have HO := Lib.hid ho
    have HBL := Lib.hid hbl
    clear ho hbl E5 G5
    by_cases hlt : k < l.length
    · obtain ⟨kb, ko, hA, hkb, c0, -⟩ := HR.out.cell k hlt
      subst hA
      obtain ⟨x0, h0⟩ : ∃ y, y = l[k].key := ⟨_, rfl⟩
      rw [← h0] at c0
      have HKE := Lib.hid (show (en l k).key = x0 by rw [key_at hlt, h0])
      have hkb' : kb < w.heap.size := Nat.lt_of_lt_of_le hkb hB
      have z0 : (0 : Int) ≤ (k : Int) := by omega
      have z1 : (k : Int) < (l.length : Int) := by omega
      by_cases hk0 : k = 0
      · subst hk0
        have HNW := Lib.hid (new_zero l)
        obtain ⟨wd, hwd⟩ : ∃ W, W = wr.drew := ⟨_, rfl⟩
        have HOD := Lib.hid (show Own wd w.heap.size s0 (keysUp l 0) by rw [hwd]; exact HO.out)
        have HBD := Lib.hid (show Below w.heap.size w wd by rw [hwd]; exact bel2 HBL.out rfl rfl rfl rfl)
        have r0 : wd.cell? ⟨kb, ko, none⟩ = some (.string x0) := by have h := (HBD.out.cell (p := ⟨kb, ko + 0 * 4, none⟩) hkb').trans c0; simpa using h
        have HWD := Lib.hid hwd
        have zz : (0 : Int) < (l.length : Int) := by omega
        clear c0 h0 hwd
        go_wp2_with fail
        refine wp_region_held_drew (S := (fun W : World => True)) (by kernel_rfl) (trivial) (fun hHeld => ?_)
        refine wpAnyH_takes (a' := ?a3_) [0, 1, 2, 3, 4, 5, 6, 7, 8, 9, 10, 11, 12, 13, 14, 15] (k := 16) rfl (by kernel_rfl) (by kernel_rfl) (fun _ _ _ _ _ h => h) ?t3_ (by assumption) ?r3_
        case t3_ =>
          iterate 16
            apply takes_cons rfl
            · first | (refine Or.inl ⟨by rfl, fun w9 hSw => ?_⟩; clear hSw; go_simp; (first | done | with_reducible rfl)) | exact Or.inr ⟨by rfl, rfl⟩
            (try simp only [Act.put]); (try simp only [List.setIfInBounds_toArray]); (try simp only [List.set_cons_succ]); (try simp only [List.set_cons_zero])
          exact takes_nil
        refine wpAnyH_done (by kernel_rfl) ?_ _
        rw [← HWD.out]
        go_wp2_with (at_builtin; refine app_own rfl (.tmp 28) (.tmp 34) rfl _ w.heap.size _ (keysUp l 0) rfl (HOD.out.alloc _) (wd.heap.size + 1) 1 1 _ [x0] rfl (one_strs wd x0) (by have := keysUp_len l 0; omega) (by have := HBD.out.size; simp; omega) ?_; intro vb wb ob gb; have OB := Lib.hid ob; have BB := Lib.hid (Below.app (HBD.out.alloc HBD.out.size _) (HOD.out.alloc _) (Nat.le_refl _) gb (by have := HBD.out.size; simp; omega)); clear ob gb)
        go_roundw
        case rel => exact ⟨0 + 1, _, by omega, by go_num, rfl, by rw [keysUp_new HNW.out, HKE.out]; exact OB.out, BB.out⟩
        case measure => simp [intOf]; omega
      · obtain ⟨j, hjk⟩ : ∃ j, j + 1 = k := ⟨k - 1, by omega⟩
        have hjl : j < l.length := by omega
        obtain ⟨jb, jo, hA2, hjb, d0, -⟩ := HR.out.cell j hjl
        injection hA2 with hA2
        injection hA2 with e1 e2
        subst e1 e2
        have hne := new_pos hjk hlt
        obtain ⟨y0, g0⟩ : ∃ y, y = l[j].key := ⟨_, rfl⟩
        rw [← h0, ← g0] at hne
        rw [← g0] at d0
        have hwr : IntKind.i64.wrap ((k : Int) - 1) = (j : Nat) := i64_n j (by omega) _ (by omega)
        have y0' : (0 : Int) ≤ (j : Int) := by omega
        have y1' : (j : Int) < (l.length : Int) := by omega
        have y2' : ¬ (k : Int) = 0 := by omega
        have y3' : ¬ k = 0 := hk0
        have y4' : decide (k = 0) = false := by simpa using y3'
        have y5' : ((k : Int) == 0) = false := by simpa using y3'
        obtain ⟨wd, hwd⟩ : ∃ W, W = wr.drew := ⟨_, rfl⟩
        have HOD := Lib.hid (show Own wd w.heap.size s0 (keysUp l k) by rw [hwd]; exact HO.out)
        have HBD := Lib.hid (show Below w.heap.size w wd by rw [hwd]; exact bel2 HBL.out rfl rfl rfl rfl)
        have r0 : wd.cell? ⟨kb, ko + k * 4, none⟩ = some (.string x0) := (HBD.out.cell (p := ⟨kb, ko + k * 4, none⟩) hkb').trans c0
        have HSS := Lib.hid (show (fun W : World => W.cell? ⟨kb, ko + j * 4, none⟩ = some (.string y0) ∧ W.cell? ⟨kb, ko + k * 4, none⟩ = some (.string x0)) wr.drew from by rw [← hwd]; exact ⟨(HBD.out.cell (p := ⟨kb, ko + j * 4, none⟩) hkb').trans d0, r0⟩)
        have HWD := Lib.hid hwd
        clear c0 d0 h0 g0 hjk hwd hk0
        rcases Bool.eq_false_or_eq_true (y0.toList == x0.toList) with hq | hq
        · rw [hq] at hne
          have HNW := Lib.hid hne
          clear hne
          go_wp2_with fail
          refine wp_region_held_drew (S := (fun W : World => W.cell? ⟨kb, ko + j * 4, none⟩ = some (.string y0) ∧ W.cell? ⟨kb, ko + k * 4, none⟩ = some (.string x0))) (by kernel_rfl) (HSS.out) (fun hHeld => ?_)
          refine wpAnyH_takes (a' := ?a4_) [0, 1, 2, 3, 4, 5, 6, 7, 8, 9, 10, 11, 12, 13, 14, 15] (k := 16) rfl (by kernel_rfl) (by kernel_rfl) (fun _ _ _ _ _ h => h) ?t4_ (by assumption) ?r4_
          case t4_ =>
            iterate 16
              apply takes_cons rfl
              · first | (refine Or.inl ⟨by rfl, fun w9 hSw => ?_⟩; clear hSw; go_simp; (first | done | with_reducible rfl)) | (refine Or.inl ⟨by rfl, fun w9 hSw => ?_⟩; obtain ⟨f0, f1⟩ := hSw; go_simp; (first | done | with_reducible rfl))
              (try simp only [Act.put]); (try simp only [List.setIfInBounds_toArray]); (try simp only [List.set_cons_succ]); (try simp only [List.set_cons_zero])
            exact takes_nil
          refine wpAnyH_done (by kernel_rfl) ?_ _
          rw [← HWD.out]
          go_wp2
          go_roundw
          case rel => exact ⟨k + 1, _, by omega, by go_num, rfl, by rw [keysUp_old HNW.out]; exact HOD.out, HBD.out⟩
          case measure => simp [intOf]; omega
        · rw [hq] at hne
          have HNW := Lib.hid hne
          clear hne
          go_wp2_with fail
          refine wp_region_held_drew (S := (fun W : World => W.cell? ⟨kb, ko + j * 4, none⟩ = some (.string y0) ∧ W.cell? ⟨kb, ko + k * 4, none⟩ = some (.string x0))) (by kernel_rfl) (HSS.out) (fun hHeld => ?_)
          refine wpAnyH_takes (a' := ?a5_) [0, 1, 2, 3, 4, 5, 6, 7, 8, 9, 10, 11, 12, 13, 14, 15] (k := 16) rfl (by kernel_rfl) (by kernel_rfl) (fun _ _ _ _ _ h => h) ?t5_ (by assumption) ?r5_
          case t5_ =>
            iterate 16
              apply takes_cons rfl
              · first | (refine Or.inl ⟨by rfl, fun w9 hSw => ?_⟩; clear hSw; go_simp; (first | done | with_reducible rfl)) | (refine Or.inl ⟨by rfl, fun w9 hSw => ?_⟩; obtain ⟨f0, f1⟩ := hSw; go_simp; (first | done | with_reducible rfl))
              (try simp only [Act.put]); (try simp only [List.setIfInBounds_toArray]); (try simp only [List.set_cons_succ]); (try simp only [List.set_cons_zero])
            exact takes_nil
          refine wpAnyH_done (by kernel_rfl) ?_ _
          rw [← HWD.out]
          go_wp2_with (at_builtin; refine app_own rfl (.tmp 28) (.tmp 34) rfl _ w.heap.size _ (keysUp l k) rfl (HOD.out.alloc _) (wd.heap.size + 1) 1 1 _ [x0] rfl (one_strs wd x0) (by have := keysUp_len l k; omega) (by have := HBD.out.size; simp; omega) ?_; intro vb wb ob gb; have OB := Lib.hid ob; have BB := Lib.hid (Below.app (HBD.out.alloc HBD.out.size _) (HOD.out.alloc _) (Nat.le_refl _) gb (by have := HBD.out.size; simp; omega)); clear ob gb)
          go_roundw
          case rel => exact ⟨k + 1, _, by omega, by go_num, rfl, by rw [keysUp_new HNW.out, HKE.out]; exact OB.out, BB.out⟩
          case measure => simp [intOf]; omega
    · have hke : k = l.length := by omega
      subst hke
      go_wp2
      go_ret
      exact ⟨_, rfl, HO.out, HBL.out⟩

end Go.Proofs.YtfhpkcamigkmdaaGreatDoor.W
namespace Go.Proofs.YtfhpkcamigkmdaaGreatDoor.W
open Go.RowKit K R

/-- a slice of numbers reads as l, in blocks below B -/
structure Nums (w : World) (B : Nat) (A : Option Addr) (n : Nat) (l : List Int) : Prop where
  len : l.length = n
  cell : ∀ i (h : i < l.length), ∃ b off : Nat, A = some ⟨b, off, none⟩ ∧ b < B ∧ w.cell? ⟨b, off + i, none⟩ = some (.int .i64 l[i])
theorem Nums.below {w w' : World} {B B' n : Nat} {A : Option Addr} {l : List Int} (h : Nums w B A n l) (hb : Below B' w w') (hB : B ≤ B') : Nums w' B A n l :=
  ⟨h.len, fun i hi => by
    obtain ⟨b, off, hA, hlt, c0⟩ := h.cell i hi
    exact ⟨b, off, hA, hlt, (hb.cell (p := ⟨b, off + i, none⟩) (Nat.lt_of_lt_of_le hlt hB)).trans c0⟩⟩
end Go.Proofs.YtfhpkcamigkmdaaGreatDoor.W
namespace Go.Proofs.YtfhpkcamigkmdaaGreatDoor.W
open Go.RowKit K R

theorem i64_z (a : Int) (h1 : -9223372036854775808 ≤ a) (h2 : a ≤ 9223372036854775807) : IntKind.i64.wrap a = a := IntWalk.i64_in _ ⟨by omega, by omega⟩
set_option maxHeartbeats 2000000 in
theorem szEn (k : ByteArray) (v : Int) (g : Bool) (t : Int) (x : Int) (w : World) (hx0 : 0 ≤ x) (hx1 : x ≤ 1048576) (hk : k.size ≤ maxLen) :
    Calls Tryz.prog 91 #[.agg #[.string k, .int .i64 v, .bool g, .int .i64 t], .int .i64 x] w fun e w' => e = .returned (.int .i64 (if x - k.size < 0 then -1 else x - k.size)) ∧ Below w.heap.size w w' := by
  unfold maxLen at hk
  obtain ⟨y, hy⟩ : ∃ y : Int, y = x - k.size := ⟨_, rfl⟩
  have hw : IntKind.i64.wrap (x - (k.size : Int)) = y := by rw [hy]; exact i64_z _ (by omega) (by omega)
  rw [← hy]
  clear hy
  by_cases h : y < 0
  · rw [if_pos h]
    go_enter Tryz.func91, Tryz.ntmps91
    go_wp2
    go_ret
    exact ⟨rfl, (Below.refl _ _).alloc (Nat.le_refl _) _⟩
  · rw [if_neg h]
    go_enter Tryz.func91, Tryz.ntmps91
    go_wp2
    go_ret
    exact ⟨rfl, (Below.refl _ _).alloc (Nat.le_refl _) _⟩

end Go.Proofs.YtfhpkcamigkmdaaGreatDoor.W
namespace Go.Proofs.YtfhpkcamigkmdaaGreatDoor.W
open Go.RowKit K R

theorem entry_size : (Tryz.prog.info? 83).map (·.size) = some 4 := by kernel_rfl
theorem two_below' (w : World) (o o2 : Obj) : Below w.heap.size w ((w.alloc o).alloc o2) := ((Below.refl _ _).alloc (Nat.le_refl _) _).alloc (by simp) _
set_option maxHeartbeats 2000000 in
theorem toEn (k : ByteArray) (v : Int) (g : Bool) (t : Int) (w : World) :
    Calls Tryz.prog 96 #[.agg #[.string k, .int .i64 v, .bool g, .int .i64 t]] w fun e w' => e = .returned (.agg #[.string k, .int .i64 v, .bool g, .int .i64 t]) ∧ Below w.heap.size w w' := by
  go_enter Tryz.func96, Tryz.ntmps96
  go_wp2
  refine bodyPost_ret (v := .agg #[.string k, .int .i64 v, .bool g, .int .i64 t]) ?_ rfl ⟨rfl, ?_⟩
  · refine results_cell_row rfl _ _ (w.heap.size + 1) 83 #[.string k, .int .i64 v, .bool g, .int .i64 t] (0, 0) _ rfl ?_ Tryz.underlying83 rfl entry_size
    rw [Below.heap_alloc _ _ _ (by simp)]
    have := heap_alloc_new (w.alloc (.cells #[.string k, .int .i64 v, .bool g, .int .i64 t] 106)) (.cells #[.string k, .int .i64 v, .bool g, .int .i64 t] 83)
    rw [World.size_alloc] at this
    exact this
  · exact (two_below' w _ _).alloc (by simp; omega) _

/-- the cells of an entry -/
def enC (e : En) : List Value := [.string e.key, .int .i64 e.val, .bool e.gone, .int .i64 e.time]
def cellsE (l : List En) : List Value := l.flatMap enC
theorem cellsE_len (l : List En) : (cellsE l).length = l.length * 4 := by
  unfold cellsE
  induction l with
  | nil => rfl
  | cons e t ih => rw [List.flatMap_cons, List.length_append, ih, List.length_cons]; show 4 + t.length * 4 = _; omega
theorem cellsE_split {l : List En} {i : Nat} (h : i < l.length) : cellsE l = cellsE (l.take i) ++ (enC l[i] ++ cellsE (l.drop (i + 1))) := by
  have e : l = l.take i ++ l[i] :: l.drop (i + 1) := by rw [List.getElem_cons_drop, List.take_append_drop]
  conv => lhs; rw [e]
  unfold cellsE
  rw [List.flatMap_append, List.flatMap_cons]
theorem cellsE_at {l : List En} {i : Nat} (h : i < l.length) (j : Nat) (hj : j < 4) : (cellsE l)[i * 4 + j]? = (enC l[i])[j]? := by
  have hl : (cellsE (l.take i)).length = i * 4 := by rw [cellsE_len, List.length_take, Nat.min_eq_left (by omega)]
  rw [cellsE_split h, List.getElem?_append_right (by omega), hl, Nat.add_sub_cancel_left, List.getElem?_append_left (by show j < 4; exact hj)]
theorem cellsE_set {l : List En} {i : Nat} (h : i < l.length) (e : En) :
    ((((cellsE l).set (i * 4) (.string e.key)).set (i * 4 + 1) (.int .i64 e.val)).set (i * 4 + 2) (.bool e.gone)).set (i * 4 + 3) (.int .i64 e.time) = cellsE (l.set i e) := by
  have hl : (cellsE (l.take i)).length = i * 4 := by rw [cellsE_len, List.length_take, Nat.min_eq_left (by omega)]
  have h2 : cellsE (l.set i e) = cellsE (l.take i) ++ (enC e ++ cellsE (l.drop (i + 1))) := by
    rw [cellsE_split (by rw [List.length_set]; exact h), List.take_set, List.set_eq_of_length_le (by rw [List.length_take]; omega), List.drop_set, if_pos (by omega)]
    simp
  rw [h2, cellsE_split h]
  rw [List.set_append_right _ _ (by omega), List.set_append_right _ _ (by omega), List.set_append_right _ _ (by omega), List.set_append_right _ _ (by omega), hl]
  simp only [Nat.sub_self, Nat.add_sub_cancel_left]
  unfold enC
  rfl
/-- the slice v holds the entries l, in a row of the call's own, from block 'base' on -/
abbrev OwnE (w : World) (base : Nat) (v : Value) (l : List En) : Prop := w.ownsRow base 83 4 v l.length (cellsE l)
theorem rowSet {E : TypeId} {sz : Nat} {w : World} {base g n c : Nat} {cs : List Value} (h : w.ownsRow base E sz (.slice (some ⟨g, 0, none⟩) n c) n cs) (i : Nat) (x : Value) :
    (w.setCell ⟨g, i, none⟩ x).ownsRow base E sz (.slice (some ⟨g, 0, none⟩) n c) n (cs.set i x) := by
  refine ⟨by rw [List.length_set]; exact h.1, ?_⟩
  rcases h.2 with ⟨hv, _⟩ | ⟨g', cap, cur, hv, hb, hg, hc, hm, hs, ht⟩
  · injection hv with e; cases e
  · injection hv with e1 e2 e3
    injection e1 with e1
    injection e1 with e1
    subst e1 e3
    refine .inr ⟨g, c, cur.setIfInBounds i x, rfl, hb, heap_setCell_same _ _ _ _ _ _ hg, hc, hm, by simpa using hs, ?_⟩
    rw [Array.toList_setIfInBounds, List.take_set, ht]
theorem rowFree {E : TypeId} {sz : Nat} {w : World} {base g n c : Nat} {cs : List Value} (h : w.ownsRow base E sz (.slice (some ⟨g, 0, none⟩) n c) n cs) (i : Nat) : w.frozen? ⟨g, i, none⟩ = false := by
  rcases h.2 with ⟨hv, _⟩ | ⟨g', cap, cur, hv, hb, hg, _⟩
  · injection hv with e; cases e
  · injection hv with e1
    injection e1 with e1
    injection e1 with e1
    subst e1
    exact frozen_of_row _ _ _ _ _ hg
theorem rowGet {E : TypeId} {sz : Nat} {w : World} {base g n c : Nat} {cs : List Value} (h : w.ownsRow base E sz (.slice (some ⟨g, 0, none⟩) n c) n cs) {i : Nat} {u : Value} (hi : cs[i]? = some u) : w.cell? ⟨g, i, none⟩ = some u := by
  have := h.cells (g := g) rfl i u hi
  have hadd : (⟨g, 0, none⟩ : Addr).add i = ⟨g, 0 + i, none⟩ := by unfold Addr.add; split <;> simp_all
  rw [hadd, Nat.zero_add] at this
  exact this
theorem OwnE.ents {w : World} {base g n c : Nat} {l : List En} (h : w.ownsRow base 83 4 (.slice (some ⟨g, 0, none⟩) n c) n (cellsE l)) (hn : l.length = n) : Ents w w.heap.size (some ⟨g, 0, none⟩) n l :=
  ⟨hn, fun i hi => by
    have hlt := (World.ownsRow.lt h g rfl).2
    refine ⟨g, 0, rfl, hlt, ?_, ?_, ?_, ?_⟩
    · rw [Nat.zero_add]; exact rowGet h (by rw [show i * 4 = i * 4 + 0 from rfl, cellsE_at hi 0 (by omega)]; rfl)
    · rw [Nat.zero_add]; exact rowGet h (by rw [cellsE_at hi 1 (by omega)]; rfl)
    · rw [Nat.zero_add]; exact rowGet h (by rw [cellsE_at hi 2 (by omega)]; rfl)
    · rw [Nat.zero_add]; exact rowGet h (by rw [cellsE_at hi 3 (by omega)]; rfl)⟩
def blankE : En := ⟨⟨#[]⟩, 0, false, 0⟩
theorem copyE_step {l : List En} {k : Nat} (h : k < l.length) : (l.take k ++ List.replicate (l.length - k) blankE).set k l[k] = l.take (k + 1) ++ List.replicate (l.length - (k + 1)) blankE := by
  have hl : (l.take k).length = k := by rw [List.length_take]; omega
  rw [show l.length - k = (l.length - (k + 1)) + 1 by omega, List.replicate_succ, List.set_append_right _ _ (by omega), hl, Nat.sub_self, List.set_cons_zero, List.take_succ_eq_append_getElem h, List.append_assoc]
  rfl

end Go.Proofs.YtfhpkcamigkmdaaGreatDoor.W
namespace Go.Proofs.YtfhpkcamigkmdaaGreatDoor.W
open Go.RowKit K R

theorem ret_two {fn : Func} {p u : Tmp} {ty : TypeId} (h : fn.results = #[.cell p ty, .tmp u]) (tmps : Array Value) (w : World) (g : Nat) (cs : Array Value) (x : Value)
    (hp : tmps.getD p undef = .pointer (some ⟨g, 0, none⟩)) (hx : tmps.getD u undef = x) (hl : (loadVar ty ⟨g, 0, none⟩).run Tryz.prog w = .ok (.agg cs) w) :
    (results fn tmps).run Tryz.prog w = .ok (.tuple #[.agg cs, x]) w := by
  rw [results_cell_tmp h, hp, hx]
  simp [asAddr, Result.andThen, hl]
theorem load_entry {w : World} {g : Nat} {x0 x1 x2 x3 : Value} (hg : w.heap[g]? = some (.cells #[x0, x1, x2, x3] 83 (0, 0))) : (loadVar 83 ⟨g, 0, none⟩).run Tryz.prog w = .ok (.agg #[x0, x1, x2, x3]) w :=
  run_loadVar_row w g _ _ _ (0, 0) _ hg Tryz.underlying83 rfl entry_size
/-- an entry or none, as Go hands it back -/
def atE (o : Option En) : En := o.getD blankE
def atV (o : Option En) : Value := .tuple #[.agg #[.string (atE o).key, .int .i64 (atE o).val, .bool (atE o).gone, .int .i64 (atE o).time], .bool o.isSome]
/-- none of the first entries is it -/
def noAt (l : List En) (kk : ByteArray) (t : Int) (k : Nat) : Prop := ∀ i (h : i < l.length), i < k → (eqs l[i].key kk && decide (l[i].time ≤ t)) = false
theorem noAt_zero (l : List En) (kk : ByteArray) (t : Int) : noAt l kk t 0 := fun i _ h => by omega
theorem noAt_succ {l : List En} {kk : ByteArray} {t : Int} {k : Nat} (h : k < l.length) (hn : noAt l kk t k) (e : (eqs l[k].key kk && decide (l[k].time ≤ t)) = false) : noAt l kk t (k + 1) := fun i hi h1 => by
  by_cases hik : i = k
  · subst hik; exact e
  · exact hn i hi (by omega)
theorem at_hit : ∀ {l : List En} {kk : ByteArray} {t : Int} {k : Nat} (h : k < l.length), noAt l kk t k → (eqs l[k].key kk && decide (l[k].time ≤ t)) = true → atL l kk t = some l[k]
  | a :: l, kk, t, 0, h, _, e => by
    unfold atL
    rw [List.find?_cons]
    simp only [List.getElem_cons_zero] at e
    rw [e]; rfl
  | a :: l, kk, t, k + 1, h, hn, e => by
    have h0 := hn 0 (by simp) (by omega)
    simp only [List.getElem_cons_zero] at h0
    unfold atL
    rw [List.find?_cons, h0]
    simp only [List.getElem_cons_succ] at e ⊢
    exact at_hit (by simp at h; omega) (fun i hi h1 => by have := hn (i + 1) (by simp; omega) (by omega); simpa using this) e
theorem at_miss {l : List En} {kk : ByteArray} {t : Int} (hn : noAt l kk t l.length) : atL l kk t = none := by
  unfold atL
  rw [List.find?_eq_none]
  intro x hx
  obtain ⟨i, hi, rfl⟩ := List.getElem_of_mem hx
  rw [hn i hi hi]
  decide

set_option maxHeartbeats 4000000 in
theorem atS (w : World) (B n c : Nat) (A : Option Addr) (l : List En) (kk : ByteArray) (t : Int) (hr : Ents w B A n l) (hB : B ≤ w.heap.size) (hn : n ≤ maxLen) :
    Calls Tryz.prog 112 #[.slice A n c, .string kk, .int .i64 t] w fun e w' => e = .returned (atV (atL l kk t)) ∧ Below w.heap.size w w' := by
  have hlen := hr.len
  subst hlen
  unfold maxLen at hn
  have HR := Lib.hid hr
  clear hr
  go_enter Tryz.func112, Tryz.ntmps112
  go_wp2_with fail
  go_loopw [8] (fun i wr => ∃ k : Nat, k ≤ l.length ∧ i = .int .i64 (k : Nat) ∧ noAt l kk t k ∧ wr = w.alloc (.cells #[.string ⟨#[]⟩, .int .i64 0, .bool false, .int .i64 0] 83)) (fun i _ => l.length - (intOf i).toNat)
  case atStart => exact ⟨0, Nat.zero_le _, rfl, noAt_zero l kk t, rfl⟩
  case round =>
    obtain ⟨k, hk, rfl, hno, rfl⟩ := hrel
    have HN := Lib.hid hno
    clear hno
    by_cases hlt : k < l.length
    · have hbw : Below w.heap.size w (w.alloc (.cells #[.string ⟨#[]⟩, .int .i64 0, .bool false, .int .i64 0] 83)) := (Below.refl _ _).alloc (Nat.le_refl _) _
      obtain ⟨kb, ko, hA, hkb, c0, c1, c2, c3⟩ := (HR.out.below hbw hB).cell k hlt
      subst hA
      obtain ⟨x0, h0⟩ : ∃ y, y = l[k].key := ⟨_, rfl⟩
      obtain ⟨x1, h1⟩ : ∃ y, y = l[k].val := ⟨_, rfl⟩
      obtain ⟨x2, h2⟩ : ∃ y, y = l[k].gone := ⟨_, rfl⟩
      obtain ⟨x3, h3⟩ : ∃ y, y = l[k].time := ⟨_, rfl⟩
      rw [← h0] at c0
      rw [← h1] at c1
      rw [← h2] at c2
      rw [← h3] at c3
      have z0 : (0 : Int) ≤ (k : Int) := by omega
      have z1 : (k : Int) < (l.length : Int) := by omega
      have HE := Lib.hid (show l[k] = ⟨x0, x1, x2, x3⟩ by rw [h0, h1, h2, h3])
      have hkbw : ¬ kb = w.heap.size := by omega
      clear h0 h1 h2 h3 hbw
      rcases Bool.eq_false_or_eq_true (x0.toList == kk.toList) with hq | hq
      · by_cases ht : x3 ≤ t
        · have HH := Lib.hid (at_hit hlt HN.out (by rw [HE.out, Bool.and_eq_true, decide_eq_true_iff]; exact ⟨hq, ht⟩))
          go_wp2
          refine bodyPost_ret (v := .tuple #[.agg #[.string x0, .int .i64 x1, .bool x2, .int .i64 x3], .bool true]) ?_ rfl ⟨?_, ?_⟩
          · exact ret_two rfl _ _ w.heap.size _ _ rfl rfl (load_entry (heap_alloc_new _ _))
          · rw [HH.out, HE.out]; rfl
          · exact (Below.refl _ _).alloc (Nat.le_refl _) _
        · have HM := Lib.hid (noAt_succ hlt HN.out (by rw [HE.out, Bool.and_eq_false_iff]; exact .inr (decide_eq_false ht)))
          go_wp2
          go_roundw
          case rel => exact ⟨k + 1, by omega, by go_num, HM.out, by first | rfl | trivial⟩
          case measure => simp [intOf]; omega
      · have HM := Lib.hid (noAt_succ hlt HN.out (by rw [HE.out, Bool.and_eq_false_iff]; exact .inl hq))
        go_wp2
        go_roundw
        case rel => exact ⟨k + 1, by omega, by go_num, HM.out, by first | rfl | trivial⟩
        case measure => simp [intOf]; omega
    · have hke : k = l.length := by omega
      subst hke
      have HM := Lib.hid (at_miss HN.out)
      go_wp2
      refine bodyPost_ret (v := .tuple #[.agg #[.string ⟨#[]⟩, .int .i64 0, .bool false, .int .i64 0], .bool false]) ?_ rfl ⟨?_, ?_⟩
      · exact ret_two rfl _ _ w.heap.size _ _ rfl rfl (load_entry (heap_alloc_new _ _))
      · rw [HM.out]; rfl
      · exact (Below.refl _ _).alloc (Nat.le_refl _) _

end Go.Proofs.YtfhpkcamigkmdaaGreatDoor.W
namespace Go.Proofs.YtfhpkcamigkmdaaGreatDoor.W
open Go.RowKit K R

theorem sizeL (n : Int) (w : World) (h0 : 0 ≤ n) (h1 : n ≤ 1000) :
    Calls Tryz.prog 108 #[.int .i64 n] w fun e w' => e = .returned (.int .i64 (8 * (n + 1))) ∧ w = w' := by
  go_enter Tryz.func108, Tryz.ntmps108
  go_wp2
  go_ret
  exact ⟨ret_int (by omega), rfl⟩

set_option maxHeartbeats 4000000 in
theorem timesS (w : World) (B n c : Nat) (A : Option Addr) (l : List Int) (now : Int) (hr : Nums w B A n l) (hB : B ≤ w.heap.size) (hn : n ≤ maxLen) :
    Calls Tryz.prog 41 #[.slice A n c, .int .i64 now] w fun e w' => e = .returned (.bool (timesB l now)) ∧ Same w w' := by
  have hlen := hr.len
  subst hlen
  unfold maxLen at hn
  have HR := Lib.hid hr
  clear hr
  go_enter Tryz.func41, Tryz.ntmps41
  go_wp2
  go_loopw [5] (fun i wr => ∃ k : Nat, k ≤ l.length ∧ i = .int .i64 k ∧ goodT l now k ∧ Same w wr) (fun i _ => l.length - (intOf i).toNat)
  case atStart => exact ⟨0, Nat.zero_le _, rfl, goodT_zero l now, Same.refl w⟩
  case round =>
    obtain ⟨k, hk, rfl, hg, hsm⟩ := hrel
    have HG := Lib.hid hg
    have HS := Lib.hid hsm
    clear hg hsm
    by_cases hlt : k < l.length
    · obtain ⟨b, off, hA, hb, hc⟩ := (HR.out.below (HS.out.below w.heap.size) hB).cell k hlt
      subst hA
      have hx0 : (0 : Int) ≤ (k : Int) := by omega
      have hx1 : (k : Int) < (l.length : Int) := by omega
      obtain ⟨x, hx⟩ : ∃ y, y = l[k] := ⟨_, rfl⟩
      rw [← hx] at hc
      have HX := Lib.hid hx
      clear hx
      rcases Bool.eq_false_or_eq_true (inB x 0 now) with hib | hib
      · have HI := Lib.hid (show 0 ≤ l[k] ∧ l[k] ≤ now by rw [← HX.out]; exact of_decide_eq_true hib)
        by_cases h0 : k = 0
        · subst h0
          rw [Nat.add_zero] at hc
          go_wp2
          go_quiet ((go_at_call 61; exact quiet_mine ((inS x 0 now _).mono fun _ _ ⟨he, hw⟩ => ⟨by rw [he, hib], hw⟩)))
          go_wp2
          go_roundw
          case rel => exact ⟨1, by omega, by go_num, goodT_succ HG.out hlt HI.out (fun j hj => by omega), HS.out.drewN _⟩
          case measure => simp [intOf]; omega
        · obtain ⟨j, hj⟩ : ∃ j, k = j + 1 := ⟨k - 1, by omega⟩
          have hjl : j < l.length := by omega
          obtain ⟨b', off', hA', _, hcj⟩ := (HR.out.below (HS.out.below w.heap.size) hB).cell j hjl
          simp only [Option.some.injEq, Addr.mk.injEq, and_true] at hA'
          obtain ⟨rfl, rfl⟩ := hA'
          obtain ⟨y, hy⟩ : ∃ y, y = l[j] := ⟨_, rfl⟩
          rw [← hy] at hcj
          have HY := Lib.hid hy
          clear hy
          have hy0 : (0 : Int) ≤ (j : Int) := by omega
          have hy1 : (j : Int) < (l.length : Int) := by omega
          have hsub : IntKind.i64.wrap ((k : Int) - 1) = (j : Int) := by rw [IntWalk.i64_in _ ⟨by omega, by omega⟩]; omega
          have hpos : 0 < k := by omega
          have HJ := Lib.hid hj
          clear hj
          by_cases hq : y < x
          · have HQ := Lib.hid (show ∀ i (hi : i + 1 = k), l[i]'(by omega) < l[k] from fun i hi => by
              have : i = j := by have := HJ.out; omega
              subst this; rw [← HX.out, ← HY.out]; exact hq)
            go_wp2
            go_quiet ((go_at_call 61; exact quiet_mine ((inS x 0 now _).mono fun _ _ ⟨he, hw⟩ => ⟨by rw [he, hib], hw⟩)))
            clear hsub
            go_wp2
            go_roundw
            case rel => exact ⟨k + 1, by omega, by go_num, goodT_succ HG.out hlt HI.out HQ.out, HS.out.drewN _⟩
            case measure => simp [intOf]; omega
          · have HQ := Lib.hid (show timesB l now = false from badT_ord HJ.out.symm hlt (by rw [← HX.out, ← HY.out]; exact hq))
            go_wp2
            go_quiet ((go_at_call 61; exact quiet_mine ((inS x 0 now _).mono fun _ _ ⟨he, hw⟩ => ⟨by rw [he, hib], hw⟩)))
            clear hsub
            go_wp2
            go_ret
            exact ⟨ret_bool HQ.out.symm, HS.out.drewN _⟩
      · have HQ := Lib.hid (show timesB l now = false from badT_in hlt (by rw [← HX.out]; exact of_decide_eq_false hib))
        go_wp2
        go_quiet ((go_at_call 61; exact quiet_mine ((inS x 0 now _).mono fun _ _ ⟨he, hw⟩ => ⟨by rw [he, hib], hw⟩)))
        go_wp2
        go_ret
        exact ⟨ret_bool HQ.out.symm, HS.out.drewN _⟩
    · have hke : k = l.length := by omega
      subst hke
      go_wp2
      go_ret
      exact ⟨ret_bool (by rw [goodT_end HG.out]; exact decide_eq_decide.mpr (by omega)), HS.out⟩

end Go.Proofs.YtfhpkcamigkmdaaGreatDoor.W
namespace Go.Proofs.YtfhpkcamigkmdaaGreatDoor.W
open Go.RowKit K R

/-- of the first k all are newer than what is below -/
def newT (r below : List En) (t : Int) (k : Nat) : Prop := ∀ i (h : i < r.length), i < k → newerB r[i] below t = true
theorem newT_zero (r below : List En) (t : Int) : newT r below t 0 := fun i _ h => by omega
theorem newT_succ {r below : List En} {t : Int} {k : Nat} (g : newT r below t k) (h : k < r.length) (e : newerB r[k] below t = true) : newT r below t (k + 1) := fun i hi hk => by
  rcases (by omega : i < k ∨ i = k) with q | q
  · exact g i hi q
  · subst q; exact e
theorem newT_end {r below : List En} {t : Int} (g : newT r below t r.length) : newestB r below t = true := newest_yes fun i hi => g i hi hi

set_option maxHeartbeats 8000000 in
set_option maxRecDepth 100000 in
theorem newestS (w : World) (B n c B2 n2 c2 : Nat) (A A2 : Option Addr) (l l2 : List En) (t : Int) (hr : Ents w B A n l) (hr2 : Ents w B2 A2 n2 l2) (hB : B ≤ w.heap.size) (hB2 : B2 ≤ w.heap.size) (hn : n ≤ maxLen) (hn2 : n2 ≤ maxLen) :
    Calls Tryz.prog 95 #[.slice A n c, .slice A2 n2 c2, .int .i64 t] w fun e w' => e = .returned (.bool (newestB l l2 t)) ∧ Below w.heap.size w w' := by
  have hlen := hr.len
  subst hlen
  unfold maxLen at hn
  have HR := Lib.hid hr
  have HR2 := Lib.hid hr2
  have HN2 := Lib.hid hn2
  clear hr hr2 hn2
  go_enter Tryz.func95, Tryz.ntmps95
  go_wp2_with fail
  go_loopw [7] (fun i wr => ∃ k : Nat, k ≤ l.length ∧ i = .int .i64 (k : Nat) ∧ newT l l2 t k ∧ Below w.heap.size w wr) (fun i _ => l.length - (intOf i).toNat)
  case atStart => exact ⟨0, Nat.zero_le _, rfl, newT_zero l l2 t, Below.refl _ _⟩
  case round =>
    obtain ⟨k, hk, rfl, hg, hbl⟩ := hrel
    have HBL := Lib.hid hbl
    have HG := Lib.hid hg
    have hws := hbl.size
    clear hbl hg
    by_cases hlt : k < l.length
    · obtain ⟨kb, ko, hA, hkb, c0, c1, c2', c3⟩ := (HR.out.below HBL.out hB).cell k hlt
      subst hA
      obtain ⟨x0, hx0⟩ : ∃ y, y = l[k].key := ⟨_, rfl⟩
      obtain ⟨x3, hx3⟩ : ∃ y, y = l[k].time := ⟨_, rfl⟩
      rw [← hx0] at c0
      rw [← hx3] at c3
      have z0 : (0 : Int) ≤ (k : Int) := by omega
      have z1 : (k : Int) < (l.length : Int) := by omega
      have HX0 := Lib.hid hx0
      have HX3 := Lib.hid hx3
      clear hx0 hx3 c1 c2'
      by_cases ht : x3 ≤ t
      · go_wp2_with fail
        go_at_call 112
        refine Calls.mono (atS wr B2 n2 c2 A2 l2 x0 999 (HR2.out.below HBL.out hB2) (by omega) HN2.out) ?_
        rintro e w9 ⟨rfl, b9⟩
        have hs9 := b9.size
        have d3 : w9.cell? ⟨kb, ko + k * 4 + 3, none⟩ = some (.int .i64 x3) := (b9.cell (p := ⟨kb, ko + k * 4 + 3, none⟩) (by show kb < _; omega)).trans c3
        have HB9 := Lib.hid (HBL.out.trans (b9.mono hws))
        have hk9 : ¬ kb = w9.heap.size := by omega
        clear b9 c0 c3
        have HF := Lib.hid (show ∀ (o : Obj) (m : Nat), Below w.heap.size w ((w9.alloc o).drewN m) from fun o m => below_drewN (HB9.out.alloc (by omega) o) m)
        have d3' : ∀ o, (w9.alloc o).cell? ⟨kb, ko + k * 4 + 3, none⟩ = some (.int .i64 x3) := fun o => (((Below.refl w9.heap.size w9).alloc (Nat.le_refl _) o).cell (p := ⟨kb, ko + k * 4 + 3, none⟩) (by show kb < _; omega)).trans d3
        rcases hat : atL l2 x0 999 with _ | ⟨e0, e1, e2, e3⟩
        · have HN := Lib.hid (show newerB l[k] l2 t = true by unfold newerB; rw [← HX0.out, ← HX3.out, hat]; simp; exact ht)
          clear hat
          simp only [atV, atE, Option.getD_none, Option.isSome_none, blankE]
          go_wp2
          go_quiet (fail)
          go_wp2
          go_roundw
          case rel => exact ⟨k + 1, by omega, by go_num, newT_succ HG.out hlt HN.out, HF.out _ _⟩
          case measure => simp [intOf]; omega
        · by_cases hq : e3 < x3
          · have HN := Lib.hid (show newerB l[k] l2 t = true by unfold newerB; rw [← HX0.out, ← HX3.out, hat]; simp; exact ⟨ht, hq⟩)
            clear hat
            simp only [atV, atE, Option.getD_some, Option.isSome_some]
            go_wp2
            go_quiet (fail)
            go_wp2
            go_roundw
            case rel => exact ⟨k + 1, by omega, by go_num, newT_succ HG.out hlt HN.out, HF.out _ _⟩
            case measure => simp [intOf]; omega
          · have HN := Lib.hid (show newestB l l2 t = false from newest_no hlt (by unfold newerB; rw [← HX0.out, ← HX3.out, hat]; simp; intro _; omega))
            clear hat
            simp only [atV, atE, Option.getD_some, Option.isSome_some]
            go_wp2
            go_quiet (fail)
            go_wp2
            go_ret
            exact ⟨ret_bool HN.out.symm, HF.out _ _⟩
      · have HN := Lib.hid (show newestB l l2 t = false from newest_no hlt (by unfold newerB; rw [← HX3.out, decide_eq_false ht, Bool.false_and]))
        go_wp2
        go_ret
        exact ⟨ret_bool HN.out.symm, HBL.out⟩
    · have hke : k = l.length := by omega
      subst hke
      have HN := Lib.hid (newT_end HG.out)
      go_wp2
      go_ret
      exact ⟨ret_bool HN.out.symm, HBL.out⟩

end Go.Proofs.YtfhpkcamigkmdaaGreatDoor.W
namespace Go.Proofs.YtfhpkcamigkmdaaGreatDoor.W
open Go.RowKit K R

theorem Strs.below' {w w' : World} {B B' n : Nat} {A : Option Addr} {l : List ByteArray} (h : Strs w B A n l) (hb : Below B' w w') (hB : B ≤ B') : Strs w' B A n l :=
  ⟨h.len, fun i hi => by
    obtain ⟨b, off, hA, hlt, c0⟩ := h.cell i hi
    exact ⟨b, off, hA, hlt, (hb.cell (p := ⟨b, off + i, none⟩) (Nat.lt_of_lt_of_le hlt hB)).trans c0⟩⟩
/-- a slice of runs reads as ls, in blocks below B -/
structure Lvls (w : World) (B : Nat) (A : Option Addr) (n : Nat) (ls : List (List En)) : Prop where
  len : ls.length = n
  cell : ∀ i (h : i < ls.length), ∃ (b off : Nat) (A' : Option Addr) (c' : Nat), A = some ⟨b, off, none⟩ ∧ b < B ∧ w.cell? ⟨b, off + i, none⟩ = some (.slice A' ls[i].length c') ∧ Ents w B A' ls[i].length ls[i] ∧ ls[i].length ≤ c' ∧ c' ≤ maxLen
theorem Lvls.below {w w' : World} {B B' n : Nat} {A : Option Addr} {ls : List (List En)} (h : Lvls w B A n ls) (hb : Below B' w w') (hB : B ≤ B') : Lvls w' B A n ls :=
  ⟨h.len, fun i hi => by
    obtain ⟨b, off, A', c', hA, hlt, c0, he, h1, h2⟩ := h.cell i hi
    exact ⟨b, off, A', c', hA, hlt, (hb.cell (p := ⟨b, off + i, none⟩) (Nat.lt_of_lt_of_le hlt hB)).trans c0, he.below hb hB, h1, h2⟩⟩
theorem Lvls.more {w : World} {B B' n : Nat} {A : Option Addr} {ls : List (List En)} (h : Lvls w B A n ls) (hB : B ≤ B') : Lvls w B' A n ls :=
  ⟨h.len, fun i hi => by
    obtain ⟨b, off, A', c', hA, hlt, c0, he, h1, h2⟩ := h.cell i hi
    exact ⟨b, off, A', c', hA, Nat.lt_of_lt_of_le hlt hB, c0, he.more hB, h1, h2⟩⟩
/-- a filter's five parts -/
structure Sf where
  letters : ByteArray
  more : ByteArray
  first : ByteArray
  rests : List ByteArray
  keep : Int
/-- a slice of filters reads as ss, in blocks below B -/
structure Svs (w : World) (B : Nat) (A : Option Addr) (n : Nat) (ss : List Sf) : Prop where
  len : ss.length = n
  cell : ∀ i (h : i < ss.length), ∃ (b off : Nat) (A' : Option Addr) (c' : Nat), A = some ⟨b, off, none⟩ ∧ b < B ∧
    w.cell? ⟨b, off + i * 5, none⟩ = some (.string ss[i].letters) ∧ w.cell? ⟨b, off + i * 5 + 1, none⟩ = some (.string ss[i].more) ∧ w.cell? ⟨b, off + i * 5 + 2, none⟩ = some (.string ss[i].first) ∧
    w.cell? ⟨b, off + i * 5 + 3, none⟩ = some (.slice A' ss[i].rests.length c') ∧ w.cell? ⟨b, off + i * 5 + 4, none⟩ = some (.int .i64 ss[i].keep) ∧ Strs w B A' ss[i].rests.length ss[i].rests ∧ ss[i].rests.length ≤ c' ∧ c' ≤ maxLen
theorem Svs.below {w w' : World} {B B' n : Nat} {A : Option Addr} {ss : List Sf} (h : Svs w B A n ss) (hb : Below B' w w') (hB : B ≤ B') : Svs w' B A n ss :=
  ⟨h.len, fun i hi => by
    obtain ⟨b, off, A', c', hA, hlt, c0, c1, c2, c3, c4, he, h1, h2⟩ := h.cell i hi
    have q := Nat.lt_of_lt_of_le hlt hB
    exact ⟨b, off, A', c', hA, hlt, (hb.cell (p := ⟨b, off + i * 5, none⟩) q).trans c0, (hb.cell (p := ⟨b, off + i * 5 + 1, none⟩) q).trans c1, (hb.cell (p := ⟨b, off + i * 5 + 2, none⟩) q).trans c2, (hb.cell (p := ⟨b, off + i * 5 + 3, none⟩) q).trans c3, (hb.cell (p := ⟨b, off + i * 5 + 4, none⟩) q).trans c4, he.below' hb hB, h1, h2⟩⟩
/-- a store: its top, levels, filters, and numbers -/
structure Sto where
  top : List En
  levels : List (List En)
  sieves : List Sf
  keep : Int
  time : Int
  times : List Int
/-- the six parts of a store's value, as Go holds them -/
def stV (A0 A1 A2 A5 : Option Addr) (c0 c1 c2 c5 : Nat) (s : Sto) : Value :=
  .agg #[.slice A0 s.top.length c0, .slice A1 s.levels.length c1, .slice A2 s.sieves.length c2, .int .i64 s.keep, .int .i64 s.time, .slice A5 s.times.length c5]
structure StM (w : World) (B : Nat) (A0 A1 A2 A5 : Option Addr) (c0 c1 c2 c5 : Nat) (s : Sto) : Prop where
  top : Ents w B A0 s.top.length s.top
  levels : Lvls w B A1 s.levels.length s.levels
  sieves : Svs w B A2 s.sieves.length s.sieves
  times : Nums w B A5 s.times.length s.times
  b0 : s.top.length ≤ c0 ∧ c0 ≤ maxLen
  b1 : s.levels.length ≤ c1 ∧ c1 ≤ maxLen
  b2 : s.sieves.length ≤ c2 ∧ c2 ≤ maxLen
  b5 : s.times.length ≤ c5 ∧ c5 ≤ maxLen
theorem StM.below {w w' : World} {B B' : Nat} {A0 A1 A2 A5 : Option Addr} {c0 c1 c2 c5 : Nat} {s : Sto} (h : StM w B A0 A1 A2 A5 c0 c1 c2 c5 s) (hb : Below B' w w') (hB : B ≤ B') : StM w' B A0 A1 A2 A5 c0 c1 c2 c5 s :=
  ⟨h.top.below hb hB, h.levels.below hb hB, h.sieves.below hb hB, h.times.below hb hB, h.b0, h.b1, h.b2, h.b5⟩
end Go.Proofs.YtfhpkcamigkmdaaGreatDoor.W
