/-
  Contracts of the model's l31Key and DeedRead.
-/
import Derived.Test.YtklphdomjhliaaaDoorHH
namespace Go.Proofs.YtklphdomjhliaaaDoor.W
open Go.RowKit K R B

theorem keyM_nil : keyM [] = (⟨#[63]⟩ : ByteArray) := rfl
/-- a key's word, as the model reads it -/
theorem keyMS (s : ByteArray) (w : World) : Calls Tryd.prog 32 #[.string s] w fun e w' => e = .returned (.string (keyM s.data.toList)) ∧ w = w' := by
  cases hl : s.data.toList with
  | nil =>
    have hz : s.size = 0 := by rw [← len_l, hl]; rfl
    have hq : s.toList.isEmpty = true := by rw [ByteArray.toList_eq, hl]; rfl
    have HR := Lib.hid keyM_nil
    clear hl
    go_enter Tryd.func32, Tryd.ntmps32
    go_wp2
    go_ret
    exact ⟨by rw [HR.out]; rfl, rfl⟩
  | cons c r =>
    have hz : s.size = r.length + 1 := by rw [← len_l, hl]; rfl
    have z1 : (1 : Int) ≤ (s.size : Int) := by omega
    have z0 : (0 : Int) < (s.size : Int) := by omega
    have hq : s.toList.isEmpty = false := by rw [ByteArray.toList_eq, hl]; rfl
    have hc : s[0] = c := by
      have := at_k s 0 (by omega)
      rw [hl] at this; simpa using this.symm
    by_cases h46 : c = 46
    · have HR := Lib.hid (show keyM (c :: r) = s.extract 1 s.size by rw [ext_l, ← len_l, List.take_length, hl]; show (if c = 46 then ofL r else ofL [63]) = _; rw [if_pos h46]; rfl)
      have h8 : ((s[0].toNat : Nat) : Int) = 46 := by rw [hc, h46]; rfl
      clear hl h46 hc
      go_enter Tryd.func32, Tryd.ntmps32
      go_wp2
      go_ret
      exact ⟨by rw [HR.out, hz]; rfl, rfl⟩
    · have HR := Lib.hid (show keyM (c :: r) = (⟨#[63]⟩ : ByteArray) by show (if c = 46 then ofL r else ofL [63]) = _; rw [if_neg h46]; rfl)
      have h8 : ¬ ((s[0].toNat : Nat) : Int) = 46 := by
        rw [hc]; intro e; exact h46 (UInt8.toNat_inj.mp (by have e2 : (46 : UInt8).toNat = 46 := rfl; omega))
      clear hl h46 hc
      go_enter Tryd.func32, Tryd.ntmps32
      go_wp2
      go_ret
      exact ⟨by rw [HR.out]; rfl, rfl⟩
theorem row_key {W : World} {g : Nat} {k : Int} {key : ByteArray} {num : Int} (h : W.heap[g]? = some (.cells #[.int .i64 k, .string key, .int .i64 num] 24 (0, 0))) (key2 : ByteArray) : (W.setCell ⟨g, 1, none⟩ (.string key2)).heap[g]? = some (.cells #[.int .i64 k, .string key2, .int .i64 num] 24 (0, 0)) := by
  rw [heap_setCell_same W g 1 _ _ _ h]; simp
theorem row_num {W : World} {g : Nat} {k : Int} {key : ByteArray} {num : Int} (h : W.heap[g]? = some (.cells #[.int .i64 k, .string key, .int .i64 num] 24 (0, 0))) (num2 : Int) : (W.setCell ⟨g, 2, none⟩ (.int .i64 num2)).heap[g]? = some (.cells #[.int .i64 k, .string key, .int .i64 num2] 24 (0, 0)) := by
  rw [heap_setCell_same W g 2 _ _ _ h]; simp
theorem cell_put {W : World} {b db i o : Nat} {u v : Value} (hne : b ≠ db) (h : W.cell? ⟨b, o, none⟩ = some v) : (W.setCell ⟨db, i, none⟩ u).cell? ⟨b, o, none⟩ = some v := by
  rw [World.cell?_of_block (heap_setCell_other W ⟨db, i, none⟩ _ _ hne)]; exact h
theorem row_kd {w2 : World} {db : Nat} {j k num : Int} {key : ByteArray} (h : w2.heap[db]? = some (.cells #[.int .i64 k, .string key, .int .i64 num] 24 (0, 0))) (W : World) (hW : W.heap = (w2.setCell ⟨db, 0, none⟩ (.int .i64 j)).heap) :
    W.heap[db]? = some (.cells #[.int .i64 j, .string key, .int .i64 num] 24 (0, 0)) := by
  rw [hW, heap_setCell_same _ db 0 _ _ _ h]; simp
theorem grown_heap {a w W : World} {r : Option Nat} (h : a.grownBy w r) (h1 : W.heap = w.heap) (h2 : W.os = w.os) (h3 : W.tape = w.tape) (h4 : W.output = w.output) : a.grownBy W r :=
  ⟨h2.trans h.os, h3.trans h.tape, h4.trans h.output, by rw [h1]; exact h.size, fun k hk hn => by rw [h1]; exact h.block k hk hn⟩
theorem grown_pd {a w : World} {g : Nat} (h : a.grownBy w (some g)) (i : Nat) (u : Value) {W : World} (h1 : W.heap = (w.setCell ⟨g, i, none⟩ u).heap) (h2 : W.os = w.os) (h3 : W.tape = w.tape) (h4 : W.output = w.output) : a.grownBy W (some g) :=
  grown_heap (grown_putW h i u) h1 h2 h3 h4
theorem names_cell (j : Nat) (hj : j ≤ 6) : (#[.string ⟨#[]⟩, .string ⟨#[112, 117, 116]⟩, .string ⟨#[116, 97, 107, 101]⟩, .string ⟨#[104, 111, 108, 100]⟩, .string ⟨#[102, 114, 101, 101]⟩, .string ⟨#[100, 111, 119, 110]⟩, .string ⟨#[106, 111, 105, 110]⟩] : Array Value)[j]? = some (.string (ofL (nmL (j : Int)))) := by
  have : j = 0 ∨ j = 1 ∨ j = 2 ∨ j = 3 ∨ j = 4 ∨ j = 5 ∨ j = 6 := by omega
  rcases this with rfl | rfl | rfl | rfl | rfl | rfl | rfl <;> rfl
theorem namesS2 (W : World) : Calls Tryd.prog 26 #[] W fun e w' => e = .returned (.slice (some ⟨W.heap.size, 0, none⟩) 7 7) ∧ (∀ j : Nat, j ≤ 6 → w'.cell? ⟨W.heap.size, j, none⟩ = some (.string (ofL (nmL (j : Int))))) ∧ Below W.heap.size W w' :=
  (namesS W).mono fun e w' h => by
    obtain ⟨rfl, rfl⟩ := h
    exact ⟨rfl, fun j hj => by rw [cell_of_row _ _ _ _ _ _ (heap_alloc_new _ _)]; exact names_cell j hj, (Below.refl _ _).alloc (Nat.le_refl _) _⟩
/-- the kind found so far -/
def kvL (s : List UInt8) (j : Int) : Int := if kinB (kindL s) = true ∧ kindL s < j then kindL s else 0
theorem kv_one (s : List UInt8) : kvL s 1 = 0 := by
  unfold kvL; split
  · rename_i h; have := kin_cases h.1; omega
  · rfl
theorem kv_end (s : List UInt8) : kvL s 7 = kindL s := by
  unfold kvL
  rcases kind_in s with h | h
  · rw [h]; rfl
  · have := kin_cases h
    rw [if_pos ⟨h, by omega⟩]
theorem kv_hit {s : List UInt8} {j : Int} (h : kindL s = j) (hj : kinB j = true) : kvL s (j + 1) = j := by
  unfold kvL; rw [h, if_pos ⟨hj, by omega⟩]
theorem kv_miss {s : List UInt8} {j : Int} (h : kindL s ≠ j) : kvL s (j + 1) = kvL s j := by
  unfold kvL
  by_cases h1 : kinB (kindL s) = true ∧ kindL s < j
  · rw [if_pos h1, if_pos ⟨h1.1, by omega⟩]
  · rw [if_neg h1, if_neg (fun h2 => h1 ⟨h2.1, by omega⟩)]
theorem nm_kind {s : List UInt8} (h : kinB (kindL s) = true) : nmL (kindL s) = s := by
  by_cases h1 : s = [112, 117, 116]
  · rw [h1]; decide
  by_cases h2 : s = [116, 97, 107, 101]
  · rw [h2]; decide
  by_cases h3 : s = [104, 111, 108, 100]
  · rw [h3]; decide
  by_cases h4 : s = [102, 114, 101, 101]
  · rw [h4]; decide
  by_cases h5 : s = [100, 111, 119, 110]
  · rw [h5]; decide
  by_cases h6 : s = [106, 111, 105, 110]
  · rw [h6]; decide
  have : kindL s = 0 := by unfold kindL; rw [if_neg h1, if_neg h2, if_neg h3, if_neg h4, if_neg h5, if_neg h6]
  rw [this] at h; exact absurd h (by decide)
theorem kind_iff {s : List UInt8} {j : Int} (hj : kinB j = true) : nmL j = s ↔ kindL s = j := by
  constructor
  · intro h; rw [← h]; exact kind_nm hj
  · intro h
    rw [← h]; exact nm_kind (by rw [h]; exact hj)
/-- at the loop's head -/
def LoopMD (W0 : World) (db : Nat) (s : List UInt8) (iv : Value) (wr : World) : Prop :=
  ∃ j : Nat, 1 ≤ j ∧ j ≤ 7 ∧ iv = .int .i64 (j : Nat) ∧ wr.heap[db]? = some (.cells #[.int .i64 (kvL s j), .string ⟨#[]⟩, .int .i64 0] 24 (0, 0)) ∧ W0.grownBy wr (some db)
theorem getL_last (l : List (List UInt8)) (h : 0 < l.length) : l.getLastD [] = l[l.length - 1]'(by omega) := by
  rw [List.getLastD_eq_getLast?, List.getLast?_eq_getElem?, List.getElem?_eq_getElem (by omega)]; rfl
theorem keyM_le (x : List UInt8) : (keyM x).size ≤ x.length + 1 := by
  unfold keyM
  split
  · split
    · rw [ofL_size]; simp; omega
    · rw [ofL_size]; simp
  · rw [ofL_size]; simp

set_option maxHeartbeats 16000000 in
set_option maxRecDepth 100000 in
/-- the model's DeedRead -/
theorem deedReadS (s : ByteArray) (w : World) (hs : s.size ≤ 2000000) :
    Calls Tryd.prog 13 #[.string s] w fun e w' => ((∃ d, readD s.data.toList = some d ∧ e = .returned (.tuple #[.agg #[.int .i64 d.kind, .string d.key, .int .i64 d.num], .bool true])) ∨ readD s.data.toList = none ∧ e = .returned (.tuple #[.agg #[.int .i64 0, .string ⟨#[]⟩, .int .i64 0], .bool false])) ∧ Below w.heap.size w w' := by
  obtain ⟨l, hl⟩ : ∃ l, l = splitL 32 s.data.toList := ⟨_, rfl⟩
  have HSP := Lib.hid (fun W => splitS s 32 W hs)
  rw [show (((32 : UInt8).toNat : Nat) : Int) = 32 from rfl] at HSP
  rw [← hl] at HSP
  have HL := Lib.hid hl
  have hl1 : 1 ≤ l.length := by rw [hl]; unfold splitL; rw [split_count]; omega
  clear hl
  obtain ⟨wA, hwA⟩ : ∃ W, W = w.alloc (.cells #[.int .i64 0, .string ⟨#[]⟩, .int .i64 0] 24) := ⟨_, rfl⟩
  have hrA : wA.heap[w.heap.size]? = some (.cells #[.int .i64 0, .string ⟨#[]⟩, .int .i64 0] 24 (0, 0)) := by rw [hwA]; exact heap_alloc_new _ _
  have hbA : Below w.heap.size w wA := by rw [hwA]; exact (Below.refl _ _).alloc (Nat.le_refl _) _
  have hlA := (Array.getElem?_eq_some_iff.1 hrA).1
  have HRA := Lib.hid hrA
  have HBA := Lib.hid hbA
  have HWA := Lib.hid hwA
  clear hwA hrA hbA
  by_cases h40 : s.size ≤ 40
  case neg =>
    have HN := Lib.hid (readD_long (t := s.data.toList) (by rw [len_l]; omega))
    have z1 : (40 : Int) < (s.size : Int) := by omega
    clear h40
    go_enter Tryd.func13, Tryd.ntmps13
    go_upto_region 1 with fail
    rw [← HWA.out]
    go_wp2_with (go_at_call 31; refine Calls.mono (HSP.out _) ?_; rintro e w1 ⟨v, rfl, ho, hb⟩; have HQ1 := Lib.hid ((hb.block w.heap.size hlA).trans HRA.out); obtain ⟨b0, b1, b2⟩ := cells_three HQ1.out; have f0 := fun j => frozen_of_row w1 w.heap.size j _ _ HQ1.out)
    refine bodyPost_ret (v := .tuple #[.agg #[.int .i64 0, .string ⟨#[]⟩, .int .i64 0], .bool false]) ?_ rfl ⟨.inr ⟨HN.out, rfl⟩, ?_⟩
    · exact ret_pair3 rfl _ _ w.heap.size _ _ rfl rfl (load_deed (box_three HQ1.out _ _ _))
    · exact (((HBA.out.trans (hb.mono HBA.out.size)).setCell (Nat.le_refl _) _).setCell (Nat.le_refl _) _).setCell (Nat.le_refl _) _
  case pos =>
  have z1 : ¬ (40 : Int) < (s.size : Int) := by omega
  have hwl : ∀ x ∈ l, x.length ≤ 100 := fun x hx => by
    rw [HL.out] at hx
    have := split_mem 32 s.data.toList [] x hx
    rw [len_l] at this; simp at this; omega
  have hll : l.length ≤ 41 := by
    rw [HL.out]; unfold splitL; rw [split_count]
    have := List.count_le_length (a := (32 : UInt8)) (l := s.data.toList)
    rw [len_l] at this; omega
  have HNM := Lib.hid (fun W => namesS2 W)
  go_enter Tryd.func13, Tryd.ntmps13
  go_upto_region 1 with fail
  rw [← HWA.out]
  go_upto_region 5 with (go_at_call 31; refine Calls.mono (HSP.out _) ?_; rintro e w1 ⟨v, rfl, ho, hb⟩)
  obtain ⟨A, c, rfl, hlc, hcm, hst⟩ := ho.parts
  rw [List.length_map] at hlc hst ⊢
  obtain ⟨bb, off, rfl, hbb, -⟩ := hst.cell 0 (by rw [List.length_map]; omega)
  have hcl : ∀ i (h : i < l.length), w1.cell? ⟨bb, off + i, none⟩ = some (.string (ofL l[i])) := fun i h => by
    obtain ⟨b', off', e1, _, e2⟩ := hst.cell i (by rw [List.length_map]; exact h)
    injection e1 with e1
    injection e1 with e3 e4
    subst e3 e4
    rw [List.getElem_map] at e2; exact e2
  have hs1 := hb.size
  have hq1 := (hb.block w.heap.size hlA).trans HRA.out
  have hbW := HBA.out.trans (hb.mono HBA.out.size)
  obtain ⟨W0, hW0⟩ : ∃ W, W = w1.alloc (.cells #[.int .i64 0, .string ⟨#[]⟩, .int .i64 0] 24) := ⟨_, rfl⟩
  obtain ⟨db, hdb⟩ : ∃ db, db = w1.heap.size := ⟨_, rfl⟩
  have HDR := Lib.hid (show W0.heap[db]? = some (.cells #[.int .i64 0, .string ⟨#[]⟩, .int .i64 0] 24 (0, 0)) by rw [hW0, hdb]; exact heap_alloc_new _ _)
  have HQ := Lib.hid (show W0.heap[w.heap.size]? = some (.cells #[.int .i64 0, .string ⟨#[]⟩, .int .i64 0] 24 (0, 0)) by rw [hW0]; exact (heap_alloc_old _ _ (by omega)).trans hq1)
  have HCL := Lib.hid (show ∀ i (h : i < l.length), W0.cell? ⟨bb, off + i, none⟩ = some (.string (ofL l[i])) from fun i h => by
    rw [hW0, World.cell?_of_block (heap_alloc_old _ _ (by show bb < w1.heap.size; omega))]; exact hcl i h)
  have HBW := Lib.hid (show Below w.heap.size w W0 by rw [hW0]; exact hbW.alloc hbW.size _)
  have hdb0 : W0.heap.size = db + 1 := by rw [hW0, hdb]; simp
  have hbd : bb < db := by omega
  have hwd : w.heap.size < db := by omega
  rw [← hW0, ← hdb]
  obtain ⟨w0, hw0⟩ : ∃ w0, w0 = l[0]'(by omega) := ⟨_, rfl⟩
  have HW0 := Lib.hid (show W0.cell? ⟨bb, off, none⟩ = some (.string (ofL w0)) by have := HCL.out 0 (by omega); rw [Nat.add_zero] at this; rw [hw0]; exact this)
  have HHL := Lib.hid (show headL l = w0 by rw [hw0]; cases l with | nil => simp at hl1 | cons a r => rfl)
  have KEEP := Lib.hid (show ∀ wr, W0.grownBy wr (some db) → (∀ i (h : i < l.length), wr.cell? ⟨bb, off + i, none⟩ = some (.string (ofL l[i]))) ∧ wr.cell? ⟨bb, off, none⟩ = some (.string (ofL w0)) ∧ wr.heap[w.heap.size]? = some (.cells #[.int .i64 0, .string ⟨#[]⟩, .int .i64 0] 24 (0, 0)) ∧ Below w.heap.size w wr ∧ db < wr.heap.size from fun wr hg => by
    have hk : ∀ i, i < db → wr.heap[i]? = W0.heap[i]? := fun i hi => hg.block i (by omega) (fun e => by injection e with e; omega)
    have hsz := hg.size
    refine ⟨fun i h => ?_, ?_, (hk _ hwd).trans HQ.out, HBW.out.trans (grown_bW hg (by omega) (by omega)), by omega⟩
    · rw [World.cell?_of_block (hk bb hbd)]; exact HCL.out i h
    · rw [World.cell?_of_block (hk bb hbd)]; exact HW0.out)
  have z2 : (1 : Int) ≤ (l.length : Int) := by omega
  have z3 : (0 : Int) < (l.length : Int) := by omega
  have z4 : (l.length : Int) ≤ (c : Int) := by omega
  clear hb ho hst hcl hq1 hbW hW0 hdb hbb hs1 HSP HBA HRA HWA hw0 hlA
  go_wp2
  go_loopw [6] (fun iv wr => LoopMD W0 db w0 iv wr) (fun iv _ => 7 - (intOf iv).toNat)
  case atStart => exact ⟨1, by omega, by omega, rfl, by rw [show ((1 : Nat) : Int) = 1 from rfl, kv_one]; exact HDR.out, grown_reflW _ _⟩
  case round =>
    obtain ⟨j, hj1, hj7, rfl, hrow, hg⟩ := hrel
    obtain ⟨kcl, kw0, kq, kb, kd⟩ := KEEP.out wr hg
    have HG := Lib.hid hg
    have HKC := Lib.hid kcl
    have HKQ := Lib.hid kq
    have HKB := Lib.hid kb
    have HRW := Lib.hid hrow
    clear hg kcl kq kb
    have hne0 : ¬ db = wr.heap.size := by omega
    have hbe0 : bb < wr.heap.size := by omega
    have hj : j ≤ 6 ∨ j = 7 := by omega
    clear hrow
    rcases hj with hj | rfl
    ·
      have hkin : kinB (j : Int) = true := by unfold kinB; simp; omega
      have HI := Lib.hid (kind_iff (s := w0) (j := (j : Int)) hkin)
      have HKI := Lib.hid hkin
      have zj0 : (0 : Int) ≤ (j : Int) := by omega
      have zj7 : (j : Int) < 7 := by omega
      have zj6 : (j : Int) ≤ 6 := by omega
      clear hkin
      have NM := Lib.hid (show ∀ W : World, W.heap = wr.heap → Calls Tryd.prog 26 #[] W fun e w2 => e = .returned (.slice (some ⟨wr.heap.size, 0, none⟩) 7 7) ∧ w2.cell? ⟨wr.heap.size, j, none⟩ = some (.string (ofL (nmL (j : Int)))) ∧ w2.cell? ⟨bb, off, none⟩ = some (.string (ofL w0)) ∧ w2.heap[db]? = some (.cells #[.int .i64 (kvL w0 j), .string ⟨#[]⟩, .int .i64 0] 24 (0, 0)) ∧ Below W.heap.size W w2 from fun W hW => by
        refine (HNM.out W).mono fun e w2 h => ?_
        have hb := h.2.2
        rw [hW] at h
        refine ⟨h.1, h.2.1 j hj, ?_, (hb.block db (by rw [hW]; omega)).trans (by rw [hW]; exact HRW.out), hb⟩
        rw [World.cell?_of_block (hb.block bb (by rw [hW]; omega)), World.cell?_of_block (show W.heap[bb]? = wr.heap[bb]? by rw [hW])]; exact kw0)
      obtain ⟨N, hN⟩ : ∃ N, N = ofL (nmL (j : Int)) := ⟨_, rfl⟩
      rw [← hN] at NM
      by_cases he : nmL (j : Int) = w0
      ·
        have heq : (N.toList == (ofL w0).toList) = true := by rw [hN, he]; simp
        have HV := Lib.hid (kv_hit (HI.out.mp he) HKI.out)
        clear he hN HI HKI
        go_upto_region 8 with fail
        go_region_with (go_at_call 26; refine Calls.mono (NM.out _ (by rfl)) ?_; rintro e w2 ⟨rfl, hc2, hcw, hr2, hb2⟩)
        all_goals
          have HR2 := Lib.hid hr2
          obtain ⟨b0, b1, b2⟩ := cells_three hr2
          have f0 := fun i => frozen_of_row w2 db i _ _ hr2
          have HG2 := Lib.hid (grownBelowW (w'' := w2) (grown_heap HG.out (by rfl) (by rfl) (by rfl) (by rfl)) hb2)
          clear hr2 hb2 hc2 hcw
          go_wp2
          go_roundw
          case rel =>
            refine ⟨j + 1, by omega, by omega, by go_num, ?_, ?_⟩
            · rw [show ((j + 1 : Nat) : Int) = (j : Int) + 1 by omega, HV.out]; exact row_kd HR2.out _ (by rfl)
            · exact grown_pd HG2.out 0 _ (by rfl) (by rfl) (by rfl) (by rfl)
          case measure => simp [intOf]; omega
      ·
        have heq : (N.toList == (ofL w0).toList) = false := by rw [hN, ByteArray.toList_eq, ByteArray.toList_eq, ofL_data, ofL_data]; simpa using he
        have HV := Lib.hid (kv_miss (s := w0) (j := (j : Int)) (fun h => he (HI.out.mpr h)))
        clear he hN HI HKI
        go_upto_region 8 with fail
        go_region_with (go_at_call 26; refine Calls.mono (NM.out _ (by rfl)) ?_; rintro e w2 ⟨rfl, hc2, hcw, hr2, hb2⟩)
        all_goals
          have HR2 := Lib.hid hr2
          obtain ⟨b0, b1, b2⟩ := cells_three hr2
          have f0 := fun i => frozen_of_row w2 db i _ _ hr2
          have HG2 := Lib.hid (grownBelowW (w'' := w2) (grown_heap HG.out (by rfl) (by rfl) (by rfl) (by rfl)) hb2)
          clear hr2 hb2 hc2 hcw
          go_wp2
          go_roundw
          case rel =>
            refine ⟨j + 1, by omega, by omega, by go_num, ?_, ?_⟩
            · rw [show ((j + 1 : Nat) : Int) = (j : Int) + 1 by omega, HV.out]; exact HR2.out
            · exact HG2.out
          case measure => simp [intOf]; omega
    ·
      rw [show (((7 : Nat) : Int)) = 7 from rfl, kv_end] at HRW
      have HPM := Lib.hid (show parM (splitL 32 s.data.toList) = ⟨kindL w0, if 1 < l.length ∧ (kindL w0 = 1 ∨ kindL w0 = 2) then keyM (l.getD 1 []) else ByteArray.empty, if 1 < l.length ∧ kindL w0 ≠ 2 then ((numL 0 (l.getLastD []) : Nat) : Int) else 0⟩ by rw [← HL.out]; unfold parM; rw [HHL.out])
      obtain ⟨k, hk⟩ : ∃ k, k = kindL w0 := ⟨_, rfl⟩
      rw [← hk] at HRW HPM
      have f0 := fun i => frozen_of_row wr db i _ _ HRW.out
      obtain ⟨b0, b1, b2⟩ := cells_three HRW.out
      have HTL := Lib.hid (ByteArray.toList_eq s)
      clear HHL HNM KEEP HDR HQ HCL HW0
      by_cases h1 : 1 < l.length
      ·
        have z5 : (1 : Int) < (l.length : Int) := by omega
        have z6 : (0 : Int) ≤ (l.length : Int) - 1 := by omega
        have z7 : (l.length : Int) - 1 < (l.length : Int) := by omega
        have HC1 := HKC.out 1 h1
        obtain ⟨x, hx⟩ : ∃ x, x = l[1] := ⟨_, rfl⟩
        have hxg : l.getD 1 [] = x := by rw [hx, List.getD_eq_getElem?_getD, List.getElem?_eq_getElem h1]; rfl
        have HCL := HKC.out (l.length - 1) (by omega)
        obtain ⟨y, hy⟩ : ∃ y, y = l[l.length - 1]'(by omega) := ⟨_, rfl⟩
        have hyg : l.getLastD [] = y := by rw [hy]; exact getL_last l (by omega)
        have hxl : x.length ≤ 100 := hwl x (by rw [hx]; exact List.getElem_mem _)
        have hyl : y.length ≤ 100 := hwl y (by rw [hy]; exact List.getElem_mem _)
        rw [hxg, hyg] at HPM
        rw [← hx] at HC1
        rw [← hy] at HCL
        have HKS := Lib.hid (fun W => keyMS (ofL x) W)
        have HNS := Lib.hid (fun W => numS (ofL y) W (by rw [ofL_size]; omega))
        rw [ofL_data] at HKS HNS
        have hQs : (keyM x).size ≤ 101 := by have := keyM_le x; omega
        obtain ⟨Q, hQ⟩ : ∃ Q, Q = keyM x := ⟨_, rfl⟩
        obtain ⟨V, hV⟩ : ∃ V : Int, V = ((numL 0 y : Nat) : Int) := ⟨_, rfl⟩
        rw [← hQ] at HKS HPM hQs
        rw [← hV] at HNS HPM
        have HH1 := Lib.hid h1
        clear hx hy hxg hyg hxl hyl hQ hV hwl hk h1
        by_cases k1 : k = 1
        ·
          subst k1
          have HPN := Lib.hid (show parM (splitL 32 s.data.toList) = ⟨1, Q, V⟩ by rw [HPM.out]; simp [HH1.out])
          clear HPM
          have HDD := Lib.hid (fun W => deedS 1 Q V W (by unfold maxLen; omega))
          have R1 := Lib.hid (row_key HRW.out Q)
          have R2 := Lib.hid (row_num R1.out V)
          have GG := Lib.hid (grown_putW (grown_putW HG.out 1 (.string Q)) 2 (.int .i64 V))
          have HCL2 := cell_put (u := .string Q) (i := 1) (show bb ≠ db by omega) HCL
          have HBB := Lib.hid (show Below w.heap.size w ((wr.setCell ⟨db, 1, none⟩ (.string Q)).setCell ⟨db, 2, none⟩ (.int .i64 V)) from (HKB.out.setCell (show w.heap.size ≤ db by omega) _).setCell (show w.heap.size ≤ db by omega) _)
          have HQQ := Lib.hid (show ((wr.setCell ⟨db, 1, none⟩ (.string Q)).setCell ⟨db, 2, none⟩ (.int .i64 V)).heap[w.heap.size]? = some (.cells #[.int .i64 0, .string ⟨#[]⟩, .int .i64 0] 24 (0, 0)) from (heap_setCell_other _ _ _ _ (show w.heap.size ≠ db by omega)).trans ((heap_setCell_other _ _ _ _ (show w.heap.size ≠ db by omega)).trans HKQ.out))
          go_upto_region 15 with (first | (go_at_call 32; refine Calls.mono (HKS.out _) ?_; rintro e w3 ⟨rfl, rfl⟩) | (go_at_call 33; refine Calls.mono (HNS.out _) ?_; rintro e w3 ⟨rfl, rfl⟩))
          obtain ⟨W5, hW5⟩ : ∃ W, W = ((wr.setCell ⟨db, 1, none⟩ (.string Q)).setCell ⟨db, 2, none⟩ (.int .i64 V)) := ⟨_, rfl⟩
          rw [← hW5] at R2 HBB HQQ ⊢
          clear hW5
          obtain ⟨c0, c1, c2⟩ := cells_three R2.out
          have hz5 := (Array.getElem?_eq_some_iff.1 HQQ.out).1
          have hd5 := (Array.getElem?_eq_some_iff.1 R2.out).1
          clear b0 b1 b2 f0 HRW HG HKC HKQ HKB GG kw0 R1 HCL2
          by_cases hd : s.data.toList ≠ [] ∧ deedL ⟨1, Q, V⟩ = s.data.toList
          ·
            have HRY := Lib.hid (show readD s.data.toList = some ⟨1, Q, V⟩ by unfold readD; rw [HPN.out, if_pos hd])
            have heq : ((ofL (deedL ⟨1, Q, V⟩)).toList == s.toList) = true := by rw [ByteArray.toList_eq, ofL_data, HTL.out, hd.2]; simp
            have hem : s.toList.isEmpty = false := by rw [HTL.out]; simpa using hd.1
            obtain ⟨T, hT⟩ : ∃ T, T = ofL (deedL ⟨1, Q, V⟩) := ⟨_, rfl⟩
            rw [← hT] at heq HDD
            clear hT hd
            go_wp2_with (go_at_call 10; refine Calls.mono (HDD.out _) ?_; rintro e w9 ⟨rfl, hb9⟩; have HQ9 := Lib.hid ((hb9.block w.heap.size hz5).trans HQQ.out); have HR9 := Lib.hid ((hb9.block db hd5).trans R2.out); obtain ⟨b0, b1, b2⟩ := cells_three HQ9.out; have f0 := fun j => frozen_of_row w9 w.heap.size j _ _ HQ9.out; obtain ⟨c0, c1, c2⟩ := cells_three HR9.out)
            refine bodyPost_ret (v := .tuple #[.agg #[.int .i64 1, .string Q, .int .i64 V], .bool true]) ?_ rfl ⟨.inl ⟨_, HRY.out, rfl⟩, ?_⟩
            · exact ret_pair3 rfl _ _ w.heap.size _ _ rfl rfl (load_deed (box_three HQ9.out _ _ _))
            · exact (((HBB.out.trans (hb9.mono HBB.out.size)).setCell (Nat.le_refl _) _).setCell (Nat.le_refl _) _).setCell (Nat.le_refl _) _
          ·
            have HRN := Lib.hid (show readD s.data.toList = none by unfold readD; rw [HPN.out, if_neg hd])
            have hee : ((ofL (deedL ⟨1, Q, V⟩)).toList == s.toList) = false ∨ ((ofL (deedL ⟨1, Q, V⟩)).toList == s.toList) = true ∧ s.toList.isEmpty = true := by
              by_cases h0 : deedL ⟨1, Q, V⟩ = s.data.toList
              · refine .inr ⟨by rw [ByteArray.toList_eq, ofL_data, HTL.out, h0]; simp, ?_⟩
                rw [HTL.out]
                cases hsl : s.data.toList with
                | nil => rfl
                | cons a r => exact absurd ⟨by rw [hsl]; simp, h0⟩ hd
              · refine .inl ?_
                rw [ByteArray.toList_eq, ofL_data, HTL.out]; simpa using h0
            obtain ⟨T, hT⟩ : ∃ T, T = ofL (deedL ⟨1, Q, V⟩) := ⟨_, rfl⟩
            rw [← hT] at hee HDD
            clear hT hd
            rcases hee with heq | ⟨heq, hem⟩
            all_goals
              go_wp2_with (go_at_call 10; refine Calls.mono (HDD.out _) ?_; rintro e w9 ⟨rfl, hb9⟩; have HQ9 := Lib.hid ((hb9.block w.heap.size hz5).trans HQQ.out); have HR9 := Lib.hid ((hb9.block db hd5).trans R2.out); obtain ⟨b0, b1, b2⟩ := cells_three HQ9.out; have f0 := fun j => frozen_of_row w9 w.heap.size j _ _ HQ9.out; obtain ⟨c0, c1, c2⟩ := cells_three HR9.out)
              refine bodyPost_ret (v := .tuple #[.agg #[.int .i64 0, .string ⟨#[]⟩, .int .i64 0], .bool false]) ?_ rfl ⟨.inr ⟨HRN.out, rfl⟩, ?_⟩
              · exact ret_pair3 rfl _ _ w.heap.size _ _ rfl rfl (load_deed (box_three HQ9.out _ _ _))
              · exact (((HBB.out.trans (hb9.mono HBB.out.size)).setCell (Nat.le_refl _) _).setCell (Nat.le_refl _) _).setCell (Nat.le_refl _) _
        ·
          by_cases k2 : k = 2
          ·
            subst k2
            have HPN := Lib.hid (show parM (splitL 32 s.data.toList) = ⟨2, Q, 0⟩ by rw [HPM.out]; simp [HH1.out])
            clear HPM
            have HDD := Lib.hid (fun W => deedS 2 Q 0 W (by unfold maxLen; omega))
            have R2 := Lib.hid (row_key HRW.out Q)
            have GG := Lib.hid (grown_putW HG.out 1 (.string Q))
            have HBB := Lib.hid (show Below w.heap.size w (wr.setCell ⟨db, 1, none⟩ (.string Q)) from HKB.out.setCell (show w.heap.size ≤ db by omega) _)
            have HQQ := Lib.hid (show (wr.setCell ⟨db, 1, none⟩ (.string Q)).heap[w.heap.size]? = some (.cells #[.int .i64 0, .string ⟨#[]⟩, .int .i64 0] 24 (0, 0)) from (heap_setCell_other _ _ _ _ (show w.heap.size ≠ db by omega)).trans HKQ.out)
            go_upto_region 15 with (go_at_call 32; refine Calls.mono (HKS.out _) ?_; rintro e w3 ⟨rfl, rfl⟩)
            obtain ⟨W5, hW5⟩ : ∃ W, W = (wr.setCell ⟨db, 1, none⟩ (.string Q)) := ⟨_, rfl⟩
            rw [← hW5] at R2 HBB HQQ ⊢
            clear hW5
            obtain ⟨c0, c1, c2⟩ := cells_three R2.out
            have hz5 := (Array.getElem?_eq_some_iff.1 HQQ.out).1
            have hd5 := (Array.getElem?_eq_some_iff.1 R2.out).1
            clear b0 b1 b2 f0 HRW HG HKC HKQ HKB GG kw0
            by_cases hd : s.data.toList ≠ [] ∧ deedL ⟨2, Q, 0⟩ = s.data.toList
            ·
              have HRY := Lib.hid (show readD s.data.toList = some ⟨2, Q, 0⟩ by unfold readD; rw [HPN.out, if_pos hd])
              have heq : ((ofL (deedL ⟨2, Q, 0⟩)).toList == s.toList) = true := by rw [ByteArray.toList_eq, ofL_data, HTL.out, hd.2]; simp
              have hem : s.toList.isEmpty = false := by rw [HTL.out]; simpa using hd.1
              obtain ⟨T, hT⟩ : ∃ T, T = ofL (deedL ⟨2, Q, 0⟩) := ⟨_, rfl⟩
              rw [← hT] at heq HDD
              clear hT hd
              go_wp2_with (go_at_call 10; refine Calls.mono (HDD.out _) ?_; rintro e w9 ⟨rfl, hb9⟩; have HQ9 := Lib.hid ((hb9.block w.heap.size hz5).trans HQQ.out); have HR9 := Lib.hid ((hb9.block db hd5).trans R2.out); obtain ⟨b0, b1, b2⟩ := cells_three HQ9.out; have f0 := fun j => frozen_of_row w9 w.heap.size j _ _ HQ9.out; obtain ⟨c0, c1, c2⟩ := cells_three HR9.out)
              refine bodyPost_ret (v := .tuple #[.agg #[.int .i64 2, .string Q, .int .i64 0], .bool true]) ?_ rfl ⟨.inl ⟨_, HRY.out, rfl⟩, ?_⟩
              · exact ret_pair3 rfl _ _ w.heap.size _ _ rfl rfl (load_deed (box_three HQ9.out _ _ _))
              · exact (((HBB.out.trans (hb9.mono HBB.out.size)).setCell (Nat.le_refl _) _).setCell (Nat.le_refl _) _).setCell (Nat.le_refl _) _
            ·
              have HRN := Lib.hid (show readD s.data.toList = none by unfold readD; rw [HPN.out, if_neg hd])
              have hee : ((ofL (deedL ⟨2, Q, 0⟩)).toList == s.toList) = false ∨ ((ofL (deedL ⟨2, Q, 0⟩)).toList == s.toList) = true ∧ s.toList.isEmpty = true := by
                by_cases h0 : deedL ⟨2, Q, 0⟩ = s.data.toList
                · refine .inr ⟨by rw [ByteArray.toList_eq, ofL_data, HTL.out, h0]; simp, ?_⟩
                  rw [HTL.out]
                  cases hsl : s.data.toList with
                  | nil => rfl
                  | cons a r => exact absurd ⟨by rw [hsl]; simp, h0⟩ hd
                · refine .inl ?_
                  rw [ByteArray.toList_eq, ofL_data, HTL.out]; simpa using h0
              obtain ⟨T, hT⟩ : ∃ T, T = ofL (deedL ⟨2, Q, 0⟩) := ⟨_, rfl⟩
              rw [← hT] at hee HDD
              clear hT hd
              rcases hee with heq | ⟨heq, hem⟩
              all_goals
                go_wp2_with (go_at_call 10; refine Calls.mono (HDD.out _) ?_; rintro e w9 ⟨rfl, hb9⟩; have HQ9 := Lib.hid ((hb9.block w.heap.size hz5).trans HQQ.out); have HR9 := Lib.hid ((hb9.block db hd5).trans R2.out); obtain ⟨b0, b1, b2⟩ := cells_three HQ9.out; have f0 := fun j => frozen_of_row w9 w.heap.size j _ _ HQ9.out; obtain ⟨c0, c1, c2⟩ := cells_three HR9.out)
                refine bodyPost_ret (v := .tuple #[.agg #[.int .i64 0, .string ⟨#[]⟩, .int .i64 0], .bool false]) ?_ rfl ⟨.inr ⟨HRN.out, rfl⟩, ?_⟩
                · exact ret_pair3 rfl _ _ w.heap.size _ _ rfl rfl (load_deed (box_three HQ9.out _ _ _))
                · exact (((HBB.out.trans (hb9.mono HBB.out.size)).setCell (Nat.le_refl _) _).setCell (Nat.le_refl _) _).setCell (Nat.le_refl _) _
          ·
            have kb1 : (k == 1) = false := by simpa using k1
            have kb2 : (k == 2) = false := by simpa using k2
            have HPN := Lib.hid (show parM (splitL 32 s.data.toList) = ⟨k, ByteArray.empty, V⟩ by rw [HPM.out]; simp [HH1.out, k1, k2])
            clear HPM
            clear k1 k2
            have HDD := Lib.hid (fun W => deedS k ByteArray.empty V W (by decide))
            have R2 := Lib.hid (row_num HRW.out V)
            have GG := Lib.hid (grown_putW HG.out 2 (.int .i64 V))
            have HBB := Lib.hid (show Below w.heap.size w (wr.setCell ⟨db, 2, none⟩ (.int .i64 V)) from HKB.out.setCell (show w.heap.size ≤ db by omega) _)
            have HQQ := Lib.hid (show (wr.setCell ⟨db, 2, none⟩ (.int .i64 V)).heap[w.heap.size]? = some (.cells #[.int .i64 0, .string ⟨#[]⟩, .int .i64 0] 24 (0, 0)) from (heap_setCell_other _ _ _ _ (show w.heap.size ≠ db by omega)).trans HKQ.out)
            go_upto_region 15 with (go_at_call 33; refine Calls.mono (HNS.out _) ?_; rintro e w3 ⟨rfl, rfl⟩)
            obtain ⟨W5, hW5⟩ : ∃ W, W = (wr.setCell ⟨db, 2, none⟩ (.int .i64 V)) := ⟨_, rfl⟩
            rw [← hW5] at R2 HBB HQQ ⊢
            clear hW5
            obtain ⟨c0, c1, c2⟩ := cells_three R2.out
            have hz5 := (Array.getElem?_eq_some_iff.1 HQQ.out).1
            have hd5 := (Array.getElem?_eq_some_iff.1 R2.out).1
            clear b0 b1 b2 f0 HRW HG HKC HKQ HKB GG kw0
            by_cases hd : s.data.toList ≠ [] ∧ deedL ⟨k, ByteArray.empty, V⟩ = s.data.toList
            ·
              have HRY := Lib.hid (show readD s.data.toList = some ⟨k, ByteArray.empty, V⟩ by unfold readD; rw [HPN.out, if_pos hd])
              have heq : ((ofL (deedL ⟨k, ByteArray.empty, V⟩)).toList == s.toList) = true := by rw [ByteArray.toList_eq, ofL_data, HTL.out, hd.2]; simp
              have hem : s.toList.isEmpty = false := by rw [HTL.out]; simpa using hd.1
              obtain ⟨T, hT⟩ : ∃ T, T = ofL (deedL ⟨k, ByteArray.empty, V⟩) := ⟨_, rfl⟩
              rw [← hT] at heq HDD
              clear hT hd
              go_wp2_with (go_at_call 10; refine Calls.mono (HDD.out _) ?_; rintro e w9 ⟨rfl, hb9⟩; have HQ9 := Lib.hid ((hb9.block w.heap.size hz5).trans HQQ.out); have HR9 := Lib.hid ((hb9.block db hd5).trans R2.out); obtain ⟨b0, b1, b2⟩ := cells_three HQ9.out; have f0 := fun j => frozen_of_row w9 w.heap.size j _ _ HQ9.out; obtain ⟨c0, c1, c2⟩ := cells_three HR9.out)
              refine bodyPost_ret (v := .tuple #[.agg #[.int .i64 k, .string ByteArray.empty, .int .i64 V], .bool true]) ?_ rfl ⟨.inl ⟨_, HRY.out, rfl⟩, ?_⟩
              · exact ret_pair3 rfl _ _ w.heap.size _ _ rfl rfl (load_deed (box_three HQ9.out _ _ _))
              · exact (((HBB.out.trans (hb9.mono HBB.out.size)).setCell (Nat.le_refl _) _).setCell (Nat.le_refl _) _).setCell (Nat.le_refl _) _
            ·
              have HRN := Lib.hid (show readD s.data.toList = none by unfold readD; rw [HPN.out, if_neg hd])
              have hee : ((ofL (deedL ⟨k, ByteArray.empty, V⟩)).toList == s.toList) = false ∨ ((ofL (deedL ⟨k, ByteArray.empty, V⟩)).toList == s.toList) = true ∧ s.toList.isEmpty = true := by
                by_cases h0 : deedL ⟨k, ByteArray.empty, V⟩ = s.data.toList
                · refine .inr ⟨by rw [ByteArray.toList_eq, ofL_data, HTL.out, h0]; simp, ?_⟩
                  rw [HTL.out]
                  cases hsl : s.data.toList with
                  | nil => rfl
                  | cons a r => exact absurd ⟨by rw [hsl]; simp, h0⟩ hd
                · refine .inl ?_
                  rw [ByteArray.toList_eq, ofL_data, HTL.out]; simpa using h0
              obtain ⟨T, hT⟩ : ∃ T, T = ofL (deedL ⟨k, ByteArray.empty, V⟩) := ⟨_, rfl⟩
              rw [← hT] at hee HDD
              clear hT hd
              rcases hee with heq | ⟨heq, hem⟩
              all_goals
                go_wp2_with (go_at_call 10; refine Calls.mono (HDD.out _) ?_; rintro e w9 ⟨rfl, hb9⟩; have HQ9 := Lib.hid ((hb9.block w.heap.size hz5).trans HQQ.out); have HR9 := Lib.hid ((hb9.block db hd5).trans R2.out); obtain ⟨b0, b1, b2⟩ := cells_three HQ9.out; have f0 := fun j => frozen_of_row w9 w.heap.size j _ _ HQ9.out; obtain ⟨c0, c1, c2⟩ := cells_three HR9.out)
                refine bodyPost_ret (v := .tuple #[.agg #[.int .i64 0, .string ⟨#[]⟩, .int .i64 0], .bool false]) ?_ rfl ⟨.inr ⟨HRN.out, rfl⟩, ?_⟩
                · exact ret_pair3 rfl _ _ w.heap.size _ _ rfl rfl (load_deed (box_three HQ9.out _ _ _))
                · exact (((HBB.out.trans (hb9.mono HBB.out.size)).setCell (Nat.le_refl _) _).setCell (Nat.le_refl _) _).setCell (Nat.le_refl _) _
      ·
        have z5 : ¬ (1 : Int) < (l.length : Int) := by omega
        have HH1 := Lib.hid h1
        clear hwl hk h1
        have HPN := Lib.hid (show parM (splitL 32 s.data.toList) = ⟨k, ByteArray.empty, 0⟩ by rw [HPM.out]; simp [HH1.out])
        clear HPM
        have HDD := Lib.hid (fun W => deedS k ByteArray.empty 0 W (by decide))
        have R2 := HRW
        have GG := HG
        have HBB := Lib.hid (show Below w.heap.size w wr from HKB.out)
        have HQQ := Lib.hid (show wr.heap[w.heap.size]? = some (.cells #[.int .i64 0, .string ⟨#[]⟩, .int .i64 0] 24 (0, 0)) from HKQ.out)
        go_upto_region 15 with fail
        obtain ⟨W5, hW5⟩ : ∃ W, W = wr := ⟨_, rfl⟩
        rw [← hW5] at R2 HBB HQQ ⊢
        clear hW5
        obtain ⟨c0, c1, c2⟩ := cells_three R2.out
        have hz5 := (Array.getElem?_eq_some_iff.1 HQQ.out).1
        have hd5 := (Array.getElem?_eq_some_iff.1 R2.out).1
        clear b0 b1 b2 f0 HRW HG HKC HKQ HKB GG kw0
        by_cases hd : s.data.toList ≠ [] ∧ deedL ⟨k, ByteArray.empty, 0⟩ = s.data.toList
        ·
          have HRY := Lib.hid (show readD s.data.toList = some ⟨k, ByteArray.empty, 0⟩ by unfold readD; rw [HPN.out, if_pos hd])
          have heq : ((ofL (deedL ⟨k, ByteArray.empty, 0⟩)).toList == s.toList) = true := by rw [ByteArray.toList_eq, ofL_data, HTL.out, hd.2]; simp
          have hem : s.toList.isEmpty = false := by rw [HTL.out]; simpa using hd.1
          obtain ⟨T, hT⟩ : ∃ T, T = ofL (deedL ⟨k, ByteArray.empty, 0⟩) := ⟨_, rfl⟩
          rw [← hT] at heq HDD
          clear hT hd
          go_wp2_with (go_at_call 10; refine Calls.mono (HDD.out _) ?_; rintro e w9 ⟨rfl, hb9⟩; have HQ9 := Lib.hid ((hb9.block w.heap.size hz5).trans HQQ.out); have HR9 := Lib.hid ((hb9.block db hd5).trans R2.out); obtain ⟨b0, b1, b2⟩ := cells_three HQ9.out; have f0 := fun j => frozen_of_row w9 w.heap.size j _ _ HQ9.out; obtain ⟨c0, c1, c2⟩ := cells_three HR9.out)
          refine bodyPost_ret (v := .tuple #[.agg #[.int .i64 k, .string ByteArray.empty, .int .i64 0], .bool true]) ?_ rfl ⟨.inl ⟨_, HRY.out, rfl⟩, ?_⟩
          · exact ret_pair3 rfl _ _ w.heap.size _ _ rfl rfl (load_deed (box_three HQ9.out _ _ _))
          · exact (((HBB.out.trans (hb9.mono HBB.out.size)).setCell (Nat.le_refl _) _).setCell (Nat.le_refl _) _).setCell (Nat.le_refl _) _
        ·
          have HRN := Lib.hid (show readD s.data.toList = none by unfold readD; rw [HPN.out, if_neg hd])
          have hee : ((ofL (deedL ⟨k, ByteArray.empty, 0⟩)).toList == s.toList) = false ∨ ((ofL (deedL ⟨k, ByteArray.empty, 0⟩)).toList == s.toList) = true ∧ s.toList.isEmpty = true := by
            by_cases h0 : deedL ⟨k, ByteArray.empty, 0⟩ = s.data.toList
            · refine .inr ⟨by rw [ByteArray.toList_eq, ofL_data, HTL.out, h0]; simp, ?_⟩
              rw [HTL.out]
              cases hsl : s.data.toList with
              | nil => rfl
              | cons a r => exact absurd ⟨by rw [hsl]; simp, h0⟩ hd
            · refine .inl ?_
              rw [ByteArray.toList_eq, ofL_data, HTL.out]; simpa using h0
          obtain ⟨T, hT⟩ : ∃ T, T = ofL (deedL ⟨k, ByteArray.empty, 0⟩) := ⟨_, rfl⟩
          rw [← hT] at hee HDD
          clear hT hd
          rcases hee with heq | ⟨heq, hem⟩
          all_goals
            go_wp2_with (go_at_call 10; refine Calls.mono (HDD.out _) ?_; rintro e w9 ⟨rfl, hb9⟩; have HQ9 := Lib.hid ((hb9.block w.heap.size hz5).trans HQQ.out); have HR9 := Lib.hid ((hb9.block db hd5).trans R2.out); obtain ⟨b0, b1, b2⟩ := cells_three HQ9.out; have f0 := fun j => frozen_of_row w9 w.heap.size j _ _ HQ9.out; obtain ⟨c0, c1, c2⟩ := cells_three HR9.out)
            refine bodyPost_ret (v := .tuple #[.agg #[.int .i64 0, .string ⟨#[]⟩, .int .i64 0], .bool false]) ?_ rfl ⟨.inr ⟨HRN.out, rfl⟩, ?_⟩
            · exact ret_pair3 rfl _ _ w.heap.size _ _ rfl rfl (load_deed (box_three HQ9.out _ _ _))
            · exact (((HBB.out.trans (hb9.mono HBB.out.size)).setCell (Nat.le_refl _) _).setCell (Nat.le_refl _) _).setCell (Nat.le_refl _) _
end Go.Proofs.YtklphdomjhliaaaDoor.W

