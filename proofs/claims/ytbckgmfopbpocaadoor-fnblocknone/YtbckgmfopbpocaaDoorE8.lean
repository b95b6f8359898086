/-
  A slice of entries that came in, handed on: a copy in new memory.
-/
import Derived.Test.YtbckgmfopbpocaaDoorE7
import Derived.OwnWalk
import Derived.Laws.OwnMore
namespace Go.Proofs.YtbckgmfopbpocaaDoor.W
open Go.RowKit K R

theorem ent_info : (Tryd.prog.info? 43).map (fun i => (i.zero, i.size, i.bytes)) = some (some (.agg #[.string ⟨#[]⟩, .int .i64 0, .bool false, .int .i64 0]), 4, 40) := by kernel_rfl
theorem made_E (n : Nat) : (madeCells #[.string ⟨#[]⟩, .int .i64 0, .bool false, .int .i64 0] (n * 4)).toList = cellsE (List.replicate n blankE) := by
  apply List.ext_getElem?
  intro m
  by_cases hm : m < n * 4
  · have hi : m / 4 < (List.replicate n blankE).length := by rw [List.length_replicate]; omega
    have hr := cellsE_at hi (m % 4) (by omega)
    rw [show m / 4 * 4 + m % 4 = m by omega, List.getElem_replicate] at hr
    rw [hr]
    unfold madeCells
    simp only [Array.toList_map, List.getElem?_map, Array.toList_range, List.getElem?_range hm, Option.map_some]
    have h4 : m % 4 = 0 ∨ m % 4 = 1 ∨ m % 4 = 2 ∨ m % 4 = 3 := by omega
    show some ((#[Value.string ⟨#[]⟩, .int .i64 0, .bool false, .int .i64 0] : Array Value)[m % 4]!) = _
    rcases h4 with h | h | h | h <;> rw [h] <;> rfl
  · rw [List.getElem?_eq_none (by rw [Array.length_toList, size_madeCells]; omega), List.getElem?_eq_none (by rw [cellsE_len, List.length_replicate]; omega)]
theorem rowBelow {E : TypeId} {sz : Nat} {w w' : World} {base n : Nat} {v : Value} {cs : List Value} (h : w.ownsRow base E sz v n cs) (hb : Below w.heap.size w w') : w'.ownsRow base E sz v n cs := by
  refine ⟨h.1, ?_⟩
  rcases h.2 with hn | ⟨g, cap, cur, hv, hbg, hg, rest⟩
  · exact .inl hn
  · exact .inr ⟨g, cap, cur, hv, hbg, by rw [hb.block g (Array.getElem?_eq_some_iff.1 hg).1]; exact hg, rest⟩
/-- a new slice of entries -/
def NewE (w : World) (l : List En) (e : Ending) (w' : World) : Prop := ∃ g c, e = .returned (.slice (some ⟨g, 0, none⟩) l.length c) ∧ w'.ownsRow w.heap.size 43 4 (.slice (some ⟨g, 0, none⟩) l.length c) l.length (cellsE l) ∧ Below w.heap.size w w'

set_option maxHeartbeats 4000000 in
theorem copyE (w : World) (B n c : Nat) (A : Option Addr) (l : List En) (hr : Ents w B A n l) (hB : B ≤ w.heap.size) (hn : n ≤ 1048576) :
    Calls Tryd.prog 19 #[.slice A n c] w (NewE w l) := by
  have hlen := hr.len
  subst hlen
  have HR := Lib.hid hr
  clear hr
  obtain ⟨i0, hi, hz0, hz1, hz2⟩ := info_parts ent_info
  go_enter Tryd.func19, Tryd.ntmps19
  go_wp2_with (at_make; refine wpList_make_full w rfl (.tmp 6) (.tmp 6) 23 rfl w.heap.size 43 i0 (.agg #[.string ⟨#[]⟩, .int .i64 0, .bool false, .int .i64 0]) 4 Tryd.underlying23 hi hz0 hz1 .i64 .i64 _ _ l.length rfl rfl rfl rfl (by rw [hz2]; omega) (by unfold maxLen; omega) (Nat.le_refl _) ?_; intro w1 ho1 hg1)
  have HO1 := Lib.hid (show w1.ownsRow w.heap.size 43 4 (.slice (some ⟨w.heap.size, 0, none⟩) l.length l.length) l.length (cellsE (List.replicate l.length blankE)) by rw [← made_E]; exact ho1)
  have HB1 := Lib.hid ((Below.refl w.heap.size w).grown hg1 (Nat.le_refl _) (fun k e => by cases e))
  clear ho1 hg1 hi hz0 hz1 hz2
  go_wp2_with fail
  go_loopw [4] (fun i wr => ∃ k : Nat, k ≤ l.length ∧ i = .int .i64 (k : Nat) ∧ wr.ownsRow w.heap.size 43 4 (.slice (some ⟨w.heap.size, 0, none⟩) l.length l.length) l.length (cellsE (l.take k ++ List.replicate (l.length - k) blankE)) ∧ Below w.heap.size w wr) (fun i _ => l.length - (intOf i).toNat)
  case atStart => exact ⟨0, Nat.zero_le _, rfl, by simpa using HO1.out, HB1.out⟩
  case round =>
    obtain ⟨k, hk, rfl, ho, hb⟩ := hrel
    have HO := Lib.hid ho
    have HB := Lib.hid hb
    clear ho hb HO1 HB1
    by_cases hlt : k < l.length
    · obtain ⟨kb, ko, hA, hbB, c0, c1, c2, c3⟩ := (HR.out.below HB.out hB).cell k hlt
      subst hA
      obtain ⟨x0, h0⟩ : ∃ y, y = l[k].key := ⟨_, rfl⟩
      obtain ⟨x1, h1⟩ : ∃ y, y = l[k].val := ⟨_, rfl⟩
      obtain ⟨x2, h2⟩ : ∃ y, y = l[k].gone := ⟨_, rfl⟩
      obtain ⟨x3, h3⟩ : ∃ y, y = l[k].time := ⟨_, rfl⟩
      rw [← h0] at c0
      rw [← h1] at c1
      rw [← h2] at c2
      rw [← h3] at c3
      have z0 : (0 : Int) ≤ (k : Int) := by omega
      have z1 : (k : Int) < (l.length : Int) := by omega
      have hwlt := (World.ownsRow.lt HO.out w.heap.size rfl).2
      have HT := Lib.hid (show Calls Tryd.prog 41 #[.agg #[.string x0, .int .i64 x1, .bool x2, .int .i64 x3]] wr fun e w' => e = .returned (.agg #[.string x0, .int .i64 x1, .bool x2, .int .i64 x3]) ∧ Below wr.heap.size wr w' from toEn x0 x1 x2 x3 wr)
      have HE := Lib.hid (show l[k] = ⟨x0, x1, x2, x3⟩ by rw [h0, h1, h2, h3])
      clear h0 h1 h2 h3
      go_wp2_with fail
      go_at_call 41
      refine HT.out.mono ?_
      rintro e w5 ⟨rfl, hb5⟩
      have HO5 := Lib.hid (rowBelow HO.out hb5)
      have HB5 := Lib.hid (HB.out.trans (hb5.mono HB.out.size))
      have hll : k < (l.take k ++ List.replicate (l.length - k) blankE).length := by rw [List.length_append, List.length_take, List.length_replicate]; omega
      clear hb5
      have q0 := rowGet HO5.out (i := k * 4) (by rw [show k * 4 = k * 4 + 0 from rfl, cellsE_at hll 0 (by omega)]; rfl)
      have q1 := rowGet HO5.out (i := k * 4 + 1) (by rw [cellsE_at hll 1 (by omega)]; rfl)
      have q2 := rowGet HO5.out (i := k * 4 + 2) (by rw [cellsE_at hll 2 (by omega)]; rfl)
      have q3 := rowGet HO5.out (i := k * 4 + 3) (by rw [cellsE_at hll 3 (by omega)]; rfl)
      have f0 := rowFree HO5.out (k * 4)
      have f1 := rowFree HO5.out (k * 4 + 1)
      have f2 := rowFree HO5.out (k * 4 + 2)
      have f3 := rowFree HO5.out (k * 4 + 3)
      have hst := cellsE_set hll ⟨x0, x1, x2, x3⟩
      rw [← HE.out, copyE_step hlt, HE.out] at hst
      have HST := Lib.hid hst
      clear hst c0 c1 c2 c3
      go_wp2
      go_roundw
      case rel =>
        refine ⟨k + 1, by omega, by go_num, ?_, (((HB5.out.setCell (p := ⟨w.heap.size, k * 4, none⟩) (Nat.le_refl _) _).setCell (p := ⟨w.heap.size, k * 4 + 1, none⟩) (Nat.le_refl _) _).setCell (p := ⟨w.heap.size, k * 4 + 2, none⟩) (Nat.le_refl _) _).setCell (p := ⟨w.heap.size, k * 4 + 3, none⟩) (Nat.le_refl _) _⟩
        rw [← HST.out]
        exact rowSet (rowSet (rowSet (rowSet HO5.out (k * 4) _) (k * 4 + 1) _) (k * 4 + 2) _) (k * 4 + 3) _
      case measure => simp [intOf]; omega
    · have hke : k = l.length := by omega
      subst hke
      go_wp2
      go_ret
      exact ⟨_, _, rfl, by simpa using HO.out, HB.out⟩

end Go.Proofs.YtbckgmfopbpocaaDoor.W
