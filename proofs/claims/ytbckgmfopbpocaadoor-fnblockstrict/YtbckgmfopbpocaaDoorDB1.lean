/-
  What the laws of blocks draw: entries, and texts.
-/
import Derived.Test.YtbckgmfopbpocaaDoorB4
import Derived.Test.YtbckgmfopbpocaaDoorEP
import Derived.OrdersHeld
import Derived.Deep.RegionHeld
import Derived.BigQuiet
namespace Go.Proofs.YtbckgmfopbpocaaDoor.W
open Go.RowKit K R B

/-- few entries were drawn -/
def FewA (w : World) (e : Ending) (w' : World) : Prop :=
  ∃ (A : Option Addr) (c : Nat) (l : List En), e = .returned (.slice A l.length c) ∧ Few w' A c l ∧ Below w.heap.size w w'

theorem row_four' {w : World} {b : Nat} {x0 x1 x2 x3 : Value} {ty : TypeId} (h : w.heap[b]? = some (.cells #[x0, x1, x2, x3] ty (0, 0))) :
    w.cell? ⟨b, 0, none⟩ = some x0 ∧ w.cell? ⟨b, 1, none⟩ = some x1 ∧ w.cell? ⟨b, 2, none⟩ = some x2 ∧ w.cell? ⟨b, 3, none⟩ = some x3 ∧ w.frozen? ⟨b, 0, none⟩ = false ∧ w.frozen? ⟨b, 1, none⟩ = false ∧ w.frozen? ⟨b, 2, none⟩ = false ∧ w.frozen? ⟨b, 3, none⟩ = false := by
  refine ⟨?_, ?_, ?_, ?_, frozen_of_row _ _ 0 _ _ h, frozen_of_row _ _ 1 _ _ h, frozen_of_row _ _ 2 _ _ h, frozen_of_row _ _ 3 _ _ h⟩ <;> (rw [cell_of_row _ _ _ _ _ _ h]; rfl)
set_option maxHeartbeats 4000000 in
set_option maxRecDepth 100000 in
theorem drawBlockText (w : World) (A : Option Addr) (n c : Nat) (hb : Bytes w w.heap.size A n) (hnc : n ≤ c) (hc : c ≤ maxLen) :
    Calls Tryd.prog 10 #[.slice A n c] w (FewA w) := by
  go_enter Tryd.func10, Tryd.ntmps10
  go_wp2_with fail
  go_at_call 23
  refine Calls.mono (openR w A n c hb hnc hc) ?_
  rintro e w1 ⟨A1, n1, c1, rfl, hr1, hb1⟩
  have hg1 : w.heap.size < w1.heap.size := (Array.getElem?_eq_some_iff.1 hr1.blk).1
  have HB1 := Lib.hid hb1
  have HR1 := Lib.hid hr1
  clear hb hr1 hb1
  go_wp2_with fail
  go_at_call 24
  refine Calls.mono (pick w1 w.heap.size 0 n1 c1 A1 12 HR1.out (by omega) (by omega)) ?_
  rintro e w2 ⟨x, rfl, hx0, hx1, hr2, hg2⟩
  have HR2 := Lib.hid hr2
  have HB2 := Lib.hid (below_g HB1.out hg2 (Nat.le_refl _))
  have hsz2 := HB2.out.size
  clear hr2 hg2 HR1 HB1
  by_cases hx : x = 0
  · subst hx
    have HO2 := Lib.hid (ownE_base (emptyE w2) hsz2)
    have HBA := Lib.hid (HB2.out.alloc hsz2 (.cells #[] 43))
    clear hx0 hx1
    go_wp2_with fail
    go_loopw [4, 5] (fun ov iv wr => ∃ (k : Nat) (l : List En), k ≤ 36 ∧ iv = .int .i64 (k : Nat) ∧ l.length = k ∧ (∀ e ∈ l, e.key.size ≤ 6) ∧ OwnE wr w.heap.size ov l ∧ Below w.heap.size w wr) (fun _ iv _ => 36 - (intOf iv).toNat)
    case atStart => exact ⟨0, [], by omega, rfl, rfl, fun e he => (by cases he), HO2.out, HBA.out⟩
    case round =>
      obtain ⟨k, l, hk, rfl, hl, hsh, ho, hb⟩ := hrel
      have HO := Lib.hid ho
      have HB := Lib.hid hb
      have HSH := Lib.hid hsh
      have hsz := hb.size
      have hlt2 := World.ownsRow.lt ho
      clear ho hb hsh HO2 HBA
      by_cases hlt : k < 36
      · have z1 : (k : Int) < 36 := by omega
        have bA : Below wr.heap.size wr (wr.alloc (.cells #[.string ⟨#[100, 100, 100, 100, 100]⟩, .int .i64 99, .bool false, .int .i64 (900 - (k : Int))] 43)) := (Below.refl _ _).alloc (Nat.le_refl _) _
        have HOA := Lib.hid (rowBelow HO.out bA)
        have HBA := Lib.hid (HB.out.trans (bA.mono hsz))
        obtain ⟨y0, y1, y2, y3, -, -, -, -⟩ := row_four' (heap_alloc_new wr (.cells #[.string ⟨#[100, 100, 100, 100, 100]⟩, .int .i64 99, .bool false, .int .i64 (900 - (k : Int))] 43))
        clear bA
        go_wp2_with (at_builtin; go_must (refine app_en rfl (.tmp 16) (.tmp 20) rfl (wr.alloc (.cells #[.string ⟨#[100, 100, 100, 100, 100]⟩, .int .i64 99, .bool false, .int .i64 (900 - (k : Int))] 43)) w.heap.size _ l rfl HOA.out wr.heap.size 1 ⟨⟨#[100, 100, 100, 100, 100]⟩, 99, false, 900 - (k : Int)⟩ rfl y0 y1 y2 y3 (by omega) HBA.out.size ?_); intro vb wb ob gb; have OB := Lib.hid ob; have BB := Lib.hid (HBA.out.grown gb HBA.out.size fun k hk => (World.ownsRow.lt HOA.out k hk).1); clear ob gb)
        go_wp2
        go_roundw
        case rel =>
          refine ⟨k + 1, l ++ [⟨⟨#[100, 100, 100, 100, 100]⟩, 99, false, 900 - (k : Int)⟩], by omega, by go_num, by rw [List.length_append, hl]; rfl, ?_, OB.out, BB.out⟩
          intro e he
          rcases List.mem_append.mp he with he | he
          · exact HSH.out e he
          · rw [List.mem_singleton.mp he]; show (5 : Nat) ≤ 6; omega
        case measure => simp [intOf]; omega
      · have z1 : ¬ (k : Int) < 36 := by omega
        obtain ⟨A2, c2, hv, hf⟩ := few_of HO.out (by omega) HSH.out
        subst hv
        have HF := Lib.hid hf
        clear hf
        go_wp2
        go_ret
        exact ⟨_, _, l, by rw [hl]; rfl, HF.out, HB.out⟩
  · clear hx1
    go_wp2_with fail
    go_at_call 25
    refine Calls.mono (offDr w2 w.heap.size 1 n1 c1 A1 HR2.out (by omega)) ?_
    rintro e w3 ⟨v, l, p2, hll, hsh, hp2, rfl, ho2, hr3, hg3⟩
    obtain ⟨A2, c2, hv, hf⟩ := few_of ho2 (by omega) (fun e he => by have := hsh e he; omega)
    subst hv
    have HF := Lib.hid hf
    have HB3 := Lib.hid (below_g HB2.out hg3 (Nat.le_refl _))
    clear hsh ho2 hr3 hg3 hf
    go_wp2
    go_ret
    exact ⟨_, _, l, rfl, HF.out, HB3.out⟩

end Go.Proofs.YtbckgmfopbpocaaDoor.W
