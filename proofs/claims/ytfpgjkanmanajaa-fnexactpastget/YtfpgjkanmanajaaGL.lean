/-
  What was put last in a list of entries: the mathematics; the model's PastGet.
-/
import Derived.Test.YtfpgjkanmanajaaER
import Derived.Test.YtfpgjkanmanajaaEQ
namespace Go.Proofs.Ytfpgjkanmanajaa.W
open Go.RowKit K R

/-- an entry is of a key, and not later than a time -/
def isOf (k : ByteArray) (t : Int) (e : En) : Bool := (e.key.toList == k.toList) && decide (e.time ≤ t)
/-- the last such entry -/
def lastL (l : List En) (k : ByteArray) (t : Int) : Option En := l.reverse.find? (isOf k t)
theorem last_rest {l : List En} {k : ByteArray} {t : Int} {m : Nat} (h : ∀ j (hj : j < l.length), m ≤ j → isOf k t l[j] = false) : (l.drop m).reverse.find? (isOf k t) = none := by
  rw [List.find?_eq_none]
  intro x hx
  rw [List.mem_reverse] at hx
  obtain ⟨i, hi, rfl⟩ := List.getElem_of_mem hx
  rw [List.length_drop] at hi
  rw [List.getElem_drop, h (m + i) (by omega) (by omega)]
  simp
theorem last_hit {l : List En} {k : ByteArray} {t : Int} {m : Nat} (hm : m < l.length) (hp : isOf k t l[m] = true) (h : ∀ j (hj : j < l.length), m < j → isOf k t l[j] = false) : lastL l k t = some l[m] := by
  have e : l.reverse = (l.drop (m + 1)).reverse ++ (l[m] :: (l.take m).reverse) := by
    conv => lhs; rw [← List.take_append_drop m l, List.drop_eq_getElem_cons hm]
    rw [List.reverse_append, List.reverse_cons, List.append_assoc, List.singleton_append]
  unfold lastL
  rw [e, List.find?_append, last_rest (m := m + 1) (fun j hj hmj => h j hj (by omega)), Option.none_or, List.find?_cons, hp]
theorem last_none {l : List En} {k : ByteArray} {t : Int} (h : ∀ j (hj : j < l.length), isOf k t l[j] = false) : lastL l k t = none := by
  have := last_rest (l := l) (k := k) (t := t) (m := 0) (fun j hj _ => h j hj)
  rw [List.drop_zero] at this
  exact this
/-- an entry as a pair: its value, and that it is there -/
def gotV (o : Option En) : Int × Bool := match o with
  | some e => if e.gone = true then (0, false) else (e.val, true)
  | none => (0, false)
def GotA (w : World) (o : Option En) (e : Ending) (w' : World) : Prop := e = .returned (.tuple #[.int .i64 (gotV o).1, .bool (gotV o).2]) ∧ Below w.heap.size w w'

set_option maxHeartbeats 8000000 in
set_option maxRecDepth 100000 in
theorem lastS (w : World) (B n c : Nat) (A : Option Addr) (l : List En) (s : ByteArray) (t : Int) (hr : Ents w B A n l) (hB : B ≤ w.heap.size) (hn : n ≤ maxLen) :
    Calls Try.prog 87 #[.slice A n c, .string s, .int .i64 t] w (AtA w (atE (lastL l s t)).key (atE (lastL l s t)).val (atE (lastL l s t)).gone (atE (lastL l s t)).time (lastL l s t).isSome) := by
  have hlen := hr.len
  subst hlen
  unfold maxLen at hn
  obtain ⟨W0, hW0⟩ : ∃ W0, W0 = w.alloc (.cells #[.string ⟨#[]⟩, .int .i64 0, .bool false, .int .i64 0] 33) := ⟨_, rfl⟩
  have hb0 : Below w.heap.size w W0 := by rw [hW0]; exact (Below.refl _ _).alloc (Nat.le_refl _) _
  have hs0 : W0.heap.size = w.heap.size + 1 := by rw [hW0]; simp
  have HX0 := Lib.hid (show W0.heap[w.heap.size]? = some (.cells #[.string ⟨#[]⟩, .int .i64 0, .bool false, .int .i64 0] 33 (0, 0)) by rw [hW0]; exact heap_alloc_new _ _)
  have HR := Lib.hid (hr.below hb0 hB)
  have HB0 := Lib.hid hb0
  have HW0 := Lib.hid hW0
  have hz : IntKind.i64.wrap ((l.length : Int) - 1) = (l.length : Int) - 1 := i64_z _ (by omega) (by omega)
  obtain ⟨o, ho⟩ : ∃ o, o = lastL l s t := ⟨_, rfl⟩
  obtain ⟨x0, x1, x2, x3, b, hx, hbs⟩ := at_letters o
  rw [← ho, hx, hbs]
  have HO := Lib.hid ho
  have HX := Lib.hid hx
  have HBS := Lib.hid hbs
  clear hr hb0 hW0 ho hx hbs
  go_enter Try.func87, Try.ntmps87
  go_wp2_with fail
  go_loopw [8] (fun i wr => ∃ (z : Int) (m : Nat), i = .int .i64 z ∧ m ≤ l.length ∧ z = (m : Int) - 1 ∧ (∀ j (hj : j < l.length), m ≤ j → isOf s t l[j] = false) ∧ wr = W0) (fun i _ => (intOf i + 1).toNat)
  case atStart => exact ⟨_, l.length, rfl, Nat.le_refl _, rfl, fun j hj h => absurd hj (by omega), HW0.out.symm⟩
  case round =>
    obtain ⟨z, m, rfl, hm, hz2, hno, rfl⟩ := hrel
    have HNO := Lib.hid hno
    have HZ := Lib.hid hz2
    have bq0 : wr.cell? ⟨w.heap.size, 0, none⟩ = some (.string ⟨#[]⟩) := by rw [cell_of_row _ _ _ _ _ _ HX0.out]; rfl
    have bz0 : wr.frozen? ⟨w.heap.size, 0, none⟩ = false := by rw [frozen_of_row _ _ _ _ _ HX0.out]
    have bq1 : wr.cell? ⟨w.heap.size, 1, none⟩ = some (.int .i64 0) := by rw [cell_of_row _ _ _ _ _ _ HX0.out]; rfl
    have bz1 : wr.frozen? ⟨w.heap.size, 1, none⟩ = false := by rw [frozen_of_row _ _ _ _ _ HX0.out]
    have bq2 : wr.cell? ⟨w.heap.size, 2, none⟩ = some (.bool false) := by rw [cell_of_row _ _ _ _ _ _ HX0.out]; rfl
    have bz2 : wr.frozen? ⟨w.heap.size, 2, none⟩ = false := by rw [frozen_of_row _ _ _ _ _ HX0.out]
    have bq3 : wr.cell? ⟨w.heap.size, 3, none⟩ = some (.int .i64 0) := by rw [cell_of_row _ _ _ _ _ _ HX0.out]; rfl
    have bz3 : wr.frozen? ⟨w.heap.size, 3, none⟩ = false := by rw [frozen_of_row _ _ _ _ _ HX0.out]
    clear hno HW0
    have fin : ∀ (y0 : ByteArray) (y1 : Int) (y2 : Bool) (y3 : Int), Below w.heap.size w ((((wr.setCell ⟨w.heap.size, 0, none⟩ (.string y0)).setCell ⟨w.heap.size, 1, none⟩ (.int .i64 y1)).setCell ⟨w.heap.size, 2, none⟩ (.bool y2)).setCell ⟨w.heap.size, 3, none⟩ (.int .i64 y3)) := fun y0 y1 y2 y3 =>
      ((((HB0.out.setCell (p := ⟨w.heap.size, 0, none⟩) (Nat.le_refl _) _).setCell (p := ⟨w.heap.size, 1, none⟩) (Nat.le_refl _) _).setCell (p := ⟨w.heap.size, 2, none⟩) (Nat.le_refl _) _).setCell (p := ⟨w.heap.size, 3, none⟩) (Nat.le_refl _) _)
    have FIN := Lib.hid fin
    clear fin
    by_cases hlt : 0 ≤ z
    · obtain ⟨M, rfl⟩ : ∃ M, m = M + 1 := ⟨m - 1, by omega⟩
      have hMl : M < l.length := by omega
      obtain ⟨kb, ko, hA, hkb, c0, c1, c2, c3⟩ := HR.out.cell M hMl
      subst hA
      obtain rfl : z = (M : Int) := by omega
      obtain ⟨e0, he⟩ : ∃ e, e = l[M] := ⟨_, rfl⟩
      have HE := Lib.hid he
      obtain ⟨y0, y1, y2, y3⟩ := e0
      rw [← he] at c0 c1 c2 c3
      simp only at c0 c1 c2 c3
      have z0 : (0 : Int) ≤ (M : Int) := by omega
      have z1 : (M : Int) < (l.length : Int) := by omega
      have hw1 : IntKind.i64.wrap ((M : Int) - 1) = (M : Int) - 1 := i64_z _ (by omega) (by omega)
      clear he hz2 hz hlt
      rcases Bool.eq_false_or_eq_true (y0.toList == s.toList) with h1 | h1
      · by_cases h2 : y3 ≤ t
        · have HP := Lib.hid (show isOf s t l[M] = true by rw [← HE.out]; unfold isOf; rw [h1, decide_eq_true h2]; rfl)
          have HL := Lib.hid (last_hit hMl HP.out fun j hj hmj => HNO.out j hj (by omega))
          have hoe : o = some ⟨y0, y1, y2, y3⟩ := by rw [HO.out, HL.out, ← HE.out]
          have hxe := HX.out
          have hbe := HBS.out
          rw [hoe] at hxe hbe
          injection hxe with q0 q1 q2 q3
          have hbt : b = true := hbe.symm
          subst q0 q1 q2 q3 hbt
          clear hoe hbe
          go_wp2
          (try simp only [Exit.inBlock, Exit.then])
          refine bodyPost_ret (v := .tuple #[.agg #[.string y0, .int .i64 y1, .bool y2, .int .i64 y3], .bool true]) ?_ rfl ⟨rfl, FIN.out _ _ _ _⟩
          exact ret_two rfl _ _ w.heap.size _ _ rfl rfl (load_entry (box_four HX0.out _ _ _ _))
        · have HN := Lib.hid (show ∀ j (hj : j < l.length), M ≤ j → isOf s t l[j] = false from fun j hj h => by
            by_cases e : j = M
            · subst e; rw [← HE.out]; unfold isOf; rw [decide_eq_false h2, Bool.and_false]
            · exact HNO.out j hj (by omega))
          go_wp2
          go_roundw
          case rel => exact ⟨_, M, rfl, by omega, rfl, HN.out, by first | rfl | trivial⟩
          case measure => simp [intOf]
      · have HN := Lib.hid (show ∀ j (hj : j < l.length), M ≤ j → isOf s t l[j] = false from fun j hj h => by
          by_cases e : j = M
          · subst e; rw [← HE.out]; unfold isOf; rw [h1, Bool.false_and]
          · exact HNO.out j hj (by omega))
        go_wp2
        go_roundw
        case rel => exact ⟨_, M, rfl, by omega, rfl, HN.out, by first | rfl | trivial⟩
        case measure => simp [intOf]
    · have hm0 : m = 0 := by omega
      subst hm0
      have hoe : o = none := by rw [HO.out]; exact last_none fun j hj => HNO.out j hj (Nat.zero_le _)
      have hxe := HX.out
      have hbe := HBS.out
      rw [hoe] at hxe hbe
      injection hxe with q0 q1 q2 q3
      have hbt : b = false := hbe.symm
      subst q0 q1 q2 q3 hbt
      clear hoe hbe hz2 hz
      go_wp2
      refine bodyPost_ret (v := .tuple #[.agg #[.string ⟨#[]⟩, .int .i64 0, .bool false, .int .i64 0], .bool false]) ?_ rfl ⟨rfl, FIN.out _ _ _ _⟩
      exact ret_two rfl _ _ w.heap.size _ _ rfl rfl (load_entry (box_four HX0.out _ _ _ _))

set_option maxHeartbeats 4000000 in
theorem pastGetS (w : World) (B n c : Nat) (A : Option Addr) (l : List En) (s : ByteArray) (t : Int) (hr : Ents w B A n l) (hB : B ≤ w.heap.size) (hn : n ≤ maxLen) :
    Calls Try.prog 57 #[.slice A n c, .string s, .int .i64 t] w (GotA w (lastL l s t)) := by
  have HC := lastS w B n c A l s t hr hB hn
  obtain ⟨o, ho⟩ : ∃ o, o = lastL l s t := ⟨_, rfl⟩
  obtain ⟨x0, x1, x2, x3, b, hx, hbs⟩ := at_letters o
  rw [← ho, hx, hbs] at HC
  rw [← ho]
  have HG := Lib.hid (show gotV o = if b = true then (if x2 = true then (0, false) else (x1, true)) else (0, false) by
    cases o with
    | none => rw [← hbs]; rfl
    | some e => rw [← hbs]; have h2 : e = ⟨x0, x1, x2, x3⟩ := hx; subst h2; rfl)
  unfold GotA
  have HC := Lib.hid HC
  clear hr hx hbs ho
  go_enter Try.func57, Try.ntmps57
  go_wp2_with fail
  go_at_call 87
  refine Calls.mono HC.out ?_
  rintro e w2 ⟨rfl, b_⟩
  obtain ⟨W2, hW2⟩ : ∃ W, W = w2.alloc (.cells #[.string x0, .int .i64 x1, .bool x2, .int .i64 x3] 33) := ⟨_, rfl⟩
  have bb_ : Below w.heap.size w W2 := by rw [hW2]; exact b_.trans ((new_box w2 x0 x1 x2 x3).mono b_.size)
  obtain ⟨p0, p1, p2, p3⟩ := (show Box W2 w2.heap.size x0 x1 x2 x3 by rw [hW2]; exact Box.new _ _ _ _ _).cells
  have HW2 := Lib.hid hW2
  have HB2 := Lib.hid bb_
  clear b_ bb_ hW2 HC
  go_upto_region 2 with fail
  rw [← HW2.out]
  cases b with
  | false =>
    go_wp2
    go_ret2
    exact ⟨by rw [HG.out]; rfl, HB2.out⟩
  | true =>
    cases x2 with
    | true =>
      go_wp2
      go_ret2
      exact ⟨by rw [HG.out]; rfl, HB2.out⟩
    | false =>
      go_wp2
      go_ret2
      exact ⟨by rw [HG.out]; rfl, HB2.out⟩

end Go.Proofs.Ytfpgjkanmanajaa.W
