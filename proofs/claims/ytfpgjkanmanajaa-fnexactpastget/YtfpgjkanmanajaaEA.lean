/-
  What was put last, as the model looks for it.
-/
import Derived.Test.YtfpgjkanmanajaaE2
import Derived.Test.YtfpgjkanmanajaaE7
namespace Go.Proofs.Ytfpgjkanmanajaa.W
open Go.RowKit K R

theorem ret_two {fn : Func} {p u : Tmp} {ty : TypeId} (h : fn.results = #[.cell p ty, .tmp u]) (tmps : Array Value) (w : World) (g : Nat) (cs : Array Value) (x : Value)
    (hp : tmps.getD p undef = .pointer (some ⟨g, 0, none⟩)) (hx : tmps.getD u undef = x) (hl : (loadVar ty ⟨g, 0, none⟩).run Try.prog w = .ok (.agg cs) w) :
    (results fn tmps).run Try.prog w = .ok (.tuple #[.agg cs, x]) w := by
  rw [results_cell_tmp h, hp, hx]
  simp [asAddr, Result.andThen, hl]
theorem load_entry {w : World} {g : Nat} {x0 x1 x2 x3 : Value} (hg : w.heap[g]? = some (.cells #[x0, x1, x2, x3] 33 (0, 0))) : (loadVar 33 ⟨g, 0, none⟩).run Try.prog w = .ok (.agg #[x0, x1, x2, x3]) w :=
  run_loadVar_row w g _ _ _ (0, 0) _ hg Try.underlying33 rfl entry_size
theorem box_four {wr : World} {g : Nat} {y0 y1 y2 y3 : Value} (hb : wr.heap[g]? = some (.cells #[y0, y1, y2, y3] 33 (0, 0))) (x0 x1 x2 x3 : Value) :
    ((((wr.setCell ⟨g, 0, none⟩ x0).setCell ⟨g, 1, none⟩ x1).setCell ⟨g, 2, none⟩ x2).setCell ⟨g, 3, none⟩ x3).heap[g]? = some (.cells #[x0, x1, x2, x3] 33 (0, 0)) := by
  have h0 := heap_setCell_same wr g 0 _ _ x0 hb
  have h1 := heap_setCell_same _ g 1 _ _ x1 h0
  have h2 := heap_setCell_same _ g 2 _ _ x2 h1
  exact heap_setCell_same _ g 3 _ _ x3 h2
/-- an entry or none, as Go hands it back -/
def atE (o : Option En) : En := o.getD blankE
def atV (o : Option En) : Value := .tuple #[.agg #[.string (atE o).key, .int .i64 (atE o).val, .bool (atE o).gone, .int .i64 (atE o).time], .bool o.isSome]
/-- none of the first entries is it -/
def noAt (l : List En) (kk : ByteArray) (t : Int) (k : Nat) : Prop := ∀ i (h : i < l.length), i < k → (eqs l[i].key kk && decide (l[i].time ≤ t)) = false
theorem noAt_zero (l : List En) (kk : ByteArray) (t : Int) : noAt l kk t 0 := fun i _ h => by omega
theorem noAt_succ {l : List En} {kk : ByteArray} {t : Int} {k : Nat} (h : k < l.length) (hn : noAt l kk t k) (e : (eqs l[k].key kk && decide (l[k].time ≤ t)) = false) : noAt l kk t (k + 1) := fun i hi h1 => by
  by_cases hik : i = k
  · subst hik; exact e
  · exact hn i hi (by omega)
theorem at_hit : ∀ {l : List En} {kk : ByteArray} {t : Int} {k : Nat} (h : k < l.length), noAt l kk t k → (eqs l[k].key kk && decide (l[k].time ≤ t)) = true → atL l kk t = some l[k]
  | a :: l, kk, t, 0, h, _, e => by
    unfold atL
    rw [List.find?_cons]
    simp only [List.getElem_cons_zero] at e
    rw [e]; rfl
  | a :: l, kk, t, k + 1, h, hn, e => by
    have h0 := hn 0 (by simp) (by omega)
    simp only [List.getElem_cons_zero] at h0
    unfold atL
    rw [List.find?_cons, h0]
    simp only [List.getElem_cons_succ] at e ⊢
    exact at_hit (by simp at h; omega) (fun i hi h1 => by have := hn (i + 1) (by simp; omega) (by omega); simpa using this) e
theorem at_miss {l : List En} {kk : ByteArray} {t : Int} (hn : noAt l kk t l.length) : atL l kk t = none := by
  unfold atL
  rw [List.find?_eq_none]
  intro x hx
  obtain ⟨i, hi, rfl⟩ := List.getElem_of_mem hx
  rw [hn i hi hi]
  decide

set_option maxHeartbeats 4000000 in
theorem atS (w : World) (B n c : Nat) (A : Option Addr) (l : List En) (kk : ByteArray) (t : Int) (hr : Ents w B A n l) (hB : B ≤ w.heap.size) (hn : n ≤ maxLen) :
    Calls Try.prog 69 #[.slice A n c, .string kk, .int .i64 t] w fun e w' => e = .returned (atV (atL l kk t)) ∧ Below w.heap.size w w' := by
  have hlen := hr.len
  subst hlen
  unfold maxLen at hn
  have HR := Lib.hid hr
  clear hr
  go_enter Try.func69, Try.ntmps69
  go_wp2_with fail
  go_loopw [8] (fun i wr => ∃ k : Nat, k ≤ l.length ∧ i = .int .i64 (k : Nat) ∧ noAt l kk t k ∧ wr = w.alloc (.cells #[.string ⟨#[]⟩, .int .i64 0, .bool false, .int .i64 0] 33)) (fun i _ => l.length - (intOf i).toNat)
  case atStart => exact ⟨0, Nat.zero_le _, rfl, noAt_zero l kk t, rfl⟩
  case round =>
    obtain ⟨k, hk, rfl, hno, rfl⟩ := hrel
    have HN := Lib.hid hno
    clear hno
    by_cases hlt : k < l.length
    · have hbw : Below w.heap.size w (w.alloc (.cells #[.string ⟨#[]⟩, .int .i64 0, .bool false, .int .i64 0] 33)) := (Below.refl _ _).alloc (Nat.le_refl _) _
      obtain ⟨kb, ko, hA, hkb, c0, c1, c2, c3⟩ := (HR.out.below hbw hB).cell k hlt
      subst hA
      obtain ⟨x0, h0⟩ : ∃ y, y = l[k].key := ⟨_, rfl⟩
      obtain ⟨x1, h1⟩ : ∃ y, y = l[k].val := ⟨_, rfl⟩
      obtain ⟨x2, h2⟩ : ∃ y, y = l[k].gone := ⟨_, rfl⟩
      obtain ⟨x3, h3⟩ : ∃ y, y = l[k].time := ⟨_, rfl⟩
      rw [← h0] at c0
      rw [← h1] at c1
      rw [← h2] at c2
      rw [← h3] at c3
      have z0 : (0 : Int) ≤ (k : Int) := by omega
      have z1 : (k : Int) < (l.length : Int) := by omega
      have HE := Lib.hid (show l[k] = ⟨x0, x1, x2, x3⟩ by rw [h0, h1, h2, h3])
      have hkbw : ¬ kb = w.heap.size := by omega
      clear h0 h1 h2 h3 hbw
      rcases Bool.eq_false_or_eq_true (x0.toList == kk.toList) with hq | hq
      · by_cases ht : x3 ≤ t
        · have HH := Lib.hid (at_hit hlt HN.out (by rw [HE.out, Bool.and_eq_true, decide_eq_true_iff]; exact ⟨hq, ht⟩))
          go_wp2
          refine bodyPost_ret (v := .tuple #[.agg #[.string x0, .int .i64 x1, .bool x2, .int .i64 x3], .bool true]) ?_ rfl ⟨?_, ?_⟩
          · exact ret_two rfl _ _ w.heap.size _ _ rfl rfl (load_entry (heap_alloc_new _ _))
          · rw [HH.out, HE.out]; rfl
          · exact (Below.refl _ _).alloc (Nat.le_refl _) _
        · have HM := Lib.hid (noAt_succ hlt HN.out (by rw [HE.out, Bool.and_eq_false_iff]; exact .inr (decide_eq_false ht)))
          go_wp2
          go_roundw
          case rel => exact ⟨k + 1, by omega, by go_num, HM.out, by first | rfl | trivial⟩
          case measure => simp [intOf]; omega
      · have HM := Lib.hid (noAt_succ hlt HN.out (by rw [HE.out, Bool.and_eq_false_iff]; exact .inl hq))
        go_wp2
        go_roundw
        case rel => exact ⟨k + 1, by omega, by go_num, HM.out, by first | rfl | trivial⟩
        case measure => simp [intOf]; omega
    · have hke : k = l.length := by omega
      subst hke
      have HM := Lib.hid (at_miss HN.out)
      go_wp2
      refine bodyPost_ret (v := .tuple #[.agg #[.string ⟨#[]⟩, .int .i64 0, .bool false, .int .i64 0], .bool false]) ?_ rfl ⟨?_, ?_⟩
      · exact ret_two rfl _ _ w.heap.size _ _ rfl rfl (load_entry (heap_alloc_new _ _))
      · rw [HM.out]; rfl
      · exact (Below.refl _ _).alloc (Nat.le_refl _) _

end Go.Proofs.Ytfpgjkanmanajaa.W
