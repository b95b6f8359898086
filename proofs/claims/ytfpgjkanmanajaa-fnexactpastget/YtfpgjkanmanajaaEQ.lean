/-
  RunAt over entries that were drawn; entries in boxes.
-/
import Derived.Test.YtfpgjkanmanajaaEP
import Derived.Test.YtfpgjkanmanajaaEC
import Derived.Deep.Cut
namespace Go.Proofs.Ytfpgjkanmanajaa.W
open Go.RowKit K R

/-- block b holds an entry -/
def Box (W : World) (b : Nat) (k : ByteArray) (v : Int) (g : Bool) (t : Int) : Prop := W.heap[b]? = some (.cells #[.string k, .int .i64 v, .bool g, .int .i64 t] 33 (0, 0))
theorem Box.below {w w' : World} {B b : Nat} {k : ByteArray} {v : Int} {g : Bool} {t : Int} (h : Box w b k v g t) (hb : Below B w w') (hlt : b < B) : Box w' b k v g t := (hb.block b hlt).trans h
theorem Box.lt {w : World} {b : Nat} {k : ByteArray} {v : Int} {g : Bool} {t : Int} (h : Box w b k v g t) : b < w.heap.size := (Array.getElem?_eq_some_iff.1 h).1
theorem Box.keep {w w' : World} {b : Nat} {k : ByteArray} {v : Int} {g : Bool} {t : Int} (h : Box w b k v g t) (hb : Below w.heap.size w w') : Box w' b k v g t := h.below hb h.lt
theorem Box.new (w : World) (k : ByteArray) (v : Int) (g : Bool) (t : Int) : Box (w.alloc (.cells #[.string k, .int .i64 v, .bool g, .int .i64 t] 33)) w.heap.size k v g t := heap_alloc_new _ _
theorem Box.cells {w : World} {b : Nat} {k : ByteArray} {v : Int} {g : Bool} {t : Int} (h : Box w b k v g t) :
    w.cell? ⟨b, 0, none⟩ = some (.string k) ∧ w.cell? ⟨b, 1, none⟩ = some (.int .i64 v) ∧ w.cell? ⟨b, 2, none⟩ = some (.bool g) ∧ w.cell? ⟨b, 3, none⟩ = some (.int .i64 t) :=
  ⟨by rw [cell_of_row _ _ _ _ _ _ h]; rfl, by rw [cell_of_row _ _ _ _ _ _ h]; rfl, by rw [cell_of_row _ _ _ _ _ _ h]; rfl, by rw [cell_of_row _ _ _ _ _ _ h]; rfl⟩
theorem new_box (w : World) (k : ByteArray) (v : Int) (g : Bool) (t : Int) : Below w.heap.size w (w.alloc (.cells #[.string k, .int .i64 v, .bool g, .int .i64 t] 33)) := (Below.refl _ _).alloc (Nat.le_refl _) _

/-- the answer of RunAt: an entry and whether there is one -/
def AtA (W : World) (x0 : ByteArray) (x1 : Int) (x2 : Bool) (x3 : Int) (b : Bool) (e : Ending) (w' : World) : Prop :=
  e = .returned (.tuple #[.agg #[.string x0, .int .i64 x1, .bool x2, .int .i64 x3], .bool b]) ∧ Below W.heap.size W w'
theorem atI_few {W : World} {A : Option Addr} {c : Nat} {l : List En} (h : Few W A c l) (s : ByteArray) (t : Int) : Calls Try.prog 30 #[.slice A l.length c, .string s, .int .i64 t] W (AtA W (atE (atO l s t)).key (atE (atO l s t)).val (atE (atO l s t)).gone (atE (atO l s t)).time (atO l s t).isSome) :=
  runAtI W W.heap.size l.length c A l s t h.ents (Nat.le_refl _) (by have := h.len; unfold maxLen; omega) h.fit
theorem atS_few {W : World} {A : Option Addr} {c : Nat} {l : List En} (h : Few W A c l) (s : ByteArray) (t : Int) : Calls Try.prog 29 #[.slice A l.length c, .string s, .int .i64 t] W (AtA W (atE (atO l s t)).key (atE (atO l s t)).val (atE (atO l s t)).gone (atE (atO l s t)).time (atO l s t).isSome) :=
  runAtS W W.heap.size l.length c A l s t h.ents (Nat.le_refl _) (by have := h.len; unfold maxLen; omega) h.fit
theorem atI_is {W : World} {A : Option Addr} {c : Nat} {l : List En} (h : Few W A c l) {s : ByteArray} {t : Int} {o : Option En} (ho : atO l s t = o) {x0 : ByteArray} {x1 : Int} {x2 : Bool} {x3 : Int} {b : Bool} (he : atE o = ⟨x0, x1, x2, x3⟩) (hb : o.isSome = b) :
    Calls Try.prog 30 #[.slice A l.length c, .string s, .int .i64 t] W (AtA W x0 x1 x2 x3 b) := by
  have := atI_few h s t
  rw [ho, he, hb] at this
  exact this
theorem atS_is {W : World} {A : Option Addr} {c : Nat} {l : List En} (h : Few W A c l) {s : ByteArray} {t : Int} {o : Option En} (ho : atO l s t = o) {x0 : ByteArray} {x1 : Int} {x2 : Bool} {x3 : Int} {b : Bool} (he : atE o = ⟨x0, x1, x2, x3⟩) (hb : o.isSome = b) :
    Calls Try.prog 29 #[.slice A l.length c, .string s, .int .i64 t] W (AtA W x0 x1 x2 x3 b) := by
  have := atS_few h s t
  rw [ho, he, hb] at this
  exact this
/-- what RunAt answers, in letters -/
theorem at_letters (o : Option En) : ∃ (x0 : ByteArray) (x1 : Int) (x2 : Bool) (x3 : Int) (b : Bool), atE o = ⟨x0, x1, x2, x3⟩ ∧ o.isSome = b := ⟨_, _, _, _, _, rfl, rfl⟩
theorem atO_some {l : List En} {s : ByteArray} {t : Int} {e : En} (h : atO l s t = some e) : runB l = true ∧ atL l s t = some e := by
  unfold atO at h
  split at h
  · rename_i hr; exact ⟨hr, h⟩
  · cases h
theorem atO_run {l : List En} (h : runB l = true) (s : ByteArray) (t : Int) : atO l s t = atL l s t := by unfold atO; rw [if_pos h]
theorem some_of {o : Option En} {x : En} (he : atE o = x) (hb : o.isSome = true) : o = some x := by
  cases o with
  | none => cases hb
  | some y => exact congrArg some he
theorem more_facts {l : List En} {s : ByteArray} {t : Int} {e : En} (h : atO l s t = some e) (m : Nat) : (∃ f, atO l s (t + m) = some f ∧ e.time ≤ f.time) ∧ atO l s e.time = some e ∧ atO l s 0 = none := by
  obtain ⟨hr, ha⟩ := atO_some h
  have ho := (run_iff.mp hr).2.2
  rw [atO_run hr, atO_run hr, atO_run hr]
  exact ⟨at_more ho ha (by omega), at_same ho ha, at_zero hr s⟩

end Go.Proofs.Ytfpgjkanmanajaa.W
