/-
  The contracts of chapter 3's functions, the program's and the model's, from a world on: whatever has been made since, a filter that lay there then is answered for.
-/
import Derived.Test.YtakadkhgcjndmaaX24
import Derived.Test.YtakadkhgcjndmaaZ1
namespace Go.Proofs.Ytakadkhgcjndmaa.W
open Go.RowKit K

/-- a filter lies in a world -/
structure Flt (b : World) (L M_ F : ByteArray) (A : Option Addr) (n c : Nat) (R : List ByteArray) : Prop where
  hL : L.size ≤ maxLen
  hM : M_.size ≤ maxLen
  hF : F.size ≤ maxLen
  row : Strs b b.heap.size A n R
  nc : n ≤ c
  cm : c ≤ maxLen
  fit : ∀ i (h : i < R.length), R[i].size ≤ 1000000000000
/-- from a world on: f answers so -/
def From (b : World) (f : FuncId) (args : Array Value) (v : Value) : Prop := ∀ W, Below b.heap.size b W → Calls Try.prog f args W fun e w' => e = .returned v ∧ Below b.heap.size b w'
theorem From.mk {b : World} {f : FuncId} {args : Array Value} {v : Value} (h : ∀ W, Below b.heap.size b W → Calls Try.prog f args W fun e w' => e = .returned v ∧ Below W.heap.size W w') : From b f args v :=
  fun W hW => (h W hW).mono fun _ _ ⟨he, hb⟩ => ⟨he, hW.trans (hb.mono hW.size)⟩
/-- from a later world on, too -/
theorem From.later {b b' : World} {f : FuncId} {args : Array Value} {v : Value} (h : ∀ W, Below b.heap.size b W → Calls Try.prog f args W fun e w' => e = .returned v ∧ Below W.heap.size W w') (hb : Below b.heap.size b b') : From b' f args v :=
  From.mk fun W hW => h W (hb.trans (hW.mono hb.size))
section
variable {b : World} {L M_ F : ByteArray} {A : Option Addr} {n c : Nat} {R : List ByteArray}
theorem Flt.up (h : Flt b L M_ F A n c R) {W : World} (hW : Below b.heap.size b W) : Flt W L M_ F A n c R := ⟨h.hL, h.hM, h.hF, (h.row.below hW (Nat.le_refl _)).more hW.size, h.nc, h.cm, h.fit⟩
theorem Flt.len (h : Flt b L M_ F A n c R) : R.length = n := h.row.len
theorem Flt.ok (h : Flt b L M_ F A n c R) (keep : Int) : From b 41 #[.agg #[.string L, .string M_, .string F, .slice A n c, .int .i64 keep]] (.bool (svB L M_ F R keep)) :=
  From.mk fun W hW => okSI L M_ F A n c R keep W h.hM h.hF (h.up hW).row h.fit
theorem Flt.okS (h : Flt b L M_ F A n c R) (keep : Int) : From b 39 #[.agg #[.string L, .string M_, .string F, .slice A n c, .int .i64 keep]] (.bool (svB L M_ F R keep)) :=
  From.mk fun W hW => okSv L M_ F A n c R keep W h.hL h.hM h.hF (h.up hW).row h.nc h.cm h.fit
theorem Flt.size (h : Flt b L M_ F A n c R) (keep : Int) : From b 47 #[.agg #[.string L, .string M_, .string F, .slice A n c, .int .i64 keep]] (.int .i64 (sizeO L M_ F R keep)) :=
  From.mk fun W hW => sizeI L M_ F A n c R keep W h.hM h.hF (h.up hW).row h.fit
theorem Flt.sizeS (h : Flt b L M_ F A n c R) (keep : Int) : From b 56 #[.agg #[.string L, .string M_, .string F, .slice A n c, .int .i64 keep]] (.int .i64 (sizeO L M_ F R keep)) :=
  From.mk fun W hW => sizeSv L M_ F A n c R keep W h.hL h.hM h.hF (h.up hW).row h.nc h.cm h.fit
theorem Flt.has (h : Flt b L M_ F A n c R) (keep : Int) (k : ByteArray) (hk : k.size ≤ maxLen) : From b 32 #[.agg #[.string L, .string M_, .string F, .slice A n c, .int .i64 keep], .string k] (.bool (hasO L M_ F R keep k)) :=
  From.mk fun W hW => hasSI L M_ F A n c R keep k W h.hM h.hF hk (h.up hW).row h.fit
theorem Flt.hasS (h : Flt b L M_ F A n c R) (keep : Int) (k : ByteArray) (hk : k.size ≤ maxLen) : From b 44 #[.agg #[.string L, .string M_, .string F, .slice A n c, .int .i64 keep], .string k] (.bool (hasO L M_ F R keep k)) :=
  From.mk fun W hW => hasSv L M_ F A n c R keep k W h.hL h.hM h.hF hk (h.up hW).row h.nc h.cm h.fit
theorem Flt.meets (h : Flt b L M_ F A n c R) (keep : Int) (f t : ByteArray) (hf : f.size ≤ maxLen) (ht : t.size ≤ maxLen) : From b 33 #[.agg #[.string L, .string M_, .string F, .slice A n c, .int .i64 keep], .string f, .string t] (.bool (meetO L M_ F R keep f t)) :=
  From.mk fun W hW => meetsSI L M_ F A n c R keep f t W h.hM h.hF hf ht (h.up hW).row h.fit
theorem Flt.meetsS (h : Flt b L M_ F A n c R) (keep : Int) (f t : ByteArray) (hf : f.size ≤ maxLen) (ht : t.size ≤ maxLen) : From b 50 #[.agg #[.string L, .string M_, .string F, .slice A n c, .int .i64 keep], .string f, .string t] (.bool (meetO L M_ F R keep f t)) :=
  From.mk fun W hW => meetsSv L M_ F A n c R keep f t W h.hL h.hM h.hF hf ht (h.up hW).row h.nc h.cm h.fit
theorem Flt.seek (h : Flt b L M_ F A n c R) (keep : Int) (f : ByteArray) (hf : f.size ≤ maxLen) : From b 53 #[.agg #[.string L, .string M_, .string F, .slice A n c, .int .i64 keep], .string f] (.tuple #[.string (strS (seekO L M_ F R keep f)), .bool (strB (seekO L M_ F R keep f))]) :=
  From.mk fun W hW => seekSI L M_ F A n c R keep f W h.hM h.hF hf (h.up hW).row h.fit
theorem Flt.seekS (h : Flt b L M_ F A n c R) (keep : Int) (f : ByteArray) (hf : f.size ≤ maxLen) : From b 52 #[.agg #[.string L, .string M_, .string F, .slice A n c, .int .i64 keep], .string f] (.tuple #[.string (strS (seekO L M_ F R keep f)), .bool (strB (seekO L M_ F R keep f))]) :=
  From.mk fun W hW => seekSv L M_ F A n c R keep f W h.hL h.hM h.hF hf (h.up hW).row h.nc h.cm h.fit
/-- a new slice of strings, from a world on -/
def NewF (b : World) (r : List ByteArray) (e : Ending) (w' : World) : Prop := ∃ A c, e = .returned (.slice A r.length c) ∧ Strs w' w'.heap.size A r.length r ∧ r.length ≤ c ∧ c ≤ maxLen ∧ Below b.heap.size b w'
theorem newF {W b w' : World} {r : List ByteArray} {e : Ending} (h : New W r e w') (hb : Below b.heap.size b W) : NewF b r e w' := by
  obtain ⟨v, rfl, ho, hw⟩ := h
  obtain ⟨A, c, rfl, h1, h2, h3⟩ := ho.parts
  exact ⟨A, c, rfl, h3, h1, h2, hb.trans (hw.mono hb.size)⟩
theorem Flt.heads (h : Flt b L M_ F A n c R) (keep : Int) : ∀ W, Below b.heap.size b W → Calls Try.prog 34 #[.agg #[.string L, .string M_, .string F, .slice A n c, .int .i64 keep]] W (NewF b (headsO L M_ F R keep)) :=
  fun W hW => (headsSI L M_ F A n c R keep W h.hM h.hF (h.up hW).row h.fit).mono fun _ _ hn => newF hn hW
theorem Flt.headsS (h : Flt b L M_ F A n c R) (keep : Int) : ∀ W, Below b.heap.size b W → Calls Try.prog 38 #[.agg #[.string L, .string M_, .string F, .slice A n c, .int .i64 keep]] W (NewF b (headsO L M_ F R keep)) :=
  fun W hW => (headsSv L M_ F A n c R keep W h.hL h.hM h.hF (h.up hW).row h.nc h.cm h.fit).mono fun e w' hn => newF (show New W (headsO L M_ F R keep) e w' from hn) hW
end

end Go.Proofs.Ytakadkhgcjndmaa.W
