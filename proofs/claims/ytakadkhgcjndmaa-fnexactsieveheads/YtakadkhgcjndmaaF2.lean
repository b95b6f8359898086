/-
  What a law is told of a filter that came in: its strings are ones that Go can hold, its rests can be read.
-/
import Derived.Test.YtakadkhgcjndmaaJ3
import Derived.ProofKit
import Derived.OpenShut
import Derived.ShutString
import Derived.SliceStrings
namespace Go.Proofs.Ytakadkhgcjndmaa.W
open Go.ChangeShapes Go.WideShapes Go.ChangeAt Go.RowKit K

theorem sv_cells : Try.prog.cellsOf 57 = 5 := by kernel_rfl
theorem str_cells : Try.prog.cellsOf 9 = 1 := by kernel_rfl
theorem strs_cells : Try.prog.cellsOf 23 = 1 := by kernel_rfl
theorem int_cells : Try.prog.cellsOf 3 = 1 := by kernel_rfl

set_option maxRecDepth 100000 in
theorem open_sv {H : Type} {enc : TypeId × Value → H} {W : World} {base : Nat} {spare : Nat → Bool} {held : Bool} {r : Reach} {b0 : Nat} {v : Value} {d : DataW H} {p : List MemPlace}
    (hv : Value.okWide Try.prog W r b0 57 v) (h : DataW.Trod enc Try.prog W base spare held 57 v d p) :
    ∃ (L M_ F : ByteArray) (a : Option Addr) (len cap : Nat) (k : Int) (l : List ByteArray), v = .agg #[.string L, .string M_, .string F, .slice a len cap, .int .i64 k] ∧ L.size ≤ maxLen ∧ M_.size ≤ maxLen ∧ F.size ≤ maxLen ∧ IsStrs W a len cap l := by
  obtain ⟨cs, rfl, hsz⟩ := okWide_struct Try.underlying57 hv
  rw [sv_cells] at hsz
  obtain ⟨l0⟩ := cs
  match l0, hsz with
  | [c0, c1, c2, c3, c4], _ =>
    obtain ⟨fuel, hf⟩ := h
    obtain ⟨xs, n, _, _, _, hlen, hg⟩ := DataW.trod_struct Try.underlying57 hf
    have hlen5 : xs.length = 5 := hlen
    match xs, hlen5 with
    | [x0, x1, x2, x3, x4], _ =>
      have g0 := hg 0 _ rfl
      have g1 := hg 1 _ rfl
      have g2 := hg 2 _ rfl
      have g3 := hg 3 _ rfl
      have g4 := hg 4 _ rfl
      simp [Value.cells, str_cells] at g0 g1 g2
      simp [Value.cells, strs_cells] at g3
      simp [Value.cells, int_cells] at g4
      obtain ⟨L, hL, -, hLs⟩ := DataW.trod_string Try.underlying9 g0
      obtain ⟨M_, hM, -, hMs⟩ := DataW.trod_string Try.underlying9 g1
      obtain ⟨F, hF, -, hFs⟩ := DataW.trod_string Try.underlying9 g2
      obtain ⟨k, hk, -, -⟩ := DataW.trod_int Try.underlying3 g4
      simp only [List.cons.injEq, and_true] at hL hM hF hk
      subst hL hM hF hk
      rcases open_strings Try.underlying23 Try.underlying9 str_cells g3 with ⟨hcs, _⟩ | ⟨x, len, cap, ss, hcs, _, hl, hm, hz, _, hcell, hws⟩
      · simp only [List.cons.injEq, and_true] at hcs
        subst hcs
        exact ⟨L, M_, F, none, 0, 0, k, [], rfl, hLs, hMs, hFs, isStrs_nil W⟩
      · simp only [List.cons.injEq, and_true] at hcs
        subst hcs
        exact ⟨L, M_, F, some x, len, cap, k, _, rfl, hLs, hMs, hFs, isStrs_of hl hm (by rw [hz]; split <;> omega) hcell hws⟩

end Go.Proofs.Ytakadkhgcjndmaa.W
