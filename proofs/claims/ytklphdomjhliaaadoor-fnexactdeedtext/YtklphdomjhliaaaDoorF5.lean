/-
  What a law is told of a deed that came in: its key is a string that Go can hold.
-/
import Derived.Test.YtklphdomjhliaaaDoorH1
import Derived.ProofKit
import Derived.OpenShut
import Derived.ShutString
namespace Go.Proofs.YtklphdomjhliaaaDoor.W
open Go.ChangeShapes Go.WideShapes Go.ChangeAt Go.RowKit K

theorem de_cells : Tryd.prog.cellsOf 32 = 3 := by kernel_rfl
theorem str_cellsD : Tryd.prog.cellsOf 9 = 1 := by kernel_rfl
theorem int_cellsD : Tryd.prog.cellsOf 3 = 1 := by kernel_rfl
set_option maxRecDepth 100000 in
theorem open_de {H : Type} {enc : TypeId × Value → H} {W : World} {base : Nat} {spare : Nat → Bool} {held : Bool} {r : Reach} {b0 : Nat} {v : Value} {d : DataW H} {p : List MemPlace}
    (hv : Value.okWide Tryd.prog W r b0 32 v) (h : DataW.Trod enc Tryd.prog W base spare held 32 v d p) :
    ∃ (k : Int) (key : ByteArray) (n : Int), v = .agg #[.int .i64 k, .string key, .int .i64 n] ∧ key.size ≤ maxLen := by
  obtain ⟨cs, rfl, hsz⟩ := okWide_struct Tryd.underlying32 hv
  rw [de_cells] at hsz
  obtain ⟨l0⟩ := cs
  match l0, hsz with
  | [c0, c1, c2], _ =>
    obtain ⟨fuel, hf⟩ := h
    obtain ⟨xs, n, _, _, _, hlen, hg⟩ := DataW.trod_struct Tryd.underlying32 hf
    have hlen5 : xs.length = 3 := hlen
    match xs, hlen5 with
    | [x0, x1, x2], _ =>
      have g0 := hg 0 _ rfl
      have g1 := hg 1 _ rfl
      have g2 := hg 2 _ rfl
      simp [Value.cells, int_cellsD] at g0 g2
      simp [Value.cells, str_cellsD] at g1
      obtain ⟨k, hk, -, -⟩ := DataW.trod_int Tryd.underlying3 g0
      obtain ⟨L, hL, -, hLs⟩ := DataW.trod_string Tryd.underlying9 g1
      obtain ⟨m, hm, -, -⟩ := DataW.trod_int Tryd.underlying3 g2
      simp only [List.cons.injEq, and_true] at hL hk hm
      subst hL hk hm
      exact ⟨k, L, m, rfl, hLs⟩
end Go.Proofs.YtklphdomjhliaaaDoor.W
