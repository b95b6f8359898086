/-
  At every filter that Go can hold SieveOk answers as its model and turns nothing: the law FnExactSieveOk holds. Conditions: none; every argument that Go can hold.
-/
import Derived.Test.YtakadkhgcjndmaaRows
import Derived.Test.YtakadkhgcjndmaaLEOk
import Derived.Test.YtakadkhgcjndmaaF2
import Derived.Test.YtakadkhgcjndmaaCP
import Derived.Test.YtakadkhgcjndmaaCExactSieveOka
import Derived.Test.YtakadkhgcjndmaaCExactSieveOkb
import Derived.Test.YtakadkhgcjndmaaCExactSieveOkc
import Derived.WalkKit
import Derived.ProofKit
import Derived.OpenShut
import Derived.ShutString
import Derived.ChangeOld
import Derived.Below
namespace Go.Proofs.Ytakadkhgcjndmaa.fnExactSieveOk
open Go.ChangeShapes Go.WideShapes Go.ChangeAt Go.RowKit
open Go.ChangeMaps (open_string shut_string)
open K W
set_option linter.unusedVariables false

theorem own : ownKnob Try.prog.godebug = none := by kernel_rfl
theorem laidOut : laidOutB Try.prog = true := by kernel_rfl

set_option maxHeartbeats 400000 in
theorem walk (L0 M0 F0 : ByteArray) (a0 : Option Addr) (len0 cap0 : Nat) (k0k : Int) (z0 : List ByteArray) (w : World) (u0 : L0.size ≤ maxLen ∧ M0.size ≤ maxLen ∧ F0.size ≤ maxLen) (w0 : IsStrs w a0 len0 cap0 z0) :
    Calls Try.prog 22 #[.agg #[.string L0, .string M0, .string F0, .slice a0 len0 cap0, .int .i64 k0k]] w fun e w' => e = .returned (.bool true) ∧ Below w.heap.size w w' := by
  exact exactSieveOk w a0 len0 cap0 L0 M0 F0 k0k z0 u0.1 u0.2.1 u0.2.2 w0.1 w0.2.1 w0.2.2.1 w0.2.2.2

set_option maxRecDepth 100000 in
theorem lifted (os : Os) (started : os.Started) (H : Type) (enc : TypeId × Value → H) :
    ReturnsInHanded {} Try.checked os 22 .any (Rows.fnExactSieveOkSpec.pre6 enc Try.prog Try.f22 Rows.fnExactSieveOkRow.domain false) (Rows.fnExactSieveOkSpec.post enc Try.prog Try.f22 false true false false) := by
  refine returnsInHanded_of_change (C := Try.checked) own started (by kernel_rfl) Try.func22
    (ChangeSpec.witness6 (enc := enc) (C := Try.checked) false ⟨#[], #[.agg #[.string ByteArray.empty, .string ByteArray.empty, .string ByteArray.empty, .slice none 0 0, .int .i64 0]], []⟩ 8 (by kernel_rfl) (by kernel_rfl) (by kernel_rfl) (by kernel_rfl)) ?_
  intro W base args ds gs before hval0 hW hcnd _
  have hval : ∀ (j : Nat) t v, Try.f22.params[j]? = some t → args[j]? = some v → Value.okWide Try.prog W .any base t v := hval0
  have hW' := hW
  obtain ⟨p, q, hA0, hV, rfl, hfz, hnd⟩ := hW
  have hA : DataW.TrodAll enc Try.prog W 0 (fun _ => true) true Try.f22.params.toList args.toList ds p := hA0
  rw [Try.params22] at hA hval
  obtain ⟨v0, vs0, d0, ds0, p0, q0, hargs, rfl, rfl, h0, r0⟩ := trodAll_cons hA
  obtain ⟨rfl, rfl, rfl⟩ := trodAll_nil r0
  obtain rfl : args = #[v0] := by cases args; simp_all
  obtain ⟨rfl, rfl⟩ := trodVars_none hV
  have k0 := h0
  have lt0 : ∀ x ∈ p0, x.block < W.heap.size := by obtain ⟨m, hm⟩ := k0; exact DataW.trod_lt m _ _ _ hm
  obtain ⟨L0, M0, F0, a0, len0, cap0, k0k, z0, rfl, uL0, uM0, uF0, w0⟩ := open_sv (hval 0 57 v0 rfl rfl) h0
  clear hA0 hval0
  refine (walk L0 M0 F0 a0 len0 cap0 k0k z0 W ⟨uL0, uM0, uF0⟩ w0).mono fun e W' ⟨he, bel⟩ => ?_
  subst he
  exact ⟨_, rfl, _, _, _, [], _, [], hW', trodAll_mk1 (shut_bool Try.underlying4 _), (trodAll_cons_mk (Below.trod laidOut (by kernel_rfl) (of_decide_eq_true (by kernel_rfl)) k0 bel lt0) trodAll_mk0), rfl, bel.frame _, fun h => by cases h⟩

theorem and2 {a b : Bool} (ha : a = true) (hb : b = true) : (a && b) = true := by rw [ha, hb]; rfl
set_option maxRecDepth 100000 in
theorem closed : joinedFacts Try.prog 22 Try.f22 Rows.fnExactSieveOkSpec Rows.fnExactSieveOkRow = true := (and2 (and2 (and2 (and2 (and2 (and2 (and2 (and2 (and2 (and2 (and2 (and2 (and2 (and2 (and2 (and2 (and2 (and2 (and2 (and2 (and2 (and2 (and2 (and2 (and2 (and2 (and2 (and2 (and2 (and2 (and2 fnExactSieveOkC.fact0 CP.fact1) CP.fact2) fnExactSieveOkC.fact3) fnExactSieveOkC.fact4) fnExactSieveOkC.fact5) CP.fact6) fnExactSieveOkC.fact7) CP.fact8) fnExactSieveOkC.fact9) fnExactSieveOkC.fact10) fnExactSieveOkC.fact11) fnExactSieveOkC.fact12) fnExactSieveOkC.fact13) fnExactSieveOkC.fact14) fnExactSieveOkC.fact15) fnExactSieveOkC.fact16) fnExactSieveOkC.fact17) fnExactSieveOkC.fact18) fnExactSieveOkC.fact19) fnExactSieveOkC.fact20) fnExactSieveOkC.fact21) fnExactSieveOkC.fact22) fnExactSieveOkC.fact23) CP.fact24) CP.fact25) fnExactSieveOkC.fact26) fnExactSieveOkC.fact27) fnExactSieveOkC.fact28) fnExactSieveOkC.fact29) fnExactSieveOkC.fact30) fnExactSieveOkC.fact31)

theorem over : Rows.fnExactSieveOkRow.holds Try.pinned (OpenSpec.ofChange Rows.fnExactSieveOkSpec) :=
  OpenClaim.holds_of_wide 22 Try.f22 rfl rfl rfl rfl rfl rfl rfl ⟨rfl, rfl, rfl, rfl, rfl⟩ rfl rfl rfl rfl rfl (by kernel_rfl) Try.func22 closed
    (of_decide_eq_true (by kernel_rfl)) (by unfold Func.isWrapper; first | (rw [if_pos (by decide +kernel)]; kernel_rfl) | (rw [if_neg (by decide +kernel)]; exact ⟨rfl, rfl⟩))
    (fun os started H enc _ => lifted os started H enc)

/-- the statement -/
theorem proved : Rows.FnExactSieveOkSaid := over
#print axioms proved
end Go.Proofs.Ytakadkhgcjndmaa.fnExactSieveOk
