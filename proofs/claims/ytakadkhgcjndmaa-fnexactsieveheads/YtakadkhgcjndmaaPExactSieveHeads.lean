/-
  At every filter that can come in SieveHeads answers as the specification does, writes into no argument, keeps nothing of one, and its answer owns its memory, behind another call too: the law FnExactSieveHeads holds. Conditions: none; every argument that Go can hold.
-/
import Derived.Test.YtakadkhgcjndmaaRows
import Derived.Test.YtakadkhgcjndmaaLEHeads
import Derived.Test.YtakadkhgcjndmaaF2
import Derived.Test.YtakadkhgcjndmaaCP
import Derived.Test.YtakadkhgcjndmaaCExactSieveHeadsa
import Derived.Test.YtakadkhgcjndmaaCExactSieveHeadsb
import Derived.Test.YtakadkhgcjndmaaCExactSieveHeadsc
import Derived.WalkKit
import Derived.ProofKit
import Derived.OpenShut
import Derived.ShutString
import Derived.ChangeOld
import Derived.Below
namespace Go.Proofs.Ytakadkhgcjndmaa.fnExactSieveHeads
open Go.ChangeShapes Go.WideShapes Go.ChangeAt Go.RowKit
open Go.ChangeMaps (open_string shut_string)
open K W
set_option linter.unusedVariables false

theorem own : ownKnob Try.prog.godebug = none := by kernel_rfl
theorem laidOut : laidOutB Try.prog = true := by kernel_rfl

set_option maxHeartbeats 400000 in
theorem walk (L0 M0 F0 : ByteArray) (a0 : Option Addr) (len0 cap0 : Nat) (k0k : Int) (z0 : List ByteArray) (w : World) (u0 : L0.size ≤ maxLen ∧ M0.size ≤ maxLen ∧ F0.size ≤ maxLen) (w0 : IsStrs w a0 len0 cap0 z0) :
    Calls Try.prog 23 #[.agg #[.string L0, .string M0, .string F0, .slice a0 len0 cap0, .int .i64 k0k]] w fun e w' => e = .returned (.bool true) ∧ Below w.heap.size w w' := by
  exact exactSieveHeads w a0 len0 cap0 L0 M0 F0 k0k z0 u0.1 u0.2.1 u0.2.2 w0.1 w0.2.1 w0.2.2.1 w0.2.2.2

set_option maxRecDepth 100000 in
theorem lifted (os : Os) (started : os.Started) (H : Type) (enc : TypeId × Value → H) :
    ReturnsInHanded {} Try.checked os 23 .any (Rows.fnExactSieveHeadsSpec.pre6 enc Try.prog Try.f23 Rows.fnExactSieveHeadsRow.domain false) (Rows.fnExactSieveHeadsSpec.post enc Try.prog Try.f23 false true false false) := by
  refine returnsInHanded_of_change (C := Try.checked) own started (by kernel_rfl) Try.func23
    (ChangeSpec.witness6 (enc := enc) (C := Try.checked) false ⟨#[], #[.agg #[.string ByteArray.empty, .string ByteArray.empty, .string ByteArray.empty, .slice none 0 0, .int .i64 0]], []⟩ 8 (by kernel_rfl) (by kernel_rfl) (by kernel_rfl) (by kernel_rfl)) ?_
  intro W base args ds gs before hval0 hW hcnd _
  have hval : ∀ (j : Nat) t v, Try.f23.params[j]? = some t → args[j]? = some v → Value.okWide Try.prog W .any base t v := hval0
  have hW' := hW
  obtain ⟨p, q, hA0, hV, rfl, hfz, hnd⟩ := hW
  have hA : DataW.TrodAll enc Try.prog W 0 (fun _ => true) true Try.f23.params.toList args.toList ds p := hA0
  rw [Try.params23] at hA hval
  obtain ⟨v0, vs0, d0, ds0, p0, q0, hargs, rfl, rfl, h0, r0⟩ := trodAll_cons hA
  obtain ⟨rfl, rfl, rfl⟩ := trodAll_nil r0
  obtain rfl : args = #[v0] := by cases args; simp_all
  obtain ⟨rfl, rfl⟩ := trodVars_none hV
  have k0 := h0
  have lt0 : ∀ x ∈ p0, x.block < W.heap.size := by obtain ⟨m, hm⟩ := k0; exact DataW.trod_lt m _ _ _ hm
  obtain ⟨L0, M0, F0, a0, len0, cap0, k0k, z0, rfl, uL0, uM0, uF0, w0⟩ := open_sv (hval 0 57 v0 rfl rfl) h0
  clear hA0 hval0
  refine (walk L0 M0 F0 a0 len0 cap0 k0k z0 W ⟨uL0, uM0, uF0⟩ w0).mono fun e W' ⟨he, bel⟩ => ?_
  subst he
  exact ⟨_, rfl, _, _, _, [], _, [], hW', trodAll_mk1 (shut_bool Try.underlying4 _), (trodAll_cons_mk (Below.trod laidOut (by kernel_rfl) (of_decide_eq_true (by kernel_rfl)) k0 bel lt0) trodAll_mk0), rfl, bel.frame _, fun h => by cases h⟩

theorem and2 {a b : Bool} (ha : a = true) (hb : b = true) : (a && b) = true := by rw [ha, hb]; rfl
set_option maxRecDepth 100000 in
theorem closed : joinedFacts Try.prog 23 Try.f23 Rows.fnExactSieveHeadsSpec Rows.fnExactSieveHeadsRow = true := (and2 (and2 (and2 (and2 (and2 (and2 (and2 (and2 (and2 (and2 (and2 (and2 (and2 (and2 (and2 (and2 (and2 (and2 (and2 (and2 (and2 (and2 (and2 (and2 (and2 (and2 (and2 (and2 (and2 (and2 (and2 fnExactSieveHeadsC.fact0 CP.fact1) CP.fact2) fnExactSieveHeadsC.fact3) fnExactSieveHeadsC.fact4) fnExactSieveHeadsC.fact5) CP.fact6) fnExactSieveHeadsC.fact7) CP.fact8) fnExactSieveHeadsC.fact9) fnExactSieveHeadsC.fact10) fnExactSieveHeadsC.fact11) fnExactSieveHeadsC.fact12) fnExactSieveHeadsC.fact13) fnExactSieveHeadsC.fact14) fnExactSieveHeadsC.fact15) fnExactSieveHeadsC.fact16) fnExactSieveHeadsC.fact17) fnExactSieveHeadsC.fact18) fnExactSieveHeadsC.fact19) fnExactSieveHeadsC.fact20) fnExactSieveHeadsC.fact21) fnExactSieveHeadsC.fact22) fnExactSieveHeadsC.fact23) CP.fact24) CP.fact25) fnExactSieveHeadsC.fact26) fnExactSieveHeadsC.fact27) fnExactSieveHeadsC.fact28) fnExactSieveHeadsC.fact29) fnExactSieveHeadsC.fact30) fnExactSieveHeadsC.fact31)

theorem over : Rows.fnExactSieveHeadsRow.holds Try.pinned (OpenSpec.ofChange Rows.fnExactSieveHeadsSpec) :=
  OpenClaim.holds_of_wide 23 Try.f23 rfl rfl rfl rfl rfl rfl rfl ⟨rfl, rfl, rfl, rfl, rfl⟩ rfl rfl rfl rfl rfl (by kernel_rfl) Try.func23 closed
    (of_decide_eq_true (by kernel_rfl)) (by unfold Func.isWrapper; first | (rw [if_pos (by decide +kernel)]; kernel_rfl) | (rw [if_neg (by decide +kernel)]; exact ⟨rfl, rfl⟩))
    (fun os started H enc _ => lifted os started H enc)

/-- the statement -/
theorem proved : Rows.FnExactSieveHeadsSaid := over
#print axioms proved
end Go.Proofs.Ytakadkhgcjndmaa.fnExactSieveHeads
