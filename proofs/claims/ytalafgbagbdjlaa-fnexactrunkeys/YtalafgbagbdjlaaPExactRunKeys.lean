/-
  At every slice of entries that Go can hold RunKeys answers as its model, turns nothing, and its answer owns its memory: the law FnExactRunKeys holds. Conditions: none; every argument that Go can hold.
-/
import Derived.Test.YtalafgbagbdjlaaRows
import Derived.Test.YtalafgbagbdjlaaEG
import Derived.Test.YtalafgbagbdjlaaF3
import Derived.Test.YtalafgbagbdjlaaCP
import Derived.Test.YtalafgbagbdjlaaCExactRunKeysa
import Derived.Test.YtalafgbagbdjlaaCExactRunKeysb
import Derived.Test.YtalafgbagbdjlaaCExactRunKeysc
import Derived.WalkKit
import Derived.ProofKit
import Derived.OpenShut
import Derived.ShutString
import Derived.ChangeOld
import Derived.Below
namespace Go.Proofs.Ytalafgbagbdjlaa.fnExactRunKeys
open Go.ChangeShapes Go.WideShapes Go.ChangeAt Go.RowKit
open Go.ChangeMaps (open_string shut_string)
open K W
set_option linter.unusedVariables false

theorem own : ownKnob Try.prog.godebug = none := by kernel_rfl
theorem laidOut : laidOutB Try.prog = true := by kernel_rfl

set_option maxHeartbeats 400000 in
theorem walk (a0 : Option Addr) (len0 cap0 : Nat) (z0 : List R.En) (w : World) (w0 : IsEnts w a0 len0 cap0 z0) :
    Calls Try.prog 20 #[.slice a0 len0 cap0] w fun e w' => e = .returned (.bool true) ∧ Below w.heap.size w w' := by
  exact exactRunKeys w a0 len0 cap0 z0 w0.1 (Nat.le_trans w0.2.1 w0.2.2.1) w0.2.2.2

set_option maxRecDepth 100000 in
theorem lifted (os : Os) (started : os.Started) (H : Type) (enc : TypeId × Value → H) :
    ReturnsInHanded {} Try.checked os 20 .any (Rows.fnExactRunKeysSpec.pre6 enc Try.prog Try.f20 Rows.fnExactRunKeysRow.domain false) (Rows.fnExactRunKeysSpec.post enc Try.prog Try.f20 false true false false) := by
  refine returnsInHanded_of_change (C := Try.checked) own started (by kernel_rfl) Try.func20
    (ChangeSpec.witness6 (enc := enc) (C := Try.checked) false ⟨#[], #[.slice none 0 0], []⟩ 8 (by kernel_rfl) (by kernel_rfl) (by kernel_rfl) (by kernel_rfl)) ?_
  intro W base args ds gs before hval0 hW hcnd _
  have hval : ∀ (j : Nat) t v, Try.f20.params[j]? = some t → args[j]? = some v → Value.okWide Try.prog W .any base t v := hval0
  have hW' := hW
  obtain ⟨p, q, hA0, hV, rfl, hfz, hnd⟩ := hW
  have hA : DataW.TrodAll enc Try.prog W 0 (fun _ => true) true Try.f20.params.toList args.toList ds p := hA0
  rw [Try.params20] at hA hval
  obtain ⟨v0, vs0, d0, ds0, p0, q0, hargs, rfl, rfl, h0, r0⟩ := trodAll_cons hA
  obtain ⟨rfl, rfl, rfl⟩ := trodAll_nil r0
  obtain rfl : args = #[v0] := by cases args; simp_all
  obtain ⟨rfl, rfl⟩ := trodVars_none hV
  obtain ⟨a0, len0, cap0, rfl⟩ := okWide_slice Try.underlying52 (hval 0 52 v0 rfl rfl)
  have k0 := h0
  have lt0 : ∀ x ∈ p0, x.block < W.heap.size := by obtain ⟨m, hm⟩ := k0; exact DataW.trod_lt m _ _ _ hm
  obtain ⟨z0, w0⟩ : ∃ l, IsEnts W a0 len0 cap0 l := by
    obtain ⟨fuel, hf⟩ := h0
    rcases open_ents hf with hcs | ⟨x, l, c, zs, hcs, hw⟩
    · simp [Value.cells] at hcs
      obtain ⟨rfl, rfl, rfl⟩ := hcs
      exact ⟨[], isEnts_nil W⟩
    · simp [Value.cells] at hcs
      obtain ⟨rfl, rfl, rfl⟩ := hcs
      exact ⟨_, hw⟩
  clear hA0 hval0
  refine (walk a0 len0 cap0 z0 W w0).mono fun e W' ⟨he, bel⟩ => ?_
  subst he
  exact ⟨_, rfl, _, _, _, [], _, [], hW', trodAll_mk1 (shut_bool Try.underlying4 _), (trodAll_cons_mk (Below.trod laidOut (by kernel_rfl) (of_decide_eq_true (by kernel_rfl)) k0 bel lt0) trodAll_mk0), rfl, bel.frame _, fun h => by cases h⟩

theorem and2 {a b : Bool} (ha : a = true) (hb : b = true) : (a && b) = true := by rw [ha, hb]; rfl
set_option maxRecDepth 100000 in
theorem closed : joinedFacts Try.prog 20 Try.f20 Rows.fnExactRunKeysSpec Rows.fnExactRunKeysRow = true := (and2 (and2 (and2 (and2 (and2 (and2 (and2 (and2 (and2 (and2 (and2 (and2 (and2 (and2 (and2 (and2 (and2 (and2 (and2 (and2 (and2 (and2 (and2 (and2 (and2 (and2 (and2 (and2 (and2 (and2 (and2 fnExactRunKeysC.fact0 CP.fact1) CP.fact2) fnExactRunKeysC.fact3) fnExactRunKeysC.fact4) fnExactRunKeysC.fact5) CP.fact6) fnExactRunKeysC.fact7) CP.fact8) fnExactRunKeysC.fact9) fnExactRunKeysC.fact10) fnExactRunKeysC.fact11) fnExactRunKeysC.fact12) fnExactRunKeysC.fact13) fnExactRunKeysC.fact14) fnExactRunKeysC.fact15) fnExactRunKeysC.fact16) fnExactRunKeysC.fact17) fnExactRunKeysC.fact18) fnExactRunKeysC.fact19) fnExactRunKeysC.fact20) fnExactRunKeysC.fact21) fnExactRunKeysC.fact22) fnExactRunKeysC.fact23) CP.fact24) CP.fact25) fnExactRunKeysC.fact26) fnExactRunKeysC.fact27) fnExactRunKeysC.fact28) fnExactRunKeysC.fact29) fnExactRunKeysC.fact30) fnExactRunKeysC.fact31)

theorem over : Rows.fnExactRunKeysRow.holds Try.pinned (OpenSpec.ofChange Rows.fnExactRunKeysSpec) :=
  OpenClaim.holds_of_wide 20 Try.f20 rfl rfl rfl rfl rfl rfl rfl ⟨rfl, rfl, rfl, rfl, rfl⟩ rfl rfl rfl rfl rfl (by kernel_rfl) Try.func20 closed
    (of_decide_eq_true (by kernel_rfl)) (by unfold Func.isWrapper; first | (rw [if_pos (by decide +kernel)]; kernel_rfl) | (rw [if_neg (by decide +kernel)]; exact ⟨rfl, rfl⟩))
    (fun os started H enc _ => lifted os started H enc)

/-- the statement -/
theorem proved : Rows.FnExactRunKeysSaid := over
#print axioms proved
end Go.Proofs.Ytalafgbagbdjlaa.fnExactRunKeys
