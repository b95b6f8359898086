/-
  At every two lists of entries RunJoin answers as the specification, writes into no argument, and its answer owns its memory. The law FnExactRunJoin holds. Conditions: none; every argument that Go can hold.
-/
import Derived.Test.YtfpgjkanmanajaaRows
import Derived.Test.YtfpgjkanmanajaaEXJoin
import Derived.Test.YtfpgjkanmanajaaF3
import Derived.Test.YtfpgjkanmanajaaCP
import Derived.Test.YtfpgjkanmanajaaCExactRunJoina
import Derived.Test.YtfpgjkanmanajaaCExactRunJoinb
import Derived.Test.YtfpgjkanmanajaaCExactRunJoinc
import Derived.WalkKit
import Derived.ProofKit
import Derived.OpenShut
import Derived.ShutString
import Derived.ChangeOld
import Derived.Below
namespace Go.Proofs.Ytfpgjkanmanajaa.fnExactRunJoin
open Go.ChangeShapes Go.WideShapes Go.ChangeAt Go.RowKit
open Go.ChangeMaps (open_string shut_string)
open K W
set_option linter.unusedVariables false

theorem own : ownKnob Try.prog.godebug = none := by kernel_rfl
theorem laidOut : laidOutB Try.prog = true := by kernel_rfl

set_option maxHeartbeats 400000 in
theorem walk (a0 : Option Addr) (len0 cap0 : Nat) (z0 : List R.En) (a1 : Option Addr) (len1 cap1 : Nat) (z1 : List R.En) (w : World) (w0 : IsEnts w a0 len0 cap0 z0) (w1 : IsEnts w a1 len1 cap1 z1) :
    Calls Try.prog 18 #[.slice a0 len0 cap0, .slice a1 len1 cap1] w fun e w' => e = .returned (.bool true) ∧ Below w.heap.size w w' := by
  exact exactRunJoin w a0 a1 len0 cap0 len1 cap1 z0 z1 w0.1 w1.1 (Nat.le_trans w0.2.1 w0.2.2.1) (Nat.le_trans w1.2.1 w1.2.2.1) w0.2.2.2 w1.2.2.2

set_option maxRecDepth 100000 in
theorem lifted (os : Os) (started : os.Started) (H : Type) (enc : TypeId × Value → H) :
    ReturnsInHanded {} Try.checked os 18 .any (Rows.fnExactRunJoinSpec.pre6 enc Try.prog Try.f18 Rows.fnExactRunJoinRow.domain false) (Rows.fnExactRunJoinSpec.post enc Try.prog Try.f18 false true false false) := by
  refine returnsInHanded_of_change (C := Try.checked) own started (by kernel_rfl) Try.func18
    (ChangeSpec.witness6 (enc := enc) (C := Try.checked) false ⟨#[], #[.slice none 0 0, .slice none 0 0], []⟩ 8 (by kernel_rfl) (by kernel_rfl) (by kernel_rfl) (by kernel_rfl)) ?_
  intro W base args ds gs before hval0 hW hcnd _
  have hval : ∀ (j : Nat) t v, Try.f18.params[j]? = some t → args[j]? = some v → Value.okWide Try.prog W .any base t v := hval0
  have hW' := hW
  obtain ⟨p, q, hA0, hV, rfl, hfz, hnd⟩ := hW
  have hA : DataW.TrodAll enc Try.prog W 0 (fun _ => true) true Try.f18.params.toList args.toList ds p := hA0
  rw [Try.params18] at hA hval
  obtain ⟨v0, vs0, d0, ds0, p0, q0, hargs, rfl, rfl, h0, r0⟩ := trodAll_cons hA
  obtain ⟨v1, vs1, d1, ds1, p1, q1, rfl, rfl, rfl, h1, r1⟩ := trodAll_cons r0
  obtain ⟨rfl, rfl, rfl⟩ := trodAll_nil r1
  obtain rfl : args = #[v0, v1] := by cases args; simp_all
  obtain ⟨rfl, rfl⟩ := trodVars_none hV
  obtain ⟨a0, len0, cap0, rfl⟩ := okWide_slice Try.underlying52 (hval 0 52 v0 rfl rfl)
  have k0 := h0
  have lt0 : ∀ x ∈ p0, x.block < W.heap.size := by obtain ⟨m, hm⟩ := k0; exact DataW.trod_lt m _ _ _ hm
  obtain ⟨z0, w0⟩ : ∃ l, IsEnts W a0 len0 cap0 l := by
    obtain ⟨fuel, hf⟩ := h0
    rcases open_ents hf with hcs | ⟨x, l, c, zs, hcs, hw⟩
    · simp [Value.cells] at hcs
      obtain ⟨rfl, rfl, rfl⟩ := hcs
      exact ⟨[], isEnts_nil W⟩
    · simp [Value.cells] at hcs
      obtain ⟨rfl, rfl, rfl⟩ := hcs
      exact ⟨_, hw⟩
  obtain ⟨a1, len1, cap1, rfl⟩ := okWide_slice Try.underlying52 (hval 1 52 v1 rfl rfl)
  have k1 := h1
  have lt1 : ∀ x ∈ p1, x.block < W.heap.size := by obtain ⟨m, hm⟩ := k1; exact DataW.trod_lt m _ _ _ hm
  obtain ⟨z1, w1⟩ : ∃ l, IsEnts W a1 len1 cap1 l := by
    obtain ⟨fuel, hf⟩ := h1
    rcases open_ents hf with hcs | ⟨x, l, c, zs, hcs, hw⟩
    · simp [Value.cells] at hcs
      obtain ⟨rfl, rfl, rfl⟩ := hcs
      exact ⟨[], isEnts_nil W⟩
    · simp [Value.cells] at hcs
      obtain ⟨rfl, rfl, rfl⟩ := hcs
      exact ⟨_, hw⟩
  clear hA0 hval0
  refine (walk a0 len0 cap0 z0 a1 len1 cap1 z1 W w0 w1).mono fun e W' ⟨he, bel⟩ => ?_
  subst he
  exact ⟨_, rfl, _, _, _, [], _, [], hW', trodAll_mk1 (shut_bool Try.underlying4 _), (trodAll_cons_mk (Below.trod laidOut (by kernel_rfl) (of_decide_eq_true (by kernel_rfl)) k0 bel lt0) (trodAll_cons_mk (Below.trod laidOut (by kernel_rfl) (of_decide_eq_true (by kernel_rfl)) k1 bel lt1) trodAll_mk0)), rfl, bel.frame _, fun h => by cases h⟩

theorem and2 {a b : Bool} (ha : a = true) (hb : b = true) : (a && b) = true := by rw [ha, hb]; rfl
set_option maxRecDepth 100000 in
theorem closed : joinedFacts Try.prog 18 Try.f18 Rows.fnExactRunJoinSpec Rows.fnExactRunJoinRow = true := (and2 (and2 (and2 (and2 (and2 (and2 (and2 (and2 (and2 (and2 (and2 (and2 (and2 (and2 (and2 (and2 (and2 (and2 (and2 (and2 (and2 (and2 (and2 (and2 (and2 (and2 (and2 (and2 (and2 (and2 (and2 fnExactRunJoinC.fact0 CP.fact1) CP.fact2) fnExactRunJoinC.fact3) fnExactRunJoinC.fact4) fnExactRunJoinC.fact5) CP.fact6) fnExactRunJoinC.fact7) CP.fact8) fnExactRunJoinC.fact9) fnExactRunJoinC.fact10) fnExactRunJoinC.fact11) fnExactRunJoinC.fact12) fnExactRunJoinC.fact13) fnExactRunJoinC.fact14) fnExactRunJoinC.fact15) fnExactRunJoinC.fact16) fnExactRunJoinC.fact17) fnExactRunJoinC.fact18) fnExactRunJoinC.fact19) fnExactRunJoinC.fact20) fnExactRunJoinC.fact21) fnExactRunJoinC.fact22) fnExactRunJoinC.fact23) CP.fact24) CP.fact25) fnExactRunJoinC.fact26) fnExactRunJoinC.fact27) fnExactRunJoinC.fact28) fnExactRunJoinC.fact29) fnExactRunJoinC.fact30) fnExactRunJoinC.fact31)

theorem over : Rows.fnExactRunJoinRow.holds Try.pinned (OpenSpec.ofChange Rows.fnExactRunJoinSpec) :=
  OpenClaim.holds_of_wide 18 Try.f18 rfl rfl rfl rfl rfl rfl rfl ⟨rfl, rfl, rfl, rfl, rfl⟩ rfl rfl rfl rfl rfl (by kernel_rfl) Try.func18 closed
    (of_decide_eq_true (by kernel_rfl)) (by unfold Func.isWrapper; first | (rw [if_pos (by decide +kernel)]; kernel_rfl) | (rw [if_neg (by decide +kernel)]; exact ⟨rfl, rfl⟩))
    (fun os started H enc _ => lifted os started H enc)

/-- the statement -/
theorem proved : Rows.FnExactRunJoinSaid := over
#print axioms proved
end Go.Proofs.Ytfpgjkanmanajaa.fnExactRunJoin
