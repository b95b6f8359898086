/-
  At every list of entries, key and time PastGet answers as the specification, and writes into no argument. The law FnExactPastGet holds. Conditions: none; every argument that Go can hold.
-/
import Derived.Test.YtfpgjkanmanajaaRows
import Derived.Test.YtfpgjkanmanajaaEXPast
import Derived.Test.YtfpgjkanmanajaaF3
import Derived.Test.YtfpgjkanmanajaaCP
import Derived.Test.YtfpgjkanmanajaaCExactPastGeta
import Derived.Test.YtfpgjkanmanajaaCExactPastGetb
import Derived.Test.YtfpgjkanmanajaaCExactPastGetc
import Derived.WalkKit
import Derived.ProofKit
import Derived.OpenShut
import Derived.ShutString
import Derived.ChangeOld
import Derived.Below
namespace Go.Proofs.Ytfpgjkanmanajaa.fnExactPastGet
open Go.ChangeShapes Go.WideShapes Go.ChangeAt Go.RowKit
open Go.ChangeMaps (open_string shut_string)
open K W
set_option linter.unusedVariables false

theorem own : ownKnob Try.prog.godebug = none := by kernel_rfl
theorem laidOut : laidOutB Try.prog = true := by kernel_rfl

set_option maxHeartbeats 400000 in
theorem walk (a0 : Option Addr) (len0 cap0 : Nat) (z0 : List R.En) (a1 : ByteArray) (a2 : Int) (w : World) (w0 : IsEnts w a0 len0 cap0 z0) (w1 : a1.size ≤ maxLen) (w2 : (Lit.int .i64 a2).wf = true) :
    Calls Try.prog 22 #[.slice a0 len0 cap0, .string a1, .int .i64 a2] w fun e w' => e = .returned (.bool true) ∧ Below w.heap.size w w' := by
  exact exactPastGet w a0 len0 cap0 z0 a1 a2 w0.1 (Nat.le_trans w0.2.1 w0.2.2.1) w0.2.2.2

set_option maxRecDepth 100000 in
theorem lifted (os : Os) (started : os.Started) (H : Type) (enc : TypeId × Value → H) :
    ReturnsInHanded {} Try.checked os 22 .any (Rows.fnExactPastGetSpec.pre6 enc Try.prog Try.f22 Rows.fnExactPastGetRow.domain false) (Rows.fnExactPastGetSpec.post enc Try.prog Try.f22 false true false false) := by
  refine returnsInHanded_of_change (C := Try.checked) own started (by kernel_rfl) Try.func22
    (ChangeSpec.witness6 (enc := enc) (C := Try.checked) false ⟨#[], #[.slice none 0 0, .string ByteArray.empty, .int .i64 0], []⟩ 8 (by kernel_rfl) (by kernel_rfl) (by kernel_rfl) (by kernel_rfl)) ?_
  intro W base args ds gs before hval0 hW hcnd _
  have hval : ∀ (j : Nat) t v, Try.f22.params[j]? = some t → args[j]? = some v → Value.okWide Try.prog W .any base t v := hval0
  have hW' := hW
  obtain ⟨p, q, hA0, hV, rfl, hfz, hnd⟩ := hW
  have hA : DataW.TrodAll enc Try.prog W 0 (fun _ => true) true Try.f22.params.toList args.toList ds p := hA0
  rw [Try.params22] at hA hval
  obtain ⟨v0, vs0, d0, ds0, p0, q0, hargs, rfl, rfl, h0, r0⟩ := trodAll_cons hA
  obtain ⟨v1, vs1, d1, ds1, p1, q1, rfl, rfl, rfl, h1, r1⟩ := trodAll_cons r0
  obtain ⟨v2, vs2, d2, ds2, p2, q2, rfl, rfl, rfl, h2, r2⟩ := trodAll_cons r1
  obtain ⟨rfl, rfl, rfl⟩ := trodAll_nil r2
  obtain rfl : args = #[v0, v1, v2] := by cases args; simp_all
  obtain ⟨rfl, rfl⟩ := trodVars_none hV
  obtain ⟨a0, len0, cap0, rfl⟩ := okWide_slice Try.underlying52 (hval 0 52 v0 rfl rfl)
  have k0 := h0
  have lt0 : ∀ x ∈ p0, x.block < W.heap.size := by obtain ⟨m, hm⟩ := k0; exact DataW.trod_lt m _ _ _ hm
  obtain ⟨z0, w0⟩ : ∃ l, IsEnts W a0 len0 cap0 l := by
    obtain ⟨fuel, hf⟩ := h0
    rcases open_ents hf with hcs | ⟨x, l, c, zs, hcs, hw⟩
    · simp [Value.cells] at hcs
      obtain ⟨rfl, rfl, rfl⟩ := hcs
      exact ⟨[], isEnts_nil W⟩
    · simp [Value.cells] at hcs
      obtain ⟨rfl, rfl, rfl⟩ := hcs
      exact ⟨_, hw⟩
  obtain ⟨a1, rfl, rfl, rfl, w1⟩ := open_string Try.underlying9 (hval 1 9 v1 rfl rfl) h1
  obtain ⟨a2, rfl, rfl, rfl, w2⟩ := open_int Try.underlying3 (hval 2 3 v2 rfl rfl) h2
  clear hA0 hval0
  refine (walk a0 len0 cap0 z0 a1 a2 W w0 w1 w2).mono fun e W' ⟨he, bel⟩ => ?_
  subst he
  exact ⟨_, rfl, _, _, _, [], _, [], hW', trodAll_mk1 (shut_bool Try.underlying4 _), (trodAll_cons_mk (Below.trod laidOut (by kernel_rfl) (of_decide_eq_true (by kernel_rfl)) k0 bel lt0) (trodAll_cons_mk (shut_string Try.underlying9 w1) (trodAll_cons_mk (shut_int Try.underlying3 w2) trodAll_mk0))), rfl, bel.frame _, fun h => by cases h⟩

theorem and2 {a b : Bool} (ha : a = true) (hb : b = true) : (a && b) = true := by rw [ha, hb]; rfl
set_option maxRecDepth 100000 in
theorem closed : joinedFacts Try.prog 22 Try.f22 Rows.fnExactPastGetSpec Rows.fnExactPastGetRow = true := (and2 (and2 (and2 (and2 (and2 (and2 (and2 (and2 (and2 (and2 (and2 (and2 (and2 (and2 (and2 (and2 (and2 (and2 (and2 (and2 (and2 (and2 (and2 (and2 (and2 (and2 (and2 (and2 (and2 (and2 (and2 fnExactPastGetC.fact0 CP.fact1) CP.fact2) fnExactPastGetC.fact3) fnExactPastGetC.fact4) fnExactPastGetC.fact5) CP.fact6) fnExactPastGetC.fact7) CP.fact8) fnExactPastGetC.fact9) fnExactPastGetC.fact10) fnExactPastGetC.fact11) fnExactPastGetC.fact12) fnExactPastGetC.fact13) fnExactPastGetC.fact14) fnExactPastGetC.fact15) fnExactPastGetC.fact16) fnExactPastGetC.fact17) fnExactPastGetC.fact18) fnExactPastGetC.fact19) fnExactPastGetC.fact20) fnExactPastGetC.fact21) fnExactPastGetC.fact22) fnExactPastGetC.fact23) CP.fact24) CP.fact25) fnExactPastGetC.fact26) fnExactPastGetC.fact27) fnExactPastGetC.fact28) fnExactPastGetC.fact29) fnExactPastGetC.fact30) fnExactPastGetC.fact31)

theorem over : Rows.fnExactPastGetRow.holds Try.pinned (OpenSpec.ofChange Rows.fnExactPastGetSpec) :=
  OpenClaim.holds_of_wide 22 Try.f22 rfl rfl rfl rfl rfl rfl rfl ⟨rfl, rfl, rfl, rfl, rfl⟩ rfl rfl rfl rfl rfl (by kernel_rfl) Try.func22 closed
    (of_decide_eq_true (by kernel_rfl)) (by unfold Func.isWrapper; first | (rw [if_pos (by decide +kernel)]; kernel_rfl) | (rw [if_neg (by decide +kernel)]; exact ⟨rfl, rfl⟩))
    (fun os started H enc _ => lifted os started H enc)

/-- the statement -/
theorem proved : Rows.FnExactPastGetSaid := over
#print axioms proved
end Go.Proofs.Ytfpgjkanmanajaa.fnExactPastGet
