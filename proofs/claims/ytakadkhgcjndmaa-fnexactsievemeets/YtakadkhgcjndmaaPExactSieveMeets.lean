/-
  At every filter and every two strings that Go can hold SieveMeets answers as its model and turns nothing: the law FnExactSieveMeets holds. Conditions: none; every argument that Go can hold.
-/
import Derived.Test.YtakadkhgcjndmaaRows
import Derived.Test.YtakadkhgcjndmaaLEMeets
import Derived.Test.YtakadkhgcjndmaaF2
import Derived.Test.YtakadkhgcjndmaaCP
import Derived.Test.YtakadkhgcjndmaaCExactSieveMeetsa
import Derived.Test.YtakadkhgcjndmaaCExactSieveMeetsb
import Derived.Test.YtakadkhgcjndmaaCExactSieveMeetsc
import Derived.WalkKit
import Derived.ProofKit
import Derived.OpenShut
import Derived.ShutString
import Derived.ChangeOld
import Derived.Below
namespace Go.Proofs.Ytakadkhgcjndmaa.fnExactSieveMeets
open Go.ChangeShapes Go.WideShapes Go.ChangeAt Go.RowKit
open Go.ChangeMaps (open_string shut_string)
open K W
set_option linter.unusedVariables false

theorem own : ownKnob Try.prog.godebug = none := by kernel_rfl
theorem laidOut : laidOutB Try.prog = true := by kernel_rfl

set_option maxHeartbeats 400000 in
theorem walk (L0 M0 F0 : ByteArray) (a0 : Option Addr) (len0 cap0 : Nat) (k0k : Int) (z0 : List ByteArray) (a1 : ByteArray) (a2 : ByteArray) (w : World) (u0 : L0.size ≤ maxLen ∧ M0.size ≤ maxLen ∧ F0.size ≤ maxLen) (w0 : IsStrs w a0 len0 cap0 z0) (w1 : a1.size ≤ maxLen) (w2 : a2.size ≤ maxLen) :
    Calls Try.prog 25 #[.agg #[.string L0, .string M0, .string F0, .slice a0 len0 cap0, .int .i64 k0k], .string a1, .string a2] w fun e w' => e = .returned (.bool true) ∧ Below w.heap.size w w' := by
  exact exactSieveMeets w a0 len0 cap0 L0 M0 F0 k0k z0 a1 w1 a2 w2 u0.1 u0.2.1 u0.2.2 w0.1 w0.2.1 w0.2.2.1 w0.2.2.2

set_option maxRecDepth 100000 in
theorem lifted (os : Os) (started : os.Started) (H : Type) (enc : TypeId × Value → H) :
    ReturnsInHanded {} Try.checked os 25 .any (Rows.fnExactSieveMeetsSpec.pre6 enc Try.prog Try.f25 Rows.fnExactSieveMeetsRow.domain false) (Rows.fnExactSieveMeetsSpec.post enc Try.prog Try.f25 false true false false) := by
  refine returnsInHanded_of_change (C := Try.checked) own started (by kernel_rfl) Try.func25
    (ChangeSpec.witness6 (enc := enc) (C := Try.checked) false ⟨#[], #[.agg #[.string ByteArray.empty, .string ByteArray.empty, .string ByteArray.empty, .slice none 0 0, .int .i64 0], .string ByteArray.empty, .string ByteArray.empty], []⟩ 8 (by kernel_rfl) (by kernel_rfl) (by kernel_rfl) (by kernel_rfl)) ?_
  intro W base args ds gs before hval0 hW hcnd _
  have hval : ∀ (j : Nat) t v, Try.f25.params[j]? = some t → args[j]? = some v → Value.okWide Try.prog W .any base t v := hval0
  have hW' := hW
  obtain ⟨p, q, hA0, hV, rfl, hfz, hnd⟩ := hW
  have hA : DataW.TrodAll enc Try.prog W 0 (fun _ => true) true Try.f25.params.toList args.toList ds p := hA0
  rw [Try.params25] at hA hval
  obtain ⟨v0, vs0, d0, ds0, p0, q0, hargs, rfl, rfl, h0, r0⟩ := trodAll_cons hA
  obtain ⟨v1, vs1, d1, ds1, p1, q1, rfl, rfl, rfl, h1, r1⟩ := trodAll_cons r0
  obtain ⟨v2, vs2, d2, ds2, p2, q2, rfl, rfl, rfl, h2, r2⟩ := trodAll_cons r1
  obtain ⟨rfl, rfl, rfl⟩ := trodAll_nil r2
  obtain rfl : args = #[v0, v1, v2] := by cases args; simp_all
  obtain ⟨rfl, rfl⟩ := trodVars_none hV
  have k0 := h0
  have lt0 : ∀ x ∈ p0, x.block < W.heap.size := by obtain ⟨m, hm⟩ := k0; exact DataW.trod_lt m _ _ _ hm
  obtain ⟨L0, M0, F0, a0, len0, cap0, k0k, z0, rfl, uL0, uM0, uF0, w0⟩ := open_sv (hval 0 57 v0 rfl rfl) h0
  obtain ⟨a1, rfl, rfl, rfl, w1⟩ := open_string Try.underlying9 (hval 1 9 v1 rfl rfl) h1
  obtain ⟨a2, rfl, rfl, rfl, w2⟩ := open_string Try.underlying9 (hval 2 9 v2 rfl rfl) h2
  clear hA0 hval0
  refine (walk L0 M0 F0 a0 len0 cap0 k0k z0 a1 a2 W ⟨uL0, uM0, uF0⟩ w0 w1 w2).mono fun e W' ⟨he, bel⟩ => ?_
  subst he
  exact ⟨_, rfl, _, _, _, [], _, [], hW', trodAll_mk1 (shut_bool Try.underlying4 _), (trodAll_cons_mk (Below.trod laidOut (by kernel_rfl) (of_decide_eq_true (by kernel_rfl)) k0 bel lt0) (trodAll_cons_mk (shut_string Try.underlying9 w1) (trodAll_cons_mk (shut_string Try.underlying9 w2) trodAll_mk0))), rfl, bel.frame _, fun h => by cases h⟩

theorem and2 {a b : Bool} (ha : a = true) (hb : b = true) : (a && b) = true := by rw [ha, hb]; rfl
set_option maxRecDepth 100000 in
theorem closed : joinedFacts Try.prog 25 Try.f25 Rows.fnExactSieveMeetsSpec Rows.fnExactSieveMeetsRow = true := (and2 (and2 (and2 (and2 (and2 (and2 (and2 (and2 (and2 (and2 (and2 (and2 (and2 (and2 (and2 (and2 (and2 (and2 (and2 (and2 (and2 (and2 (and2 (and2 (and2 (and2 (and2 (and2 (and2 (and2 (and2 fnExactSieveMeetsC.fact0 CP.fact1) CP.fact2) fnExactSieveMeetsC.fact3) fnExactSieveMeetsC.fact4) fnExactSieveMeetsC.fact5) CP.fact6) fnExactSieveMeetsC.fact7) CP.fact8) fnExactSieveMeetsC.fact9) fnExactSieveMeetsC.fact10) fnExactSieveMeetsC.fact11) fnExactSieveMeetsC.fact12) fnExactSieveMeetsC.fact13) fnExactSieveMeetsC.fact14) fnExactSieveMeetsC.fact15) fnExactSieveMeetsC.fact16) fnExactSieveMeetsC.fact17) fnExactSieveMeetsC.fact18) fnExactSieveMeetsC.fact19) fnExactSieveMeetsC.fact20) fnExactSieveMeetsC.fact21) fnExactSieveMeetsC.fact22) fnExactSieveMeetsC.fact23) CP.fact24) CP.fact25) fnExactSieveMeetsC.fact26) fnExactSieveMeetsC.fact27) fnExactSieveMeetsC.fact28) fnExactSieveMeetsC.fact29) fnExactSieveMeetsC.fact30) fnExactSieveMeetsC.fact31)

theorem over : Rows.fnExactSieveMeetsRow.holds Try.pinned (OpenSpec.ofChange Rows.fnExactSieveMeetsSpec) :=
  OpenClaim.holds_of_wide 25 Try.f25 rfl rfl rfl rfl rfl rfl rfl ⟨rfl, rfl, rfl, rfl, rfl⟩ rfl rfl rfl rfl rfl (by kernel_rfl) Try.func25 closed
    (of_decide_eq_true (by kernel_rfl)) (by unfold Func.isWrapper; first | (rw [if_pos (by decide +kernel)]; kernel_rfl) | (rw [if_neg (by decide +kernel)]; exact ⟨rfl, rfl⟩))
    (fun os started H enc _ => lifted os started H enc)

/-- the statement -/
theorem proved : Rows.FnExactSieveMeetsSaid := over
#print axioms proved
end Go.Proofs.Ytakadkhgcjndmaa.fnExactSieveMeets
