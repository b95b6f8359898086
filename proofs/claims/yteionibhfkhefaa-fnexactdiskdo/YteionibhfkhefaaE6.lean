/-
  The size of entries that came in, as an exact law reckons it.
-/
import Derived.Test.YteionibhfkhefaaE1
namespace Go.Proofs.Yteionibhfkhefaa.W
open Go.RowKit K R

theorem i64_z (a : Int) (h1 : -9223372036854775808 ≤ a) (h2 : a ≤ 9223372036854775807) : IntKind.i64.wrap a = a := IntWalk.i64_in _ ⟨by omega, by omega⟩
/-- how much is left, or that it is too much -/
def SizedE (l : List En) (w : World) (e : Ending) (w' : World) : Prop :=
  ∃ x : Int, e = .returned (.int .i64 x) ∧ -1 ≤ x ∧ x ≤ 1048576 ∧ (0 ≤ x → l.length ≤ 1048576 ∧ ∀ e ∈ l, e.key.size ≤ 1048576) ∧ Below w.heap.size w w'

end Go.Proofs.Yteionibhfkhefaa.W
