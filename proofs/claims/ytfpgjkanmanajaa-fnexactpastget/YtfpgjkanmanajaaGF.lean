/-
  merged: what it hands back.
-/
import Derived.Test.YtfpgjkanmanajaaEK
namespace Go.Proofs.Ytfpgjkanmanajaa.W
open Go.RowKit K R

/-- the iterator, and what it has captured: b's box, a's box -/
def mergedV (g : Nat) : Value := .func (.func 93) #[] #[.pointer (some ⟨g + 1, 0, none⟩), .pointer (some ⟨g, 0, none⟩)]

set_option maxHeartbeats 1000000 in
theorem mergedI (w : World) (na ca nb cb : Nat) (A1 A2 : Option Addr) :
    Calls Try.prog 66 #[.slice A1 na ca, .slice A2 nb cb] w fun e w' => e = .returned (mergedV w.heap.size) ∧ w' = (w.alloc (.cells #[.slice A1 na ca] 23)).alloc (.cells #[.slice A2 nb cb] 23) := by
  have hmf : ∀ (fn : Fn) (first cap : Array Value) (w : World), (Instr.makeFunc fn first cap).run Try.prog w = .ok (.func fn first cap) w := fun _ _ _ _ => rfl
  go_enter Try.func66, Try.ntmps66
  go_wp2
  go_ret
  exact ⟨rfl, rfl⟩

end Go.Proofs.Ytfpgjkanmanajaa.W
