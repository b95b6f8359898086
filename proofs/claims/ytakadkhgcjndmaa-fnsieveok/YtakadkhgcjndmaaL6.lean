/-
  The exact law of sorting, as a walk over the contracts of the program's functions.
-/
import Derived.Test.YtakadkhgcjndmaaL5
namespace Go.Proofs.Ytakadkhgcjndmaa.W
open Go.RowKit K

theorem markS1 (w : World) (base n c : Nat) (A : Option Addr) (l : List ByteArray) (ho : Own w base (.slice A n c) l) (h1 : n ≤ 1073741823) :
    Calls Try.prog 62 #[.slice A n c, .int .i64 1] w (Marked base 1 n (.slice A n c) w) := markS w base n c 1 A l ho (by omega) (by omega)
theorem heldS1 (w : World) (B n c : Nat) (A : Option Addr) (hr : Strs w B A n (marks 1 n)) (hB : B ≤ w.heap.size) (h1 : n ≤ 1073741823) :
    Calls Try.prog 67 #[.slice A n c, .int .i64 1] w fun e w' => e = .returned (.int .i64 ((1 + n : Nat) : Int)) ∧ Below w.heap.size w w' := heldS w B n c 1 A hr hB (by omega) (by omega)

end Go.Proofs.Ytakadkhgcjndmaa.W
