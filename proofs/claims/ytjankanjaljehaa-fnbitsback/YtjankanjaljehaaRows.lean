/-
  No cell of these rows narrows 'for every input' (looked for: loops, veiled, ifaces, maps, wideKeys, modest, calm, conditions, laid).
  DERIVED. THE GIVEN ROWS OF THIS SEAT. 8 by the template 'for every input the law returns true; each argument reads behind the call as it read before'; 0 by the template 'total and deterministic' (their statements: YtjankanjaljehaaTotals.lean).
  GIVEN WITH THE SEED: the statements are not yours to turn. If you find one false, say at which input.
  Laid BY PROGRAM, IN A SANDBOX (cutbox-rows.mjs): the forced cells as the released guide's own fill.sh prints them over the translation 233b9dac783729e6… (all of the seat's roots in one cut). By AI agents, Wed Nov 11 2026. No macro, syntax, notation, axiom, sorry.
-/
import Derived.Test.YtjankanjaljehaaChecked
import GoSem.Claim
import GoSem.ClaimJoined
import GoSem.ClaimMapViews
import Derived.JoinedTies
import Derived.KernelRfl
namespace Go.Proofs.Ytjankanjaljehaa
/- THE CELL 'sum', in the pinned program and in every row, IS THE sha256 OF THE DUMP (.gsa) THAT YtjankanjaljehaaProg.lean LOADS. Nothing in Lean hashes anything: it is a label: what it is worth is what the hold of that sum in a sandbox is worth. -/
noncomputable def Try.pinned : Pinned := { name := "ytjankanjaljehaa", sum := "233b9dac783729e6612fa56916ae5e11cfeb5cf979e5441b51d5c497a5a853fd", checked := Try.checked }
namespace Rows
def none {H : Type} : Left H := { results := [], args := [] }

/-- 'laws.FnBitsOnes': WHATEVER THE INPUT: true; the input reads as it did. -/
def fnBitsOnesSpec : ChangeSpec := { name := "fnBitsOnes", fn := fun _ => fun
  | [d] => { results := [.lit (.bool true)], args := [d] }
  | _ => none }
def fnBitsOnesRow : OpenClaim := { program := "ytjankanjaljehaa", sum := "233b9dac783729e6612fa56916ae5e11cfeb5cf979e5441b51d5c497a5a853fd", func := "loop.example/temse/laws.FnBitsOnes", spec := "fnBitsOnes", apart := false }
def FnBitsOnesSaid : Prop := fnBitsOnesRow.holds Try.pinned (OpenSpec.ofChange fnBitsOnesSpec)

/-- ITS FALSE NEIGHBOUR: 'it returns false'. Refute it at one input. -/
def fnBitsOnesWrong : ChangeSpec := { name := "fnBitsOnes", fn := fun _ => fun
  | [d] => { results := [.lit (.bool false)], args := [d] }
  | _ => none }
def FnBitsOnesWrongFalsely : Prop := fnBitsOnesRow.holds Try.pinned (OpenSpec.ofChange fnBitsOnesWrong)

/-- 'laws.FnBitsOne': WHATEVER THE INPUT: true; the input reads as it did. -/
def fnBitsOneSpec : ChangeSpec := { name := "fnBitsOne", fn := fun _ => fun
  | [d] => { results := [.lit (.bool true)], args := [d] }
  | _ => none }
def fnBitsOneRow : OpenClaim := { program := "ytjankanjaljehaa", sum := "233b9dac783729e6612fa56916ae5e11cfeb5cf979e5441b51d5c497a5a853fd", func := "loop.example/temse/laws.FnBitsOne", spec := "fnBitsOne", apart := false }
def FnBitsOneSaid : Prop := fnBitsOneRow.holds Try.pinned (OpenSpec.ofChange fnBitsOneSpec)

/-- ITS FALSE NEIGHBOUR: 'it returns false'. Refute it at one input. -/
def fnBitsOneWrong : ChangeSpec := { name := "fnBitsOne", fn := fun _ => fun
  | [d] => { results := [.lit (.bool false)], args := [d] }
  | _ => none }
def FnBitsOneWrongFalsely : Prop := fnBitsOneRow.holds Try.pinned (OpenSpec.ofChange fnBitsOneWrong)

/-- 'laws.FnBitsNext': WHATEVER THE INPUT: true; the input reads as it did. -/
def fnBitsNextSpec : ChangeSpec := { name := "fnBitsNext", fn := fun _ => fun
  | [d] => { results := [.lit (.bool true)], args := [d] }
  | _ => none }
def fnBitsNextRow : OpenClaim := { program := "ytjankanjaljehaa", sum := "233b9dac783729e6612fa56916ae5e11cfeb5cf979e5441b51d5c497a5a853fd", func := "loop.example/temse/laws.FnBitsNext", spec := "fnBitsNext", apart := false }
def FnBitsNextSaid : Prop := fnBitsNextRow.holds Try.pinned (OpenSpec.ofChange fnBitsNextSpec)

/-- ITS FALSE NEIGHBOUR: 'it returns false'. Refute it at one input. -/
def fnBitsNextWrong : ChangeSpec := { name := "fnBitsNext", fn := fun _ => fun
  | [d] => { results := [.lit (.bool false)], args := [d] }
  | _ => none }
def FnBitsNextWrongFalsely : Prop := fnBitsNextRow.holds Try.pinned (OpenSpec.ofChange fnBitsNextWrong)

/-- 'laws.FnBitsBack': WHATEVER THE INPUT: true; the input reads as it did. -/
def fnBitsBackSpec : ChangeSpec := { name := "fnBitsBack", fn := fun _ => fun
  | [d] => { results := [.lit (.bool true)], args := [d] }
  | _ => none }
def fnBitsBackRow : OpenClaim := { program := "ytjankanjaljehaa", sum := "233b9dac783729e6612fa56916ae5e11cfeb5cf979e5441b51d5c497a5a853fd", func := "loop.example/temse/laws.FnBitsBack", spec := "fnBitsBack", apart := false }
def FnBitsBackSaid : Prop := fnBitsBackRow.holds Try.pinned (OpenSpec.ofChange fnBitsBackSpec)

/-- ITS FALSE NEIGHBOUR: 'it returns false'. Refute it at one input. -/
def fnBitsBackWrong : ChangeSpec := { name := "fnBitsBack", fn := fun _ => fun
  | [d] => { results := [.lit (.bool false)], args := [d] }
  | _ => none }
def FnBitsBackWrongFalsely : Prop := fnBitsBackRow.holds Try.pinned (OpenSpec.ofChange fnBitsBackWrong)

/-- 'laws.FnExactBitsOk': WHATEVER THE INPUT: true; the input reads as it did. -/
def fnExactBitsOkSpec : ChangeSpec := { name := "fnExactBitsOk", fn := fun _ => fun
  | [d] => { results := [.lit (.bool true)], args := [d] }
  | _ => none }
def fnExactBitsOkRow : OpenClaim := { program := "ytjankanjaljehaa", sum := "233b9dac783729e6612fa56916ae5e11cfeb5cf979e5441b51d5c497a5a853fd", func := "loop.example/temse/laws.FnExactBitsOk", spec := "fnExactBitsOk", apart := false }
def FnExactBitsOkSaid : Prop := fnExactBitsOkRow.holds Try.pinned (OpenSpec.ofChange fnExactBitsOkSpec)

/-- ITS FALSE NEIGHBOUR: 'it returns false'. Refute it at one input. -/
def fnExactBitsOkWrong : ChangeSpec := { name := "fnExactBitsOk", fn := fun _ => fun
  | [d] => { results := [.lit (.bool false)], args := [d] }
  | _ => none }
def FnExactBitsOkWrongFalsely : Prop := fnExactBitsOkRow.holds Try.pinned (OpenSpec.ofChange fnExactBitsOkWrong)

/-- 'laws.FnExactBitsOnes': WHATEVER THE INPUT: true; the input reads as it did. -/
def fnExactBitsOnesSpec : ChangeSpec := { name := "fnExactBitsOnes", fn := fun _ => fun
  | [d1, d2] => { results := [.lit (.bool true)], args := [d1, d2] }
  | _ => none }
def fnExactBitsOnesRow : OpenClaim := { program := "ytjankanjaljehaa", sum := "233b9dac783729e6612fa56916ae5e11cfeb5cf979e5441b51d5c497a5a853fd", func := "loop.example/temse/laws.FnExactBitsOnes", spec := "fnExactBitsOnes", apart := false }
def FnExactBitsOnesSaid : Prop := fnExactBitsOnesRow.holds Try.pinned (OpenSpec.ofChange fnExactBitsOnesSpec)

/-- ITS FALSE NEIGHBOUR: 'it returns false'. Refute it at one input. -/
def fnExactBitsOnesWrong : ChangeSpec := { name := "fnExactBitsOnes", fn := fun _ => fun
  | [d1, d2] => { results := [.lit (.bool false)], args := [d1, d2] }
  | _ => none }
def FnExactBitsOnesWrongFalsely : Prop := fnExactBitsOnesRow.holds Try.pinned (OpenSpec.ofChange fnExactBitsOnesWrong)

/-- 'laws.FnExactBitsOne': WHATEVER THE INPUT: true; the input reads as it did. -/
def fnExactBitsOneSpec : ChangeSpec := { name := "fnExactBitsOne", fn := fun _ => fun
  | [d1, d2] => { results := [.lit (.bool true)], args := [d1, d2] }
  | _ => none }
def fnExactBitsOneRow : OpenClaim := { program := "ytjankanjaljehaa", sum := "233b9dac783729e6612fa56916ae5e11cfeb5cf979e5441b51d5c497a5a853fd", func := "loop.example/temse/laws.FnExactBitsOne", spec := "fnExactBitsOne", apart := false }
def FnExactBitsOneSaid : Prop := fnExactBitsOneRow.holds Try.pinned (OpenSpec.ofChange fnExactBitsOneSpec)

/-- ITS FALSE NEIGHBOUR: 'it returns false'. Refute it at one input. -/
def fnExactBitsOneWrong : ChangeSpec := { name := "fnExactBitsOne", fn := fun _ => fun
  | [d1, d2] => { results := [.lit (.bool false)], args := [d1, d2] }
  | _ => none }
def FnExactBitsOneWrongFalsely : Prop := fnExactBitsOneRow.holds Try.pinned (OpenSpec.ofChange fnExactBitsOneWrong)

/-- 'laws.FnExactBitsNext': WHATEVER THE INPUT: true; the input reads as it did. -/
def fnExactBitsNextSpec : ChangeSpec := { name := "fnExactBitsNext", fn := fun _ => fun
  | [d1, d2] => { results := [.lit (.bool true)], args := [d1, d2] }
  | _ => none }
def fnExactBitsNextRow : OpenClaim := { program := "ytjankanjaljehaa", sum := "233b9dac783729e6612fa56916ae5e11cfeb5cf979e5441b51d5c497a5a853fd", func := "loop.example/temse/laws.FnExactBitsNext", spec := "fnExactBitsNext", apart := false }
def FnExactBitsNextSaid : Prop := fnExactBitsNextRow.holds Try.pinned (OpenSpec.ofChange fnExactBitsNextSpec)

/-- ITS FALSE NEIGHBOUR: 'it returns false'. Refute it at one input. -/
def fnExactBitsNextWrong : ChangeSpec := { name := "fnExactBitsNext", fn := fun _ => fun
  | [d1, d2] => { results := [.lit (.bool false)], args := [d1, d2] }
  | _ => none }
def FnExactBitsNextWrongFalsely : Prop := fnExactBitsNextRow.holds Try.pinned (OpenSpec.ofChange fnExactBitsNextWrong)

/- THE SECOND FORM. 'bulk': how many values and letters a reading holds, each counted each time it is reached (what is shared counts as often as it is met; a slice's spare places count too). A statement '..UptoSaid' is the law's where the arguments, and the package variables that the reading takes, are together of bulk at most 1048576: NARROWER than '..Said'. Prove '..Said' where nothing that the law and all that it calls make is longer than what came in: it says more and counts as full. Else prove '..UptoSaid'. A law counts once. -/
mutual
def uptoBulk {H : Type} : DataW H → Nat
  | .lit (.string bytes) => bytes.length + 1
  | .lit _ => 1
  | .nil => 1
  | .ptr d => uptoBulk d + 1
  | .slice elems spare => uptoBulkAll elems + uptoBulkAll spare + 1
  | .agg parts => uptoBulkAll parts + 1
  | .iface _ d => uptoBulk d + 1
  | .map entries => uptoBulkEntries entries + 1
  | .held _ => 1
def uptoBulkAll {H : Type} : List (DataW H) → Nat
  | [] => 0
  | d :: r => uptoBulk d + uptoBulkAll r
def uptoBulkEntries {H : Type} : List (Lit × DataW H) → Nat
  | [] => 0
  | x :: r => uptoBulkEntry x + uptoBulkEntries r
def uptoBulkEntry {H : Type} : Lit × DataW H → Nat
  | (.string bytes, d) => bytes.length + uptoBulk d + 1
  | (_, d) => uptoBulk d + 1
 end
def uptoSmall : (H : Type) → List (DataW H) → Bool := fun _ ds => decide (uptoBulkAll ds ≤ 1048576)
def OpenSpec.upto (s : _root_.Go.ChangeSpec) : _root_.Go.OpenSpec := { _root_.Go.OpenSpec.ofChange s with cond := some uptoSmall }

/-- 'laws.FnBitsOnes', WHERE WHAT IT READS IS OF BULK AT MOST 1048576: true; the input reads as it did. -/
def fnBitsOnesUptoRow : OpenClaim := { program := "ytjankanjaljehaa", sum := "233b9dac783729e6612fa56916ae5e11cfeb5cf979e5441b51d5c497a5a853fd", func := "loop.example/temse/laws.FnBitsOnes", spec := "fnBitsOnes", apart := false, narrowed := true }
def FnBitsOnesUptoSaid : Prop := fnBitsOnesUptoRow.holds Try.pinned (OpenSpec.upto fnBitsOnesSpec)

/-- 'laws.FnBitsOne', WHERE WHAT IT READS IS OF BULK AT MOST 1048576: true; the input reads as it did. -/
def fnBitsOneUptoRow : OpenClaim := { program := "ytjankanjaljehaa", sum := "233b9dac783729e6612fa56916ae5e11cfeb5cf979e5441b51d5c497a5a853fd", func := "loop.example/temse/laws.FnBitsOne", spec := "fnBitsOne", apart := false, narrowed := true }
def FnBitsOneUptoSaid : Prop := fnBitsOneUptoRow.holds Try.pinned (OpenSpec.upto fnBitsOneSpec)

/-- 'laws.FnBitsNext', WHERE WHAT IT READS IS OF BULK AT MOST 1048576: true; the input reads as it did. -/
def fnBitsNextUptoRow : OpenClaim := { program := "ytjankanjaljehaa", sum := "233b9dac783729e6612fa56916ae5e11cfeb5cf979e5441b51d5c497a5a853fd", func := "loop.example/temse/laws.FnBitsNext", spec := "fnBitsNext", apart := false, narrowed := true }
def FnBitsNextUptoSaid : Prop := fnBitsNextUptoRow.holds Try.pinned (OpenSpec.upto fnBitsNextSpec)

/-- 'laws.FnBitsBack', WHERE WHAT IT READS IS OF BULK AT MOST 1048576: true; the input reads as it did. -/
def fnBitsBackUptoRow : OpenClaim := { program := "ytjankanjaljehaa", sum := "233b9dac783729e6612fa56916ae5e11cfeb5cf979e5441b51d5c497a5a853fd", func := "loop.example/temse/laws.FnBitsBack", spec := "fnBitsBack", apart := false, narrowed := true }
def FnBitsBackUptoSaid : Prop := fnBitsBackUptoRow.holds Try.pinned (OpenSpec.upto fnBitsBackSpec)

/-- 'laws.FnExactBitsOk', WHERE WHAT IT READS IS OF BULK AT MOST 1048576: true; the input reads as it did. -/
def fnExactBitsOkUptoRow : OpenClaim := { program := "ytjankanjaljehaa", sum := "233b9dac783729e6612fa56916ae5e11cfeb5cf979e5441b51d5c497a5a853fd", func := "loop.example/temse/laws.FnExactBitsOk", spec := "fnExactBitsOk", apart := false, narrowed := true }
def FnExactBitsOkUptoSaid : Prop := fnExactBitsOkUptoRow.holds Try.pinned (OpenSpec.upto fnExactBitsOkSpec)

/-- 'laws.FnExactBitsOnes', WHERE WHAT IT READS IS OF BULK AT MOST 1048576: true; the input reads as it did. -/
def fnExactBitsOnesUptoRow : OpenClaim := { program := "ytjankanjaljehaa", sum := "233b9dac783729e6612fa56916ae5e11cfeb5cf979e5441b51d5c497a5a853fd", func := "loop.example/temse/laws.FnExactBitsOnes", spec := "fnExactBitsOnes", apart := false, narrowed := true }
def FnExactBitsOnesUptoSaid : Prop := fnExactBitsOnesUptoRow.holds Try.pinned (OpenSpec.upto fnExactBitsOnesSpec)

/-- 'laws.FnExactBitsOne', WHERE WHAT IT READS IS OF BULK AT MOST 1048576: true; the input reads as it did. -/
def fnExactBitsOneUptoRow : OpenClaim := { program := "ytjankanjaljehaa", sum := "233b9dac783729e6612fa56916ae5e11cfeb5cf979e5441b51d5c497a5a853fd", func := "loop.example/temse/laws.FnExactBitsOne", spec := "fnExactBitsOne", apart := false, narrowed := true }
def FnExactBitsOneUptoSaid : Prop := fnExactBitsOneUptoRow.holds Try.pinned (OpenSpec.upto fnExactBitsOneSpec)

/-- 'laws.FnExactBitsNext', WHERE WHAT IT READS IS OF BULK AT MOST 1048576: true; the input reads as it did. -/
def fnExactBitsNextUptoRow : OpenClaim := { program := "ytjankanjaljehaa", sum := "233b9dac783729e6612fa56916ae5e11cfeb5cf979e5441b51d5c497a5a853fd", func := "loop.example/temse/laws.FnExactBitsNext", spec := "fnExactBitsNext", apart := false, narrowed := true }
def FnExactBitsNextUptoSaid : Prop := fnExactBitsNextUptoRow.holds Try.pinned (OpenSpec.upto fnExactBitsNextSpec)

end Rows
end Go.Proofs.Ytjankanjaljehaa
