/-
  No cell of these rows narrows 'for every input' (looked for: loops, veiled, ifaces, maps, wideKeys, modest, calm, conditions, laid).
  DERIVED. THE GIVEN ROWS OF THIS SEAT. 10 by the template 'for every input the law returns true; each argument reads behind the call as it read before'; 0 by the template 'total and deterministic' (their statements: YtipkhpijanhfiaaTotals.lean).
  GIVEN WITH THE SEED: the statements are not yours to turn. If you find one false, say at which input.
  Laid BY PROGRAM, IN A SANDBOX (cutbox-rows.mjs): the forced cells as the released guide's own fill.sh prints them over the translation f0d6fce0b8764acc… (all of the seat's roots in one cut). By AI agents, Wed Nov 11 2026. No macro, syntax, notation, axiom, sorry.
-/
import Derived.Test.YtipkhpijanhfiaaChecked
import GoSem.Claim
import GoSem.ClaimJoined
import GoSem.ClaimMapViews
import Derived.JoinedTies
import Derived.KernelRfl
namespace Go.Proofs.Ytipkhpijanhfiaa
/- THE CELL 'sum', in the pinned program and in every row, IS THE sha256 OF THE DUMP (.gsa) THAT YtipkhpijanhfiaaProg.lean LOADS. Nothing in Lean hashes anything: it is a label: what it is worth is what the hold of that sum in a sandbox is worth. -/
noncomputable def Try.pinned : Pinned := { name := "ytipkhpijanhfiaa", sum := "f0d6fce0b8764acc1a750372819775b0bdecc619fded7a75397924cb2cca21da", checked := Try.checked }
namespace Rows
def none {H : Type} : Left H := { results := [], args := [] }

/-- 'laws.FnKeysOk': WHATEVER THE INPUT: true; the input reads as it did. -/
def fnKeysOkSpec : ChangeSpec := { name := "fnKeysOk", fn := fun _ => fun
  | [d1, d2] => { results := [.lit (.bool true)], args := [d1, d2] }
  | _ => none }
def fnKeysOkRow : OpenClaim := { program := "ytipkhpijanhfiaa", sum := "f0d6fce0b8764acc1a750372819775b0bdecc619fded7a75397924cb2cca21da", func := "loop.example/temse/laws.FnKeysOk", spec := "fnKeysOk", inPlace := ["slices.overlaps[string]", "internal/bytealg.abigen_runtime_cmpstring"], unfollowed := true, recurses := true, apart := false }
def FnKeysOkSaid : Prop := fnKeysOkRow.holds Try.pinned (OpenSpec.ofChange fnKeysOkSpec)

/-- ITS FALSE NEIGHBOUR: 'it returns false'. Refute it at one input. -/
def fnKeysOkWrong : ChangeSpec := { name := "fnKeysOk", fn := fun _ => fun
  | [d1, d2] => { results := [.lit (.bool false)], args := [d1, d2] }
  | _ => none }
def FnKeysOkWrongFalsely : Prop := fnKeysOkRow.holds Try.pinned (OpenSpec.ofChange fnKeysOkWrong)

/-- 'laws.FnKeysSort': WHATEVER THE INPUT: true; the input reads as it did. -/
def fnKeysSortSpec : ChangeSpec := { name := "fnKeysSort", fn := fun _ => fun
  | [d] => { results := [.lit (.bool true)], args := [d] }
  | _ => none }
def fnKeysSortRow : OpenClaim := { program := "ytipkhpijanhfiaa", sum := "f0d6fce0b8764acc1a750372819775b0bdecc619fded7a75397924cb2cca21da", func := "loop.example/temse/laws.FnKeysSort", spec := "fnKeysSort", inPlace := ["slices.overlaps[string]", "internal/bytealg.abigen_runtime_cmpstring"], unfollowed := true, recurses := true, apart := false }
def FnKeysSortSaid : Prop := fnKeysSortRow.holds Try.pinned (OpenSpec.ofChange fnKeysSortSpec)

/-- ITS FALSE NEIGHBOUR: 'it returns false'. Refute it at one input. -/
def fnKeysSortWrong : ChangeSpec := { name := "fnKeysSort", fn := fun _ => fun
  | [d] => { results := [.lit (.bool false)], args := [d] }
  | _ => none }
def FnKeysSortWrongFalsely : Prop := fnKeysSortRow.holds Try.pinned (OpenSpec.ofChange fnKeysSortWrong)

/-- 'laws.FnKeyBegins': WHATEVER THE INPUT: true; the input reads as it did. -/
def fnKeyBeginsSpec : ChangeSpec := { name := "fnKeyBegins", fn := fun _ => fun
  | [d] => { results := [.lit (.bool true)], args := [d] }
  | _ => none }
def fnKeyBeginsRow : OpenClaim := { program := "ytipkhpijanhfiaa", sum := "f0d6fce0b8764acc1a750372819775b0bdecc619fded7a75397924cb2cca21da", func := "loop.example/temse/laws.FnKeyBegins", spec := "fnKeyBegins", apart := false }
def FnKeyBeginsSaid : Prop := fnKeyBeginsRow.holds Try.pinned (OpenSpec.ofChange fnKeyBeginsSpec)

/-- ITS FALSE NEIGHBOUR: 'it returns false'. Refute it at one input. -/
def fnKeyBeginsWrong : ChangeSpec := { name := "fnKeyBegins", fn := fun _ => fun
  | [d] => { results := [.lit (.bool false)], args := [d] }
  | _ => none }
def FnKeyBeginsWrongFalsely : Prop := fnKeyBeginsRow.holds Try.pinned (OpenSpec.ofChange fnKeyBeginsWrong)

/-- 'laws.FnKeyFirst': WHATEVER THE INPUT: true; the input reads as it did. -/
def fnKeyFirstSpec : ChangeSpec := { name := "fnKeyFirst", fn := fun _ => fun
  | [d] => { results := [.lit (.bool true)], args := [d] }
  | _ => none }
def fnKeyFirstRow : OpenClaim := { program := "ytipkhpijanhfiaa", sum := "f0d6fce0b8764acc1a750372819775b0bdecc619fded7a75397924cb2cca21da", func := "loop.example/temse/laws.FnKeyFirst", spec := "fnKeyFirst", apart := false }
def FnKeyFirstSaid : Prop := fnKeyFirstRow.holds Try.pinned (OpenSpec.ofChange fnKeyFirstSpec)

/-- ITS FALSE NEIGHBOUR: 'it returns false'. Refute it at one input. -/
def fnKeyFirstWrong : ChangeSpec := { name := "fnKeyFirst", fn := fun _ => fun
  | [d] => { results := [.lit (.bool false)], args := [d] }
  | _ => none }
def FnKeyFirstWrongFalsely : Prop := fnKeyFirstRow.holds Try.pinned (OpenSpec.ofChange fnKeyFirstWrong)

/-- 'laws.FnKeysBoth': WHATEVER THE INPUT: true; the input reads as it did. -/
def fnKeysBothSpec : ChangeSpec := { name := "fnKeysBoth", fn := fun _ => fun
  | [d1, d2] => { results := [.lit (.bool true)], args := [d1, d2] }
  | _ => none }
def fnKeysBothRow : OpenClaim := { program := "ytipkhpijanhfiaa", sum := "f0d6fce0b8764acc1a750372819775b0bdecc619fded7a75397924cb2cca21da", func := "loop.example/temse/laws.FnKeysBoth", spec := "fnKeysBoth", inPlace := ["slices.overlaps[string]", "internal/bytealg.abigen_runtime_cmpstring"], unfollowed := true, recurses := true, apart := false }
def FnKeysBothSaid : Prop := fnKeysBothRow.holds Try.pinned (OpenSpec.ofChange fnKeysBothSpec)

/-- ITS FALSE NEIGHBOUR: 'it returns false'. Refute it at one input. -/
def fnKeysBothWrong : ChangeSpec := { name := "fnKeysBoth", fn := fun _ => fun
  | [d1, d2] => { results := [.lit (.bool false)], args := [d1, d2] }
  | _ => none }
def FnKeysBothWrongFalsely : Prop := fnKeysBothRow.holds Try.pinned (OpenSpec.ofChange fnKeysBothWrong)

/-- 'laws.FnExactKeyOk': WHATEVER THE INPUT: true; the input reads as it did. -/
def fnExactKeyOkSpec : ChangeSpec := { name := "fnExactKeyOk", fn := fun _ => fun
  | [d] => { results := [.lit (.bool true)], args := [d] }
  | _ => none }
def fnExactKeyOkRow : OpenClaim := { program := "ytipkhpijanhfiaa", sum := "f0d6fce0b8764acc1a750372819775b0bdecc619fded7a75397924cb2cca21da", func := "loop.example/temse/laws.FnExactKeyOk", spec := "fnExactKeyOk", apart := false }
def FnExactKeyOkSaid : Prop := fnExactKeyOkRow.holds Try.pinned (OpenSpec.ofChange fnExactKeyOkSpec)

/-- ITS FALSE NEIGHBOUR: 'it returns false'. Refute it at one input. -/
def fnExactKeyOkWrong : ChangeSpec := { name := "fnExactKeyOk", fn := fun _ => fun
  | [d] => { results := [.lit (.bool false)], args := [d] }
  | _ => none }
def FnExactKeyOkWrongFalsely : Prop := fnExactKeyOkRow.holds Try.pinned (OpenSpec.ofChange fnExactKeyOkWrong)

/-- 'laws.FnExactKeysOk': WHATEVER THE INPUT: true; the input reads as it did. -/
def fnExactKeysOkSpec : ChangeSpec := { name := "fnExactKeysOk", fn := fun _ => fun
  | [d] => { results := [.lit (.bool true)], args := [d] }
  | _ => none }
def fnExactKeysOkRow : OpenClaim := { program := "ytipkhpijanhfiaa", sum := "f0d6fce0b8764acc1a750372819775b0bdecc619fded7a75397924cb2cca21da", func := "loop.example/temse/laws.FnExactKeysOk", spec := "fnExactKeysOk", apart := false }
def FnExactKeysOkSaid : Prop := fnExactKeysOkRow.holds Try.pinned (OpenSpec.ofChange fnExactKeysOkSpec)

/-- ITS FALSE NEIGHBOUR: 'it returns false'. Refute it at one input. -/
def fnExactKeysOkWrong : ChangeSpec := { name := "fnExactKeysOk", fn := fun _ => fun
  | [d] => { results := [.lit (.bool false)], args := [d] }
  | _ => none }
def FnExactKeysOkWrongFalsely : Prop := fnExactKeysOkRow.holds Try.pinned (OpenSpec.ofChange fnExactKeysOkWrong)

/-- 'laws.FnExactKeysSort': WHATEVER THE INPUT: true; the input reads as it did. -/
def fnExactKeysSortSpec : ChangeSpec := { name := "fnExactKeysSort", fn := fun _ => fun
  | [d] => { results := [.lit (.bool true)], args := [d] }
  | _ => none }
def fnExactKeysSortRow : OpenClaim := { program := "ytipkhpijanhfiaa", sum := "f0d6fce0b8764acc1a750372819775b0bdecc619fded7a75397924cb2cca21da", func := "loop.example/temse/laws.FnExactKeysSort", spec := "fnExactKeysSort", inPlace := ["slices.overlaps[string]", "internal/bytealg.abigen_runtime_cmpstring"], unfollowed := true, recurses := true, apart := false }
def FnExactKeysSortSaid : Prop := fnExactKeysSortRow.holds Try.pinned (OpenSpec.ofChange fnExactKeysSortSpec)

/-- ITS FALSE NEIGHBOUR: 'it returns false'. Refute it at one input. -/
def fnExactKeysSortWrong : ChangeSpec := { name := "fnExactKeysSort", fn := fun _ => fun
  | [d] => { results := [.lit (.bool false)], args := [d] }
  | _ => none }
def FnExactKeysSortWrongFalsely : Prop := fnExactKeysSortRow.holds Try.pinned (OpenSpec.ofChange fnExactKeysSortWrong)

/-- 'laws.FnExactKeyBegins': WHATEVER THE INPUT: true; the input reads as it did. -/
def fnExactKeyBeginsSpec : ChangeSpec := { name := "fnExactKeyBegins", fn := fun _ => fun
  | [d1, d2] => { results := [.lit (.bool true)], args := [d1, d2] }
  | _ => none }
def fnExactKeyBeginsRow : OpenClaim := { program := "ytipkhpijanhfiaa", sum := "f0d6fce0b8764acc1a750372819775b0bdecc619fded7a75397924cb2cca21da", func := "loop.example/temse/laws.FnExactKeyBegins", spec := "fnExactKeyBegins", apart := false }
def FnExactKeyBeginsSaid : Prop := fnExactKeyBeginsRow.holds Try.pinned (OpenSpec.ofChange fnExactKeyBeginsSpec)

/-- ITS FALSE NEIGHBOUR: 'it returns false'. Refute it at one input. -/
def fnExactKeyBeginsWrong : ChangeSpec := { name := "fnExactKeyBegins", fn := fun _ => fun
  | [d1, d2] => { results := [.lit (.bool false)], args := [d1, d2] }
  | _ => none }
def FnExactKeyBeginsWrongFalsely : Prop := fnExactKeyBeginsRow.holds Try.pinned (OpenSpec.ofChange fnExactKeyBeginsWrong)

/-- 'laws.FnExactKeyFirst': WHATEVER THE INPUT: true; the input reads as it did. -/
def fnExactKeyFirstSpec : ChangeSpec := { name := "fnExactKeyFirst", fn := fun _ => fun
  | [d1, d2] => { results := [.lit (.bool true)], args := [d1, d2] }
  | _ => none }
def fnExactKeyFirstRow : OpenClaim := { program := "ytipkhpijanhfiaa", sum := "f0d6fce0b8764acc1a750372819775b0bdecc619fded7a75397924cb2cca21da", func := "loop.example/temse/laws.FnExactKeyFirst", spec := "fnExactKeyFirst", apart := false }
def FnExactKeyFirstSaid : Prop := fnExactKeyFirstRow.holds Try.pinned (OpenSpec.ofChange fnExactKeyFirstSpec)

/-- ITS FALSE NEIGHBOUR: 'it returns false'. Refute it at one input. -/
def fnExactKeyFirstWrong : ChangeSpec := { name := "fnExactKeyFirst", fn := fun _ => fun
  | [d1, d2] => { results := [.lit (.bool false)], args := [d1, d2] }
  | _ => none }
def FnExactKeyFirstWrongFalsely : Prop := fnExactKeyFirstRow.holds Try.pinned (OpenSpec.ofChange fnExactKeyFirstWrong)

/- THE SECOND FORM. 'bulk': how many values and letters a reading holds, each counted each time it is reached (what is shared counts as often as it is met; a slice's spare places count too). A statement '..UptoSaid' is the law's where the arguments, and the package variables that the reading takes, are together of bulk at most 1048576: NARROWER than '..Said'. Prove '..Said' where nothing that the law and all that it calls make is longer than what came in: it says more and counts as full. Else prove '..UptoSaid'. A law counts once. -/
mutual
def uptoBulk {H : Type} : DataW H → Nat
  | .lit (.string bytes) => bytes.length + 1
  | .lit _ => 1
  | .nil => 1
  | .ptr d => uptoBulk d + 1
  | .slice elems spare => uptoBulkAll elems + uptoBulkAll spare + 1
  | .agg parts => uptoBulkAll parts + 1
  | .iface _ d => uptoBulk d + 1
  | .map entries => uptoBulkEntries entries + 1
  | .held _ => 1
def uptoBulkAll {H : Type} : List (DataW H) → Nat
  | [] => 0
  | d :: r => uptoBulk d + uptoBulkAll r
def uptoBulkEntries {H : Type} : List (Lit × DataW H) → Nat
  | [] => 0
  | x :: r => uptoBulkEntry x + uptoBulkEntries r
def uptoBulkEntry {H : Type} : Lit × DataW H → Nat
  | (.string bytes, d) => bytes.length + uptoBulk d + 1
  | (_, d) => uptoBulk d + 1
 end
def uptoSmall : (H : Type) → List (DataW H) → Bool := fun _ ds => decide (uptoBulkAll ds ≤ 1048576)
def OpenSpec.upto (s : _root_.Go.ChangeSpec) : _root_.Go.OpenSpec := { _root_.Go.OpenSpec.ofChange s with cond := some uptoSmall }

/-- 'laws.FnKeysOk', WHERE WHAT IT READS IS OF BULK AT MOST 1048576: true; the input reads as it did. -/
def fnKeysOkUptoRow : OpenClaim := { program := "ytipkhpijanhfiaa", sum := "f0d6fce0b8764acc1a750372819775b0bdecc619fded7a75397924cb2cca21da", func := "loop.example/temse/laws.FnKeysOk", spec := "fnKeysOk", inPlace := ["slices.overlaps[string]", "internal/bytealg.abigen_runtime_cmpstring"], unfollowed := true, recurses := true, apart := false, narrowed := true }
def FnKeysOkUptoSaid : Prop := fnKeysOkUptoRow.holds Try.pinned (OpenSpec.upto fnKeysOkSpec)

/-- 'laws.FnKeysSort', WHERE WHAT IT READS IS OF BULK AT MOST 1048576: true; the input reads as it did. -/
def fnKeysSortUptoRow : OpenClaim := { program := "ytipkhpijanhfiaa", sum := "f0d6fce0b8764acc1a750372819775b0bdecc619fded7a75397924cb2cca21da", func := "loop.example/temse/laws.FnKeysSort", spec := "fnKeysSort", inPlace := ["slices.overlaps[string]", "internal/bytealg.abigen_runtime_cmpstring"], unfollowed := true, recurses := true, apart := false, narrowed := true }
def FnKeysSortUptoSaid : Prop := fnKeysSortUptoRow.holds Try.pinned (OpenSpec.upto fnKeysSortSpec)

/-- 'laws.FnKeyBegins', WHERE WHAT IT READS IS OF BULK AT MOST 1048576: true; the input reads as it did. -/
def fnKeyBeginsUptoRow : OpenClaim := { program := "ytipkhpijanhfiaa", sum := "f0d6fce0b8764acc1a750372819775b0bdecc619fded7a75397924cb2cca21da", func := "loop.example/temse/laws.FnKeyBegins", spec := "fnKeyBegins", apart := false, narrowed := true }
def FnKeyBeginsUptoSaid : Prop := fnKeyBeginsUptoRow.holds Try.pinned (OpenSpec.upto fnKeyBeginsSpec)

/-- 'laws.FnKeyFirst', WHERE WHAT IT READS IS OF BULK AT MOST 1048576: true; the input reads as it did. -/
def fnKeyFirstUptoRow : OpenClaim := { program := "ytipkhpijanhfiaa", sum := "f0d6fce0b8764acc1a750372819775b0bdecc619fded7a75397924cb2cca21da", func := "loop.example/temse/laws.FnKeyFirst", spec := "fnKeyFirst", apart := false, narrowed := true }
def FnKeyFirstUptoSaid : Prop := fnKeyFirstUptoRow.holds Try.pinned (OpenSpec.upto fnKeyFirstSpec)

/-- 'laws.FnKeysBoth', WHERE WHAT IT READS IS OF BULK AT MOST 1048576: true; the input reads as it did. -/
def fnKeysBothUptoRow : OpenClaim := { program := "ytipkhpijanhfiaa", sum := "f0d6fce0b8764acc1a750372819775b0bdecc619fded7a75397924cb2cca21da", func := "loop.example/temse/laws.FnKeysBoth", spec := "fnKeysBoth", inPlace := ["slices.overlaps[string]", "internal/bytealg.abigen_runtime_cmpstring"], unfollowed := true, recurses := true, apart := false, narrowed := true }
def FnKeysBothUptoSaid : Prop := fnKeysBothUptoRow.holds Try.pinned (OpenSpec.upto fnKeysBothSpec)

/-- 'laws.FnExactKeyOk', WHERE WHAT IT READS IS OF BULK AT MOST 1048576: true; the input reads as it did. -/
def fnExactKeyOkUptoRow : OpenClaim := { program := "ytipkhpijanhfiaa", sum := "f0d6fce0b8764acc1a750372819775b0bdecc619fded7a75397924cb2cca21da", func := "loop.example/temse/laws.FnExactKeyOk", spec := "fnExactKeyOk", apart := false, narrowed := true }
def FnExactKeyOkUptoSaid : Prop := fnExactKeyOkUptoRow.holds Try.pinned (OpenSpec.upto fnExactKeyOkSpec)

/-- 'laws.FnExactKeysOk', WHERE WHAT IT READS IS OF BULK AT MOST 1048576: true; the input reads as it did. -/
def fnExactKeysOkUptoRow : OpenClaim := { program := "ytipkhpijanhfiaa", sum := "f0d6fce0b8764acc1a750372819775b0bdecc619fded7a75397924cb2cca21da", func := "loop.example/temse/laws.FnExactKeysOk", spec := "fnExactKeysOk", apart := false, narrowed := true }
def FnExactKeysOkUptoSaid : Prop := fnExactKeysOkUptoRow.holds Try.pinned (OpenSpec.upto fnExactKeysOkSpec)

/-- 'laws.FnExactKeysSort', WHERE WHAT IT READS IS OF BULK AT MOST 1048576: true; the input reads as it did. -/
def fnExactKeysSortUptoRow : OpenClaim := { program := "ytipkhpijanhfiaa", sum := "f0d6fce0b8764acc1a750372819775b0bdecc619fded7a75397924cb2cca21da", func := "loop.example/temse/laws.FnExactKeysSort", spec := "fnExactKeysSort", inPlace := ["slices.overlaps[string]", "internal/bytealg.abigen_runtime_cmpstring"], unfollowed := true, recurses := true, apart := false, narrowed := true }
def FnExactKeysSortUptoSaid : Prop := fnExactKeysSortUptoRow.holds Try.pinned (OpenSpec.upto fnExactKeysSortSpec)

/-- 'laws.FnExactKeyBegins', WHERE WHAT IT READS IS OF BULK AT MOST 1048576: true; the input reads as it did. -/
def fnExactKeyBeginsUptoRow : OpenClaim := { program := "ytipkhpijanhfiaa", sum := "f0d6fce0b8764acc1a750372819775b0bdecc619fded7a75397924cb2cca21da", func := "loop.example/temse/laws.FnExactKeyBegins", spec := "fnExactKeyBegins", apart := false, narrowed := true }
def FnExactKeyBeginsUptoSaid : Prop := fnExactKeyBeginsUptoRow.holds Try.pinned (OpenSpec.upto fnExactKeyBeginsSpec)

/-- 'laws.FnExactKeyFirst', WHERE WHAT IT READS IS OF BULK AT MOST 1048576: true; the input reads as it did. -/
def fnExactKeyFirstUptoRow : OpenClaim := { program := "ytipkhpijanhfiaa", sum := "f0d6fce0b8764acc1a750372819775b0bdecc619fded7a75397924cb2cca21da", func := "loop.example/temse/laws.FnExactKeyFirst", spec := "fnExactKeyFirst", apart := false, narrowed := true }
def FnExactKeyFirstUptoSaid : Prop := fnExactKeyFirstUptoRow.holds Try.pinned (OpenSpec.upto fnExactKeyFirstSpec)

end Rows
end Go.Proofs.Ytipkhpijanhfiaa
