/-
  No cell of these rows narrows 'for every input' (looked for: loops, veiled, ifaces, maps, wideKeys, modest, calm, conditions, laid).
  DERIVED. THE GIVEN ROWS OF THIS SEAT. 20 by the template 'for every input the law returns true; each argument reads behind the call as it read before'; 0 by the template 'total and deterministic' (their statements: YtfpgjkanmanajaaTotals.lean).
  GIVEN WITH THE SEED: the statements are not yours to turn. If you find one false, say at which input.
  Laid BY PROGRAM, IN A SANDBOX (cutbox-rows.mjs): the forced cells as the released guide's own fill.sh prints them over the translation f6931163fd8d738d… (all of the seat's roots in one cut). By AI agents, Wed Nov 11 2026. No macro, syntax, notation, axiom, sorry.
-/
import Derived.Test.YtfpgjkanmanajaaChecked
import GoSem.Claim
import GoSem.ClaimJoined
import GoSem.ClaimMapViews
import Derived.JoinedTies
import Derived.KernelRfl
namespace Go.Proofs.Ytfpgjkanmanajaa
/- THE CELL 'sum', in the pinned program and in every row, IS THE sha256 OF THE DUMP (.gsa) THAT YtfpgjkanmanajaaProg.lean LOADS. Nothing in Lean hashes anything: it is a label: what it is worth is what the hold of that sum in a sandbox is worth. -/
noncomputable def Try.pinned : Pinned := { name := "ytfpgjkanmanajaa", sum := "f6931163fd8d738d13b36ed43f8a45432f965701a2f3e879914ea6ffcf31e268", checked := Try.checked }
namespace Rows
def none {H : Type} : Left H := { results := [], args := [] }

/-- 'laws.FnRunOk': WHATEVER THE INPUT: true; the input reads as it did. -/
def fnRunOkSpec : ChangeSpec := { name := "fnRunOk", fn := fun _ => fun
  | [d1, d2] => { results := [.lit (.bool true)], args := [d1, d2] }
  | _ => none }
def fnRunOkRow : OpenClaim := { program := "ytfpgjkanmanajaa", sum := "f6931163fd8d738d13b36ed43f8a45432f965701a2f3e879914ea6ffcf31e268", func := "loop.example/temse/laws.FnRunOk", spec := "fnRunOk", inPlace := ["internal/bytealg.abigen_runtime_cmpstring"], unfollowed := true, recurses := true, apart := false }
def FnRunOkSaid : Prop := fnRunOkRow.holds Try.pinned (OpenSpec.ofChange fnRunOkSpec)

/-- ITS FALSE NEIGHBOUR: 'it returns false'. Refute it at one input. -/
def fnRunOkWrong : ChangeSpec := { name := "fnRunOk", fn := fun _ => fun
  | [d1, d2] => { results := [.lit (.bool false)], args := [d1, d2] }
  | _ => none }
def FnRunOkWrongFalsely : Prop := fnRunOkRow.holds Try.pinned (OpenSpec.ofChange fnRunOkWrong)

/-- 'laws.FnRunAt': WHATEVER THE INPUT: true; the input reads as it did. -/
def fnRunAtSpec : ChangeSpec := { name := "fnRunAt", fn := fun _ => fun
  | [d] => { results := [.lit (.bool true)], args := [d] }
  | _ => none }
def fnRunAtRow : OpenClaim := { program := "ytfpgjkanmanajaa", sum := "f6931163fd8d738d13b36ed43f8a45432f965701a2f3e879914ea6ffcf31e268", func := "loop.example/temse/laws.FnRunAt", spec := "fnRunAt", inPlace := ["internal/bytealg.abigen_runtime_cmpstring"], unfollowed := true, recurses := true, apart := false }
def FnRunAtSaid : Prop := fnRunAtRow.holds Try.pinned (OpenSpec.ofChange fnRunAtSpec)

/-- ITS FALSE NEIGHBOUR: 'it returns false'. Refute it at one input. -/
def fnRunAtWrong : ChangeSpec := { name := "fnRunAt", fn := fun _ => fun
  | [d] => { results := [.lit (.bool false)], args := [d] }
  | _ => none }
def FnRunAtWrongFalsely : Prop := fnRunAtRow.holds Try.pinned (OpenSpec.ofChange fnRunAtWrong)

/-- 'laws.FnRunJoin': WHATEVER THE INPUT: true; the input reads as it did. -/
def fnRunJoinSpec : ChangeSpec := { name := "fnRunJoin", fn := fun _ => fun
  | [d] => { results := [.lit (.bool true)], args := [d] }
  | _ => none }
def fnRunJoinRow : OpenClaim := { program := "ytfpgjkanmanajaa", sum := "f6931163fd8d738d13b36ed43f8a45432f965701a2f3e879914ea6ffcf31e268", func := "loop.example/temse/laws.FnRunJoin", spec := "fnRunJoin", inPlace := ["internal/bytealg.abigen_runtime_cmpstring"], unfollowed := true, recurses := true, apart := false }
def FnRunJoinSaid : Prop := fnRunJoinRow.holds Try.pinned (OpenSpec.ofChange fnRunJoinSpec)

/-- ITS FALSE NEIGHBOUR: 'it returns false'. Refute it at one input. -/
def fnRunJoinWrong : ChangeSpec := { name := "fnRunJoin", fn := fun _ => fun
  | [d] => { results := [.lit (.bool false)], args := [d] }
  | _ => none }
def FnRunJoinWrongFalsely : Prop := fnRunJoinRow.holds Try.pinned (OpenSpec.ofChange fnRunJoinWrong)

/-- 'laws.FnRunJoinAt': WHATEVER THE INPUT: true; the input reads as it did. -/
def fnRunJoinAtSpec : ChangeSpec := { name := "fnRunJoinAt", fn := fun _ => fun
  | [d1, d2] => { results := [.lit (.bool true)], args := [d1, d2] }
  | _ => none }
def fnRunJoinAtRow : OpenClaim := { program := "ytfpgjkanmanajaa", sum := "f6931163fd8d738d13b36ed43f8a45432f965701a2f3e879914ea6ffcf31e268", func := "loop.example/temse/laws.FnRunJoinAt", spec := "fnRunJoinAt", inPlace := ["internal/bytealg.abigen_runtime_cmpstring"], unfollowed := true, recurses := true, apart := false }
def FnRunJoinAtSaid : Prop := fnRunJoinAtRow.holds Try.pinned (OpenSpec.ofChange fnRunJoinAtSpec)

/-- ITS FALSE NEIGHBOUR: 'it returns false'. Refute it at one input. -/
def fnRunJoinAtWrong : ChangeSpec := { name := "fnRunJoinAt", fn := fun _ => fun
  | [d1, d2] => { results := [.lit (.bool false)], args := [d1, d2] }
  | _ => none }
def FnRunJoinAtWrongFalsely : Prop := fnRunJoinAtRow.holds Try.pinned (OpenSpec.ofChange fnRunJoinAtWrong)

/-- 'laws.FnRunJoinThree': WHATEVER THE INPUT: true; the input reads as it did. -/
def fnRunJoinThreeSpec : ChangeSpec := { name := "fnRunJoinThree", fn := fun _ => fun
  | [d1, d2] => { results := [.lit (.bool true)], args := [d1, d2] }
  | _ => none }
def fnRunJoinThreeRow : OpenClaim := { program := "ytfpgjkanmanajaa", sum := "f6931163fd8d738d13b36ed43f8a45432f965701a2f3e879914ea6ffcf31e268", func := "loop.example/temse/laws.FnRunJoinThree", spec := "fnRunJoinThree", inPlace := ["internal/bytealg.abigen_runtime_cmpstring"], unfollowed := true, recurses := true, apart := false }
def FnRunJoinThreeSaid : Prop := fnRunJoinThreeRow.holds Try.pinned (OpenSpec.ofChange fnRunJoinThreeSpec)

/-- ITS FALSE NEIGHBOUR: 'it returns false'. Refute it at one input. -/
def fnRunJoinThreeWrong : ChangeSpec := { name := "fnRunJoinThree", fn := fun _ => fun
  | [d1, d2] => { results := [.lit (.bool false)], args := [d1, d2] }
  | _ => none }
def FnRunJoinThreeWrongFalsely : Prop := fnRunJoinThreeRow.holds Try.pinned (OpenSpec.ofChange fnRunJoinThreeWrong)

/-- 'laws.FnRunTrim': WHATEVER THE INPUT: true; the input reads as it did. -/
def fnRunTrimSpec : ChangeSpec := { name := "fnRunTrim", fn := fun _ => fun
  | [d] => { results := [.lit (.bool true)], args := [d] }
  | _ => none }
def fnRunTrimRow : OpenClaim := { program := "ytfpgjkanmanajaa", sum := "f6931163fd8d738d13b36ed43f8a45432f965701a2f3e879914ea6ffcf31e268", func := "loop.example/temse/laws.FnRunTrim", spec := "fnRunTrim", inPlace := ["internal/bytealg.abigen_runtime_cmpstring"], unfollowed := true, recurses := true, apart := false }
def FnRunTrimSaid : Prop := fnRunTrimRow.holds Try.pinned (OpenSpec.ofChange fnRunTrimSpec)

/-- ITS FALSE NEIGHBOUR: 'it returns false'. Refute it at one input. -/
def fnRunTrimWrong : ChangeSpec := { name := "fnRunTrim", fn := fun _ => fun
  | [d] => { results := [.lit (.bool false)], args := [d] }
  | _ => none }
def FnRunTrimWrongFalsely : Prop := fnRunTrimRow.holds Try.pinned (OpenSpec.ofChange fnRunTrimWrong)

/-- 'laws.FnRunTrimTop': WHATEVER THE INPUT: true; the input reads as it did. -/
def fnRunTrimTopSpec : ChangeSpec := { name := "fnRunTrimTop", fn := fun _ => fun
  | [d] => { results := [.lit (.bool true)], args := [d] }
  | _ => none }
def fnRunTrimTopRow : OpenClaim := { program := "ytfpgjkanmanajaa", sum := "f6931163fd8d738d13b36ed43f8a45432f965701a2f3e879914ea6ffcf31e268", func := "loop.example/temse/laws.FnRunTrimTop", spec := "fnRunTrimTop", inPlace := ["internal/bytealg.abigen_runtime_cmpstring"], unfollowed := true, recurses := true, apart := false }
def FnRunTrimTopSaid : Prop := fnRunTrimTopRow.holds Try.pinned (OpenSpec.ofChange fnRunTrimTopSpec)

/-- ITS FALSE NEIGHBOUR: 'it returns false'. Refute it at one input. -/
def fnRunTrimTopWrong : ChangeSpec := { name := "fnRunTrimTop", fn := fun _ => fun
  | [d] => { results := [.lit (.bool false)], args := [d] }
  | _ => none }
def FnRunTrimTopWrongFalsely : Prop := fnRunTrimTopRow.holds Try.pinned (OpenSpec.ofChange fnRunTrimTopWrong)

/-- 'laws.FnRunTrimTwice': WHATEVER THE INPUT: true; the input reads as it did. -/
def fnRunTrimTwiceSpec : ChangeSpec := { name := "fnRunTrimTwice", fn := fun _ => fun
  | [d] => { results := [.lit (.bool true)], args := [d] }
  | _ => none }
def fnRunTrimTwiceRow : OpenClaim := { program := "ytfpgjkanmanajaa", sum := "f6931163fd8d738d13b36ed43f8a45432f965701a2f3e879914ea6ffcf31e268", func := "loop.example/temse/laws.FnRunTrimTwice", spec := "fnRunTrimTwice", inPlace := ["internal/bytealg.abigen_runtime_cmpstring"], unfollowed := true, recurses := true, apart := false }
def FnRunTrimTwiceSaid : Prop := fnRunTrimTwiceRow.holds Try.pinned (OpenSpec.ofChange fnRunTrimTwiceSpec)

/-- ITS FALSE NEIGHBOUR: 'it returns false'. Refute it at one input. -/
def fnRunTrimTwiceWrong : ChangeSpec := { name := "fnRunTrimTwice", fn := fun _ => fun
  | [d] => { results := [.lit (.bool false)], args := [d] }
  | _ => none }
def FnRunTrimTwiceWrongFalsely : Prop := fnRunTrimTwiceRow.holds Try.pinned (OpenSpec.ofChange fnRunTrimTwiceWrong)

/-- 'laws.FnRunKeys': WHATEVER THE INPUT: true; the input reads as it did. -/
def fnRunKeysSpec : ChangeSpec := { name := "fnRunKeys", fn := fun _ => fun
  | [d] => { results := [.lit (.bool true)], args := [d] }
  | _ => none }
def fnRunKeysRow : OpenClaim := { program := "ytfpgjkanmanajaa", sum := "f6931163fd8d738d13b36ed43f8a45432f965701a2f3e879914ea6ffcf31e268", func := "loop.example/temse/laws.FnRunKeys", spec := "fnRunKeys", inPlace := ["internal/bytealg.abigen_runtime_cmpstring", "slices.overlaps[string]"], unfollowed := true, recurses := true, apart := false }
def FnRunKeysSaid : Prop := fnRunKeysRow.holds Try.pinned (OpenSpec.ofChange fnRunKeysSpec)

/-- ITS FALSE NEIGHBOUR: 'it returns false'. Refute it at one input. -/
def fnRunKeysWrong : ChangeSpec := { name := "fnRunKeys", fn := fun _ => fun
  | [d] => { results := [.lit (.bool false)], args := [d] }
  | _ => none }
def FnRunKeysWrongFalsely : Prop := fnRunKeysRow.holds Try.pinned (OpenSpec.ofChange fnRunKeysWrong)

/-- 'laws.FnRunList': WHATEVER THE INPUT: true; the input reads as it did. -/
def fnRunListSpec : ChangeSpec := { name := "fnRunList", fn := fun _ => fun
  | [d] => { results := [.lit (.bool true)], args := [d] }
  | _ => none }
def fnRunListRow : OpenClaim := { program := "ytfpgjkanmanajaa", sum := "f6931163fd8d738d13b36ed43f8a45432f965701a2f3e879914ea6ffcf31e268", func := "loop.example/temse/laws.FnRunList", spec := "fnRunList", inPlace := ["internal/bytealg.abigen_runtime_cmpstring"], unfollowed := true, recurses := true, apart := false }
def FnRunListSaid : Prop := fnRunListRow.holds Try.pinned (OpenSpec.ofChange fnRunListSpec)

/-- ITS FALSE NEIGHBOUR: 'it returns false'. Refute it at one input. -/
def fnRunListWrong : ChangeSpec := { name := "fnRunList", fn := fun _ => fun
  | [d] => { results := [.lit (.bool false)], args := [d] }
  | _ => none }
def FnRunListWrongFalsely : Prop := fnRunListRow.holds Try.pinned (OpenSpec.ofChange fnRunListWrong)

/-- 'laws.FnRunListCut': WHATEVER THE INPUT: true; the input reads as it did. -/
def fnRunListCutSpec : ChangeSpec := { name := "fnRunListCut", fn := fun _ => fun
  | [d1, d2] => { results := [.lit (.bool true)], args := [d1, d2] }
  | _ => none }
def fnRunListCutRow : OpenClaim := { program := "ytfpgjkanmanajaa", sum := "f6931163fd8d738d13b36ed43f8a45432f965701a2f3e879914ea6ffcf31e268", func := "loop.example/temse/laws.FnRunListCut", spec := "fnRunListCut", inPlace := ["internal/bytealg.abigen_runtime_cmpstring"], unfollowed := true, recurses := true, apart := false }
def FnRunListCutSaid : Prop := fnRunListCutRow.holds Try.pinned (OpenSpec.ofChange fnRunListCutSpec)

/-- ITS FALSE NEIGHBOUR: 'it returns false'. Refute it at one input. -/
def fnRunListCutWrong : ChangeSpec := { name := "fnRunListCut", fn := fun _ => fun
  | [d1, d2] => { results := [.lit (.bool false)], args := [d1, d2] }
  | _ => none }
def FnRunListCutWrongFalsely : Prop := fnRunListCutRow.holds Try.pinned (OpenSpec.ofChange fnRunListCutWrong)

/-- 'laws.FnRunAtMore': WHATEVER THE INPUT: true; the input reads as it did. -/
def fnRunAtMoreSpec : ChangeSpec := { name := "fnRunAtMore", fn := fun _ => fun
  | [d1, d2] => { results := [.lit (.bool true)], args := [d1, d2] }
  | _ => none }
def fnRunAtMoreRow : OpenClaim := { program := "ytfpgjkanmanajaa", sum := "f6931163fd8d738d13b36ed43f8a45432f965701a2f3e879914ea6ffcf31e268", func := "loop.example/temse/laws.FnRunAtMore", spec := "fnRunAtMore", inPlace := ["internal/bytealg.abigen_runtime_cmpstring"], unfollowed := true, recurses := true, apart := false }
def FnRunAtMoreSaid : Prop := fnRunAtMoreRow.holds Try.pinned (OpenSpec.ofChange fnRunAtMoreSpec)

/-- ITS FALSE NEIGHBOUR: 'it returns false'. Refute it at one input. -/
def fnRunAtMoreWrong : ChangeSpec := { name := "fnRunAtMore", fn := fun _ => fun
  | [d1, d2] => { results := [.lit (.bool false)], args := [d1, d2] }
  | _ => none }
def FnRunAtMoreWrongFalsely : Prop := fnRunAtMoreRow.holds Try.pinned (OpenSpec.ofChange fnRunAtMoreWrong)

/-- 'laws.FnRunListTime': WHATEVER THE INPUT: true; the input reads as it did. -/
def fnRunListTimeSpec : ChangeSpec := { name := "fnRunListTime", fn := fun _ => fun
  | [d] => { results := [.lit (.bool true)], args := [d] }
  | _ => none }
def fnRunListTimeRow : OpenClaim := { program := "ytfpgjkanmanajaa", sum := "f6931163fd8d738d13b36ed43f8a45432f965701a2f3e879914ea6ffcf31e268", func := "loop.example/temse/laws.FnRunListTime", spec := "fnRunListTime", inPlace := ["internal/bytealg.abigen_runtime_cmpstring"], unfollowed := true, recurses := true, apart := false }
def FnRunListTimeSaid : Prop := fnRunListTimeRow.holds Try.pinned (OpenSpec.ofChange fnRunListTimeSpec)

/-- ITS FALSE NEIGHBOUR: 'it returns false'. Refute it at one input. -/
def fnRunListTimeWrong : ChangeSpec := { name := "fnRunListTime", fn := fun _ => fun
  | [d] => { results := [.lit (.bool false)], args := [d] }
  | _ => none }
def FnRunListTimeWrongFalsely : Prop := fnRunListTimeRow.holds Try.pinned (OpenSpec.ofChange fnRunListTimeWrong)

/-- 'laws.FnExactRunOk': WHATEVER THE INPUT: true; the input reads as it did. -/
def fnExactRunOkSpec : ChangeSpec := { name := "fnExactRunOk", fn := fun _ => fun
  | [d] => { results := [.lit (.bool true)], args := [d] }
  | _ => none }
def fnExactRunOkRow : OpenClaim := { program := "ytfpgjkanmanajaa", sum := "f6931163fd8d738d13b36ed43f8a45432f965701a2f3e879914ea6ffcf31e268", func := "loop.example/temse/laws.FnExactRunOk", spec := "fnExactRunOk", inPlace := ["internal/bytealg.abigen_runtime_cmpstring"], unfollowed := true, recurses := true, apart := false }
def FnExactRunOkSaid : Prop := fnExactRunOkRow.holds Try.pinned (OpenSpec.ofChange fnExactRunOkSpec)

/-- ITS FALSE NEIGHBOUR: 'it returns false'. Refute it at one input. -/
def fnExactRunOkWrong : ChangeSpec := { name := "fnExactRunOk", fn := fun _ => fun
  | [d] => { results := [.lit (.bool false)], args := [d] }
  | _ => none }
def FnExactRunOkWrongFalsely : Prop := fnExactRunOkRow.holds Try.pinned (OpenSpec.ofChange fnExactRunOkWrong)

/-- 'laws.FnExactRunAt': WHATEVER THE INPUT: true; the input reads as it did. -/
def fnExactRunAtSpec : ChangeSpec := { name := "fnExactRunAt", fn := fun _ => fun
  | [d1, d2, d3] => { results := [.lit (.bool true)], args := [d1, d2, d3] }
  | _ => none }
def fnExactRunAtRow : OpenClaim := { program := "ytfpgjkanmanajaa", sum := "f6931163fd8d738d13b36ed43f8a45432f965701a2f3e879914ea6ffcf31e268", func := "loop.example/temse/laws.FnExactRunAt", spec := "fnExactRunAt", inPlace := ["internal/bytealg.abigen_runtime_cmpstring"], unfollowed := true, recurses := true, apart := false }
def FnExactRunAtSaid : Prop := fnExactRunAtRow.holds Try.pinned (OpenSpec.ofChange fnExactRunAtSpec)

/-- ITS FALSE NEIGHBOUR: 'it returns false'. Refute it at one input. -/
def fnExactRunAtWrong : ChangeSpec := { name := "fnExactRunAt", fn := fun _ => fun
  | [d1, d2, d3] => { results := [.lit (.bool false)], args := [d1, d2, d3] }
  | _ => none }
def FnExactRunAtWrongFalsely : Prop := fnExactRunAtRow.holds Try.pinned (OpenSpec.ofChange fnExactRunAtWrong)

/-- 'laws.FnExactRunJoin': WHATEVER THE INPUT: true; the input reads as it did. -/
def fnExactRunJoinSpec : ChangeSpec := { name := "fnExactRunJoin", fn := fun _ => fun
  | [d1, d2] => { results := [.lit (.bool true)], args := [d1, d2] }
  | _ => none }
def fnExactRunJoinRow : OpenClaim := { program := "ytfpgjkanmanajaa", sum := "f6931163fd8d738d13b36ed43f8a45432f965701a2f3e879914ea6ffcf31e268", func := "loop.example/temse/laws.FnExactRunJoin", spec := "fnExactRunJoin", inPlace := ["internal/bytealg.abigen_runtime_cmpstring"], unfollowed := true, recurses := true, apart := false }
def FnExactRunJoinSaid : Prop := fnExactRunJoinRow.holds Try.pinned (OpenSpec.ofChange fnExactRunJoinSpec)

/-- ITS FALSE NEIGHBOUR: 'it returns false'. Refute it at one input. -/
def fnExactRunJoinWrong : ChangeSpec := { name := "fnExactRunJoin", fn := fun _ => fun
  | [d1, d2] => { results := [.lit (.bool false)], args := [d1, d2] }
  | _ => none }
def FnExactRunJoinWrongFalsely : Prop := fnExactRunJoinRow.holds Try.pinned (OpenSpec.ofChange fnExactRunJoinWrong)

/-- 'laws.FnExactRunTrim': WHATEVER THE INPUT: true; the input reads as it did. -/
def fnExactRunTrimSpec : ChangeSpec := { name := "fnExactRunTrim", fn := fun _ => fun
  | [d1, d2, d3] => { results := [.lit (.bool true)], args := [d1, d2, d3] }
  | _ => none }
def fnExactRunTrimRow : OpenClaim := { program := "ytfpgjkanmanajaa", sum := "f6931163fd8d738d13b36ed43f8a45432f965701a2f3e879914ea6ffcf31e268", func := "loop.example/temse/laws.FnExactRunTrim", spec := "fnExactRunTrim", inPlace := ["internal/bytealg.abigen_runtime_cmpstring"], unfollowed := true, recurses := true, apart := false }
def FnExactRunTrimSaid : Prop := fnExactRunTrimRow.holds Try.pinned (OpenSpec.ofChange fnExactRunTrimSpec)

/-- ITS FALSE NEIGHBOUR: 'it returns false'. Refute it at one input. -/
def fnExactRunTrimWrong : ChangeSpec := { name := "fnExactRunTrim", fn := fun _ => fun
  | [d1, d2, d3] => { results := [.lit (.bool false)], args := [d1, d2, d3] }
  | _ => none }
def FnExactRunTrimWrongFalsely : Prop := fnExactRunTrimRow.holds Try.pinned (OpenSpec.ofChange fnExactRunTrimWrong)

/-- 'laws.FnExactRunKeys': WHATEVER THE INPUT: true; the input reads as it did. -/
def fnExactRunKeysSpec : ChangeSpec := { name := "fnExactRunKeys", fn := fun _ => fun
  | [d] => { results := [.lit (.bool true)], args := [d] }
  | _ => none }
def fnExactRunKeysRow : OpenClaim := { program := "ytfpgjkanmanajaa", sum := "f6931163fd8d738d13b36ed43f8a45432f965701a2f3e879914ea6ffcf31e268", func := "loop.example/temse/laws.FnExactRunKeys", spec := "fnExactRunKeys", inPlace := ["internal/bytealg.abigen_runtime_cmpstring"], unfollowed := true, recurses := true, apart := false }
def FnExactRunKeysSaid : Prop := fnExactRunKeysRow.holds Try.pinned (OpenSpec.ofChange fnExactRunKeysSpec)

/-- ITS FALSE NEIGHBOUR: 'it returns false'. Refute it at one input. -/
def fnExactRunKeysWrong : ChangeSpec := { name := "fnExactRunKeys", fn := fun _ => fun
  | [d] => { results := [.lit (.bool false)], args := [d] }
  | _ => none }
def FnExactRunKeysWrongFalsely : Prop := fnExactRunKeysRow.holds Try.pinned (OpenSpec.ofChange fnExactRunKeysWrong)

/-- 'laws.FnExactRunList': WHATEVER THE INPUT: true; the input reads as it did. -/
def fnExactRunListSpec : ChangeSpec := { name := "fnExactRunList", fn := fun _ => fun
  | [d1, d2, d3, d4] => { results := [.lit (.bool true)], args := [d1, d2, d3, d4] }
  | _ => none }
def fnExactRunListRow : OpenClaim := { program := "ytfpgjkanmanajaa", sum := "f6931163fd8d738d13b36ed43f8a45432f965701a2f3e879914ea6ffcf31e268", func := "loop.example/temse/laws.FnExactRunList", spec := "fnExactRunList", inPlace := ["internal/bytealg.abigen_runtime_cmpstring"], unfollowed := true, recurses := true, apart := false }
def FnExactRunListSaid : Prop := fnExactRunListRow.holds Try.pinned (OpenSpec.ofChange fnExactRunListSpec)

/-- ITS FALSE NEIGHBOUR: 'it returns false'. Refute it at one input. -/
def fnExactRunListWrong : ChangeSpec := { name := "fnExactRunList", fn := fun _ => fun
  | [d1, d2, d3, d4] => { results := [.lit (.bool false)], args := [d1, d2, d3, d4] }
  | _ => none }
def FnExactRunListWrongFalsely : Prop := fnExactRunListRow.holds Try.pinned (OpenSpec.ofChange fnExactRunListWrong)

/-- 'laws.FnExactPastGet': WHATEVER THE INPUT: true; the input reads as it did. -/
def fnExactPastGetSpec : ChangeSpec := { name := "fnExactPastGet", fn := fun _ => fun
  | [d1, d2, d3] => { results := [.lit (.bool true)], args := [d1, d2, d3] }
  | _ => none }
def fnExactPastGetRow : OpenClaim := { program := "ytfpgjkanmanajaa", sum := "f6931163fd8d738d13b36ed43f8a45432f965701a2f3e879914ea6ffcf31e268", func := "loop.example/temse/laws.FnExactPastGet", spec := "fnExactPastGet", unfollowed := true, recurses := true, apart := false }
def FnExactPastGetSaid : Prop := fnExactPastGetRow.holds Try.pinned (OpenSpec.ofChange fnExactPastGetSpec)

/-- ITS FALSE NEIGHBOUR: 'it returns false'. Refute it at one input. -/
def fnExactPastGetWrong : ChangeSpec := { name := "fnExactPastGet", fn := fun _ => fun
  | [d1, d2, d3] => { results := [.lit (.bool false)], args := [d1, d2, d3] }
  | _ => none }
def FnExactPastGetWrongFalsely : Prop := fnExactPastGetRow.holds Try.pinned (OpenSpec.ofChange fnExactPastGetWrong)

/- THE SECOND FORM. 'bulk': how many values and letters a reading holds, each counted each time it is reached (what is shared counts as often as it is met; a slice's spare places count too). A statement '..UptoSaid' is the law's where the arguments, and the package variables that the reading takes, are together of bulk at most 1048576: NARROWER than '..Said'. Prove '..Said' where nothing that the law and all that it calls make is longer than what came in: it says more and counts as full. Else prove '..UptoSaid'. A law counts once. -/
mutual
def uptoBulk {H : Type} : DataW H → Nat
  | .lit (.string bytes) => bytes.length + 1
  | .lit _ => 1
  | .nil => 1
  | .ptr d => uptoBulk d + 1
  | .slice elems spare => uptoBulkAll elems + uptoBulkAll spare + 1
  | .agg parts => uptoBulkAll parts + 1
  | .iface _ d => uptoBulk d + 1
  | .map entries => uptoBulkEntries entries + 1
  | .held _ => 1
def uptoBulkAll {H : Type} : List (DataW H) → Nat
  | [] => 0
  | d :: r => uptoBulk d + uptoBulkAll r
def uptoBulkEntries {H : Type} : List (Lit × DataW H) → Nat
  | [] => 0
  | x :: r => uptoBulkEntry x + uptoBulkEntries r
def uptoBulkEntry {H : Type} : Lit × DataW H → Nat
  | (.string bytes, d) => bytes.length + uptoBulk d + 1
  | (_, d) => uptoBulk d + 1
 end
def uptoSmall : (H : Type) → List (DataW H) → Bool := fun _ ds => decide (uptoBulkAll ds ≤ 1048576)
def OpenSpec.upto (s : _root_.Go.ChangeSpec) : _root_.Go.OpenSpec := { _root_.Go.OpenSpec.ofChange s with cond := some uptoSmall }

/-- 'laws.FnRunOk', WHERE WHAT IT READS IS OF BULK AT MOST 1048576: true; the input reads as it did. -/
def fnRunOkUptoRow : OpenClaim := { program := "ytfpgjkanmanajaa", sum := "f6931163fd8d738d13b36ed43f8a45432f965701a2f3e879914ea6ffcf31e268", func := "loop.example/temse/laws.FnRunOk", spec := "fnRunOk", inPlace := ["internal/bytealg.abigen_runtime_cmpstring"], unfollowed := true, recurses := true, apart := false, narrowed := true }
def FnRunOkUptoSaid : Prop := fnRunOkUptoRow.holds Try.pinned (OpenSpec.upto fnRunOkSpec)

/-- 'laws.FnRunAt', WHERE WHAT IT READS IS OF BULK AT MOST 1048576: true; the input reads as it did. -/
def fnRunAtUptoRow : OpenClaim := { program := "ytfpgjkanmanajaa", sum := "f6931163fd8d738d13b36ed43f8a45432f965701a2f3e879914ea6ffcf31e268", func := "loop.example/temse/laws.FnRunAt", spec := "fnRunAt", inPlace := ["internal/bytealg.abigen_runtime_cmpstring"], unfollowed := true, recurses := true, apart := false, narrowed := true }
def FnRunAtUptoSaid : Prop := fnRunAtUptoRow.holds Try.pinned (OpenSpec.upto fnRunAtSpec)

/-- 'laws.FnRunJoin', WHERE WHAT IT READS IS OF BULK AT MOST 1048576: true; the input reads as it did. -/
def fnRunJoinUptoRow : OpenClaim := { program := "ytfpgjkanmanajaa", sum := "f6931163fd8d738d13b36ed43f8a45432f965701a2f3e879914ea6ffcf31e268", func := "loop.example/temse/laws.FnRunJoin", spec := "fnRunJoin", inPlace := ["internal/bytealg.abigen_runtime_cmpstring"], unfollowed := true, recurses := true, apart := false, narrowed := true }
def FnRunJoinUptoSaid : Prop := fnRunJoinUptoRow.holds Try.pinned (OpenSpec.upto fnRunJoinSpec)

/-- 'laws.FnRunJoinAt', WHERE WHAT IT READS IS OF BULK AT MOST 1048576: true; the input reads as it did. -/
def fnRunJoinAtUptoRow : OpenClaim := { program := "ytfpgjkanmanajaa", sum := "f6931163fd8d738d13b36ed43f8a45432f965701a2f3e879914ea6ffcf31e268", func := "loop.example/temse/laws.FnRunJoinAt", spec := "fnRunJoinAt", inPlace := ["internal/bytealg.abigen_runtime_cmpstring"], unfollowed := true, recurses := true, apart := false, narrowed := true }
def FnRunJoinAtUptoSaid : Prop := fnRunJoinAtUptoRow.holds Try.pinned (OpenSpec.upto fnRunJoinAtSpec)

/-- 'laws.FnRunJoinThree', WHERE WHAT IT READS IS OF BULK AT MOST 1048576: true; the input reads as it did. -/
def fnRunJoinThreeUptoRow : OpenClaim := { program := "ytfpgjkanmanajaa", sum := "f6931163fd8d738d13b36ed43f8a45432f965701a2f3e879914ea6ffcf31e268", func := "loop.example/temse/laws.FnRunJoinThree", spec := "fnRunJoinThree", inPlace := ["internal/bytealg.abigen_runtime_cmpstring"], unfollowed := true, recurses := true, apart := false, narrowed := true }
def FnRunJoinThreeUptoSaid : Prop := fnRunJoinThreeUptoRow.holds Try.pinned (OpenSpec.upto fnRunJoinThreeSpec)

/-- 'laws.FnRunTrim', WHERE WHAT IT READS IS OF BULK AT MOST 1048576: true; the input reads as it did. -/
def fnRunTrimUptoRow : OpenClaim := { program := "ytfpgjkanmanajaa", sum := "f6931163fd8d738d13b36ed43f8a45432f965701a2f3e879914ea6ffcf31e268", func := "loop.example/temse/laws.FnRunTrim", spec := "fnRunTrim", inPlace := ["internal/bytealg.abigen_runtime_cmpstring"], unfollowed := true, recurses := true, apart := false, narrowed := true }
def FnRunTrimUptoSaid : Prop := fnRunTrimUptoRow.holds Try.pinned (OpenSpec.upto fnRunTrimSpec)

/-- 'laws.FnRunTrimTop', WHERE WHAT IT READS IS OF BULK AT MOST 1048576: true; the input reads as it did. -/
def fnRunTrimTopUptoRow : OpenClaim := { program := "ytfpgjkanmanajaa", sum := "f6931163fd8d738d13b36ed43f8a45432f965701a2f3e879914ea6ffcf31e268", func := "loop.example/temse/laws.FnRunTrimTop", spec := "fnRunTrimTop", inPlace := ["internal/bytealg.abigen_runtime_cmpstring"], unfollowed := true, recurses := true, apart := false, narrowed := true }
def FnRunTrimTopUptoSaid : Prop := fnRunTrimTopUptoRow.holds Try.pinned (OpenSpec.upto fnRunTrimTopSpec)

/-- 'laws.FnRunTrimTwice', WHERE WHAT IT READS IS OF BULK AT MOST 1048576: true; the input reads as it did. -/
def fnRunTrimTwiceUptoRow : OpenClaim := { program := "ytfpgjkanmanajaa", sum := "f6931163fd8d738d13b36ed43f8a45432f965701a2f3e879914ea6ffcf31e268", func := "loop.example/temse/laws.FnRunTrimTwice", spec := "fnRunTrimTwice", inPlace := ["internal/bytealg.abigen_runtime_cmpstring"], unfollowed := true, recurses := true, apart := false, narrowed := true }
def FnRunTrimTwiceUptoSaid : Prop := fnRunTrimTwiceUptoRow.holds Try.pinned (OpenSpec.upto fnRunTrimTwiceSpec)

/-- 'laws.FnRunKeys', WHERE WHAT IT READS IS OF BULK AT MOST 1048576: true; the input reads as it did. -/
def fnRunKeysUptoRow : OpenClaim := { program := "ytfpgjkanmanajaa", sum := "f6931163fd8d738d13b36ed43f8a45432f965701a2f3e879914ea6ffcf31e268", func := "loop.example/temse/laws.FnRunKeys", spec := "fnRunKeys", inPlace := ["internal/bytealg.abigen_runtime_cmpstring", "slices.overlaps[string]"], unfollowed := true, recurses := true, apart := false, narrowed := true }
def FnRunKeysUptoSaid : Prop := fnRunKeysUptoRow.holds Try.pinned (OpenSpec.upto fnRunKeysSpec)

/-- 'laws.FnRunList', WHERE WHAT IT READS IS OF BULK AT MOST 1048576: true; the input reads as it did. -/
def fnRunListUptoRow : OpenClaim := { program := "ytfpgjkanmanajaa", sum := "f6931163fd8d738d13b36ed43f8a45432f965701a2f3e879914ea6ffcf31e268", func := "loop.example/temse/laws.FnRunList", spec := "fnRunList", inPlace := ["internal/bytealg.abigen_runtime_cmpstring"], unfollowed := true, recurses := true, apart := false, narrowed := true }
def FnRunListUptoSaid : Prop := fnRunListUptoRow.holds Try.pinned (OpenSpec.upto fnRunListSpec)

/-- 'laws.FnRunListCut', WHERE WHAT IT READS IS OF BULK AT MOST 1048576: true; the input reads as it did. -/
def fnRunListCutUptoRow : OpenClaim := { program := "ytfpgjkanmanajaa", sum := "f6931163fd8d738d13b36ed43f8a45432f965701a2f3e879914ea6ffcf31e268", func := "loop.example/temse/laws.FnRunListCut", spec := "fnRunListCut", inPlace := ["internal/bytealg.abigen_runtime_cmpstring"], unfollowed := true, recurses := true, apart := false, narrowed := true }
def FnRunListCutUptoSaid : Prop := fnRunListCutUptoRow.holds Try.pinned (OpenSpec.upto fnRunListCutSpec)

/-- 'laws.FnRunAtMore', WHERE WHAT IT READS IS OF BULK AT MOST 1048576: true; the input reads as it did. -/
def fnRunAtMoreUptoRow : OpenClaim := { program := "ytfpgjkanmanajaa", sum := "f6931163fd8d738d13b36ed43f8a45432f965701a2f3e879914ea6ffcf31e268", func := "loop.example/temse/laws.FnRunAtMore", spec := "fnRunAtMore", inPlace := ["internal/bytealg.abigen_runtime_cmpstring"], unfollowed := true, recurses := true, apart := false, narrowed := true }
def FnRunAtMoreUptoSaid : Prop := fnRunAtMoreUptoRow.holds Try.pinned (OpenSpec.upto fnRunAtMoreSpec)

/-- 'laws.FnRunListTime', WHERE WHAT IT READS IS OF BULK AT MOST 1048576: true; the input reads as it did. -/
def fnRunListTimeUptoRow : OpenClaim := { program := "ytfpgjkanmanajaa", sum := "f6931163fd8d738d13b36ed43f8a45432f965701a2f3e879914ea6ffcf31e268", func := "loop.example/temse/laws.FnRunListTime", spec := "fnRunListTime", inPlace := ["internal/bytealg.abigen_runtime_cmpstring"], unfollowed := true, recurses := true, apart := false, narrowed := true }
def FnRunListTimeUptoSaid : Prop := fnRunListTimeUptoRow.holds Try.pinned (OpenSpec.upto fnRunListTimeSpec)

/-- 'laws.FnExactRunOk', WHERE WHAT IT READS IS OF BULK AT MOST 1048576: true; the input reads as it did. -/
def fnExactRunOkUptoRow : OpenClaim := { program := "ytfpgjkanmanajaa", sum := "f6931163fd8d738d13b36ed43f8a45432f965701a2f3e879914ea6ffcf31e268", func := "loop.example/temse/laws.FnExactRunOk", spec := "fnExactRunOk", inPlace := ["internal/bytealg.abigen_runtime_cmpstring"], unfollowed := true, recurses := true, apart := false, narrowed := true }
def FnExactRunOkUptoSaid : Prop := fnExactRunOkUptoRow.holds Try.pinned (OpenSpec.upto fnExactRunOkSpec)

/-- 'laws.FnExactRunAt', WHERE WHAT IT READS IS OF BULK AT MOST 1048576: true; the input reads as it did. -/
def fnExactRunAtUptoRow : OpenClaim := { program := "ytfpgjkanmanajaa", sum := "f6931163fd8d738d13b36ed43f8a45432f965701a2f3e879914ea6ffcf31e268", func := "loop.example/temse/laws.FnExactRunAt", spec := "fnExactRunAt", inPlace := ["internal/bytealg.abigen_runtime_cmpstring"], unfollowed := true, recurses := true, apart := false, narrowed := true }
def FnExactRunAtUptoSaid : Prop := fnExactRunAtUptoRow.holds Try.pinned (OpenSpec.upto fnExactRunAtSpec)

/-- 'laws.FnExactRunJoin', WHERE WHAT IT READS IS OF BULK AT MOST 1048576: true; the input reads as it did. -/
def fnExactRunJoinUptoRow : OpenClaim := { program := "ytfpgjkanmanajaa", sum := "f6931163fd8d738d13b36ed43f8a45432f965701a2f3e879914ea6ffcf31e268", func := "loop.example/temse/laws.FnExactRunJoin", spec := "fnExactRunJoin", inPlace := ["internal/bytealg.abigen_runtime_cmpstring"], unfollowed := true, recurses := true, apart := false, narrowed := true }
def FnExactRunJoinUptoSaid : Prop := fnExactRunJoinUptoRow.holds Try.pinned (OpenSpec.upto fnExactRunJoinSpec)

/-- 'laws.FnExactRunTrim', WHERE WHAT IT READS IS OF BULK AT MOST 1048576: true; the input reads as it did. -/
def fnExactRunTrimUptoRow : OpenClaim := { program := "ytfpgjkanmanajaa", sum := "f6931163fd8d738d13b36ed43f8a45432f965701a2f3e879914ea6ffcf31e268", func := "loop.example/temse/laws.FnExactRunTrim", spec := "fnExactRunTrim", inPlace := ["internal/bytealg.abigen_runtime_cmpstring"], unfollowed := true, recurses := true, apart := false, narrowed := true }
def FnExactRunTrimUptoSaid : Prop := fnExactRunTrimUptoRow.holds Try.pinned (OpenSpec.upto fnExactRunTrimSpec)

/-- 'laws.FnExactRunKeys', WHERE WHAT IT READS IS OF BULK AT MOST 1048576: true; the input reads as it did. -/
def fnExactRunKeysUptoRow : OpenClaim := { program := "ytfpgjkanmanajaa", sum := "f6931163fd8d738d13b36ed43f8a45432f965701a2f3e879914ea6ffcf31e268", func := "loop.example/temse/laws.FnExactRunKeys", spec := "fnExactRunKeys", inPlace := ["internal/bytealg.abigen_runtime_cmpstring"], unfollowed := true, recurses := true, apart := false, narrowed := true }
def FnExactRunKeysUptoSaid : Prop := fnExactRunKeysUptoRow.holds Try.pinned (OpenSpec.upto fnExactRunKeysSpec)

/-- 'laws.FnExactRunList', WHERE WHAT IT READS IS OF BULK AT MOST 1048576: true; the input reads as it did. -/
def fnExactRunListUptoRow : OpenClaim := { program := "ytfpgjkanmanajaa", sum := "f6931163fd8d738d13b36ed43f8a45432f965701a2f3e879914ea6ffcf31e268", func := "loop.example/temse/laws.FnExactRunList", spec := "fnExactRunList", inPlace := ["internal/bytealg.abigen_runtime_cmpstring"], unfollowed := true, recurses := true, apart := false, narrowed := true }
def FnExactRunListUptoSaid : Prop := fnExactRunListUptoRow.holds Try.pinned (OpenSpec.upto fnExactRunListSpec)

/-- 'laws.FnExactPastGet', WHERE WHAT IT READS IS OF BULK AT MOST 1048576: true; the input reads as it did. -/
def fnExactPastGetUptoRow : OpenClaim := { program := "ytfpgjkanmanajaa", sum := "f6931163fd8d738d13b36ed43f8a45432f965701a2f3e879914ea6ffcf31e268", func := "loop.example/temse/laws.FnExactPastGet", spec := "fnExactPastGet", unfollowed := true, recurses := true, apart := false, narrowed := true }
def FnExactPastGetUptoSaid : Prop := fnExactPastGetUptoRow.holds Try.pinned (OpenSpec.upto fnExactPastGetSpec)

end Rows
end Go.Proofs.Ytfpgjkanmanajaa
