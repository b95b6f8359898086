/-
  NARROWER THAN 'FOR EVERY INPUT', by the rows' own cells (each row's printed sentence says how): FnExactStoreHold: ifaces, laid · FnExactStoreFree: ifaces, laid · FnExactStoreDown: ifaces, laid · FnExactStoreJoin: ifaces, laid · FnExactStoreGet: ifaces, laid · FnExactStoreList: ifaces, laid · FnExactStoreLooks: ifaces, laid · FnExactStoreSpans: ifaces, laid.
  DERIVED. THE GIVEN ROWS OF THIS SEAT. 8 by the template 'for every input the law returns true; each argument reads behind the call as it read before'; 0 by the template 'total and deterministic' (their statements: YtfhpkcamigkmdaaGreatDoorTotals.lean).
  GIVEN WITH THE SEED: the statements are not yours to turn. If you find one false, say at which input.
  Laid BY PROGRAM, IN A SANDBOX (cutbox-rows.mjs): the forced cells as the released guide's own fill.sh prints them over the translation 10fffe09dea75bb2… (all of the seat's roots in one cut). By AI agents, Wed Nov 11 2026. No macro, syntax, notation, axiom, sorry.
-/
import Derived.Test.YtfhpkcamigkmdaaGreatDoorChecked
import GoSem.Claim
import GoSem.ClaimJoined
import GoSem.ClaimMapViews
import Derived.JoinedTies
import Derived.KernelRfl
namespace Go.Proofs.YtfhpkcamigkmdaaGreatDoor
/- THE CELL 'sum', in the pinned program and in every row, IS THE sha256 OF THE DUMP (.gsa) THAT YtfhpkcamigkmdaaGreatDoorProg.lean LOADS. Nothing in Lean hashes anything: it is a label: what it is worth is what the hold of that sum in a sandbox is worth. -/
noncomputable def Tryz.pinned : Pinned := { name := "ytfhpkcamigkmdaagreatdoor", sum := "10fffe09dea75bb25db36139cfca5544bfc7ef1bbfb3c84dc53568e48263aa9a", checked := Tryz.checked }
namespace Rows
def none {H : Type} : Left H := { results := [], args := [] }

/- WHAT THE LISTED PACKAGE-LEVEL VARIABLES READ AS WHEN THE CALL BEGINS. Each datum BY PROGRAM (the guide's laid-datum.mjs) off the statement by which the dump's own 'gosem.cut.vars' lays the variable. In a bare row this is a premise. The card (YtfhpkcamigkmdaaGreatDoorCards.lean) ties it to the program's text. -/
def laid_loop_example_temse_impl_errNoRoom {H : Type} : DataW H := .iface "*errors.errorString" (.ptr (.agg [.lit (.string [110, 111, 32, 114, 111, 111, 109])]))
def laid_loop_example_temse_impl_errNotThere {H : Type} : DataW H := .iface "*errors.errorString" (.ptr (.agg [.lit (.string [110, 111, 116, 32, 116, 104, 101, 114, 101])]))

/-- 'laws.FnExactStoreHold': WHATEVER THE INPUT: true; the input reads as it did. -/
def fnExactStoreHoldSpec : ChangeSpec := { name := "fnExactStoreHold", vars := ["loop.example/temse/impl.errNoRoom"], fn := fun _ => fun
  | [d, g1] => { results := [.lit (.bool true)], args := [d], vars := [g1] }
  | _ => none }
def fnExactStoreHoldRow : OpenClaim := { program := "ytfhpkcamigkmdaagreatdoor", sum := "10fffe09dea75bb25db36139cfca5544bfc7ef1bbfb3c84dc53568e48263aa9a", func := "loop.example/temse/laws.FnExactStoreHold", spec := "fnExactStoreHold", inPlace := ["internal/bytealg.abigen_runtime_cmpstring", "internal/abi.NoEscape"], unfollowed := true, recurses := true, named := ["loop.example/temse/impl.errNoRoom"], ifaces := true, apart := false, laid := [("loop.example/temse/impl.errNoRoom", laid_loop_example_temse_impl_errNoRoom)] }
def FnExactStoreHoldSaid : Prop := fnExactStoreHoldRow.holds Tryz.pinned (OpenSpec.ofChange fnExactStoreHoldSpec)

/-- ITS FALSE NEIGHBOUR: 'it returns false'. Refute it at one input. -/
def fnExactStoreHoldWrong : ChangeSpec := { name := "fnExactStoreHold", vars := ["loop.example/temse/impl.errNoRoom"], fn := fun _ => fun
  | [d, g1] => { results := [.lit (.bool false)], args := [d], vars := [g1] }
  | _ => none }
def FnExactStoreHoldWrongFalsely : Prop := fnExactStoreHoldRow.holds Tryz.pinned (OpenSpec.ofChange fnExactStoreHoldWrong)

/-- 'laws.FnExactStoreFree': WHATEVER THE INPUT: true; the input reads as it did. -/
def fnExactStoreFreeSpec : ChangeSpec := { name := "fnExactStoreFree", vars := ["loop.example/temse/impl.errNotThere", "loop.example/temse/impl.errNoRoom"], fn := fun _ => fun
  | [d1, d2, g1, g2] => { results := [.lit (.bool true)], args := [d1, d2], vars := [g1, g2] }
  | _ => none }
def fnExactStoreFreeRow : OpenClaim := { program := "ytfhpkcamigkmdaagreatdoor", sum := "10fffe09dea75bb25db36139cfca5544bfc7ef1bbfb3c84dc53568e48263aa9a", func := "loop.example/temse/laws.FnExactStoreFree", spec := "fnExactStoreFree", inPlace := ["internal/bytealg.abigen_runtime_cmpstring", "internal/abi.NoEscape"], unfollowed := true, recurses := true, named := ["loop.example/temse/impl.errNotThere", "loop.example/temse/impl.errNoRoom"], ifaces := true, apart := false, laid := [("loop.example/temse/impl.errNoRoom", laid_loop_example_temse_impl_errNoRoom), ("loop.example/temse/impl.errNotThere", laid_loop_example_temse_impl_errNotThere)] }
def FnExactStoreFreeSaid : Prop := fnExactStoreFreeRow.holds Tryz.pinned (OpenSpec.ofChange fnExactStoreFreeSpec)

/-- ITS FALSE NEIGHBOUR: 'it returns false'. Refute it at one input. -/
def fnExactStoreFreeWrong : ChangeSpec := { name := "fnExactStoreFree", vars := ["loop.example/temse/impl.errNotThere", "loop.example/temse/impl.errNoRoom"], fn := fun _ => fun
  | [d1, d2, g1, g2] => { results := [.lit (.bool false)], args := [d1, d2], vars := [g1, g2] }
  | _ => none }
def FnExactStoreFreeWrongFalsely : Prop := fnExactStoreFreeRow.holds Tryz.pinned (OpenSpec.ofChange fnExactStoreFreeWrong)

/-- 'laws.FnExactStoreDown': WHATEVER THE INPUT: true; the input reads as it did. -/
def fnExactStoreDownSpec : ChangeSpec := { name := "fnExactStoreDown", vars := ["loop.example/temse/impl.errNoRoom"], fn := fun _ => fun
  | [d, g1] => { results := [.lit (.bool true)], args := [d], vars := [g1] }
  | _ => none }
def fnExactStoreDownRow : OpenClaim := { program := "ytfhpkcamigkmdaagreatdoor", sum := "10fffe09dea75bb25db36139cfca5544bfc7ef1bbfb3c84dc53568e48263aa9a", func := "loop.example/temse/laws.FnExactStoreDown", spec := "fnExactStoreDown", inPlace := ["internal/bytealg.abigen_runtime_cmpstring", "internal/abi.NoEscape", "internal/reflectlite.TypeOf"], unfollowed := true, recurses := true, named := ["loop.example/temse/impl.errNoRoom"], ifaces := true, apart := false, laid := [("loop.example/temse/impl.errNoRoom", laid_loop_example_temse_impl_errNoRoom)] }
def FnExactStoreDownSaid : Prop := fnExactStoreDownRow.holds Tryz.pinned (OpenSpec.ofChange fnExactStoreDownSpec)

/-- ITS FALSE NEIGHBOUR: 'it returns false'. Refute it at one input. -/
def fnExactStoreDownWrong : ChangeSpec := { name := "fnExactStoreDown", vars := ["loop.example/temse/impl.errNoRoom"], fn := fun _ => fun
  | [d, g1] => { results := [.lit (.bool false)], args := [d], vars := [g1] }
  | _ => none }
def FnExactStoreDownWrongFalsely : Prop := fnExactStoreDownRow.holds Tryz.pinned (OpenSpec.ofChange fnExactStoreDownWrong)

/-- 'laws.FnExactStoreJoin': WHATEVER THE INPUT: true; the input reads as it did. -/
def fnExactStoreJoinSpec : ChangeSpec := { name := "fnExactStoreJoin", vars := ["loop.example/temse/impl.errNotThere", "loop.example/temse/impl.errNoRoom"], fn := fun _ => fun
  | [d1, d2, g1, g2] => { results := [.lit (.bool true)], args := [d1, d2], vars := [g1, g2] }
  | _ => none }
def fnExactStoreJoinRow : OpenClaim := { program := "ytfhpkcamigkmdaagreatdoor", sum := "10fffe09dea75bb25db36139cfca5544bfc7ef1bbfb3c84dc53568e48263aa9a", func := "loop.example/temse/laws.FnExactStoreJoin", spec := "fnExactStoreJoin", inPlace := ["internal/bytealg.abigen_runtime_cmpstring", "internal/abi.NoEscape", "internal/reflectlite.TypeOf"], unfollowed := true, recurses := true, named := ["loop.example/temse/impl.errNotThere", "loop.example/temse/impl.errNoRoom"], ifaces := true, apart := false, laid := [("loop.example/temse/impl.errNoRoom", laid_loop_example_temse_impl_errNoRoom), ("loop.example/temse/impl.errNotThere", laid_loop_example_temse_impl_errNotThere)] }
def FnExactStoreJoinSaid : Prop := fnExactStoreJoinRow.holds Tryz.pinned (OpenSpec.ofChange fnExactStoreJoinSpec)

/-- ITS FALSE NEIGHBOUR: 'it returns false'. Refute it at one input. -/
def fnExactStoreJoinWrong : ChangeSpec := { name := "fnExactStoreJoin", vars := ["loop.example/temse/impl.errNotThere", "loop.example/temse/impl.errNoRoom"], fn := fun _ => fun
  | [d1, d2, g1, g2] => { results := [.lit (.bool false)], args := [d1, d2], vars := [g1, g2] }
  | _ => none }
def FnExactStoreJoinWrongFalsely : Prop := fnExactStoreJoinRow.holds Tryz.pinned (OpenSpec.ofChange fnExactStoreJoinWrong)

/-- 'laws.FnExactStoreGet': WHATEVER THE INPUT: true; the input reads as it did. -/
def fnExactStoreGetSpec : ChangeSpec := { name := "fnExactStoreGet", vars := ["loop.example/temse/impl.errNoRoom"], fn := fun _ => fun
  | [d1, d2, d3, g1] => { results := [.lit (.bool true)], args := [d1, d2, d3], vars := [g1] }
  | _ => none }
def fnExactStoreGetRow : OpenClaim := { program := "ytfhpkcamigkmdaagreatdoor", sum := "10fffe09dea75bb25db36139cfca5544bfc7ef1bbfb3c84dc53568e48263aa9a", func := "loop.example/temse/laws.FnExactStoreGet", spec := "fnExactStoreGet", inPlace := ["internal/bytealg.abigen_runtime_cmpstring", "internal/abi.NoEscape", "internal/bytealg.CountString", "internal/bytealg.IndexByteString", "internal/bytealg.IndexString"], unfollowed := true, recurses := true, named := ["loop.example/temse/impl.errNoRoom", "internal/bytealg.MaxLen"], ifaces := true, apart := false, laid := [("loop.example/temse/impl.errNoRoom", laid_loop_example_temse_impl_errNoRoom)] }
def FnExactStoreGetSaid : Prop := fnExactStoreGetRow.holds Tryz.pinned (OpenSpec.ofChange fnExactStoreGetSpec)

/-- ITS FALSE NEIGHBOUR: 'it returns false'. Refute it at one input. -/
def fnExactStoreGetWrong : ChangeSpec := { name := "fnExactStoreGet", vars := ["loop.example/temse/impl.errNoRoom"], fn := fun _ => fun
  | [d1, d2, d3, g1] => { results := [.lit (.bool false)], args := [d1, d2, d3], vars := [g1] }
  | _ => none }
def FnExactStoreGetWrongFalsely : Prop := fnExactStoreGetRow.holds Tryz.pinned (OpenSpec.ofChange fnExactStoreGetWrong)

/-- 'laws.FnExactStoreList': WHATEVER THE INPUT: true; the input reads as it did. -/
def fnExactStoreListSpec : ChangeSpec := { name := "fnExactStoreList", vars := ["loop.example/temse/impl.errNoRoom"], fn := fun _ => fun
  | [d1, d2, d3, d4, g1] => { results := [.lit (.bool true)], args := [d1, d2, d3, d4], vars := [g1] }
  | _ => none }
def fnExactStoreListRow : OpenClaim := { program := "ytfhpkcamigkmdaagreatdoor", sum := "10fffe09dea75bb25db36139cfca5544bfc7ef1bbfb3c84dc53568e48263aa9a", func := "loop.example/temse/laws.FnExactStoreList", spec := "fnExactStoreList", inPlace := ["internal/bytealg.abigen_runtime_cmpstring", "internal/abi.NoEscape", "internal/bytealg.CountString", "internal/bytealg.IndexByteString", "internal/bytealg.IndexString", "slices.overlaps[string]"], unfollowed := true, recurses := true, named := ["loop.example/temse/impl.errNoRoom", "internal/bytealg.MaxLen"], ifaces := true, apart := false, laid := [("loop.example/temse/impl.errNoRoom", laid_loop_example_temse_impl_errNoRoom)] }
def FnExactStoreListSaid : Prop := fnExactStoreListRow.holds Tryz.pinned (OpenSpec.ofChange fnExactStoreListSpec)

/-- ITS FALSE NEIGHBOUR: 'it returns false'. Refute it at one input. -/
def fnExactStoreListWrong : ChangeSpec := { name := "fnExactStoreList", vars := ["loop.example/temse/impl.errNoRoom"], fn := fun _ => fun
  | [d1, d2, d3, d4, g1] => { results := [.lit (.bool false)], args := [d1, d2, d3, d4], vars := [g1] }
  | _ => none }
def FnExactStoreListWrongFalsely : Prop := fnExactStoreListRow.holds Tryz.pinned (OpenSpec.ofChange fnExactStoreListWrong)

/-- 'laws.FnExactStoreLooks': WHATEVER THE INPUT: true; the input reads as it did. -/
def fnExactStoreLooksSpec : ChangeSpec := { name := "fnExactStoreLooks", vars := ["loop.example/temse/impl.errNoRoom"], fn := fun _ => fun
  | [d1, d2, g1] => { results := [.lit (.bool true)], args := [d1, d2], vars := [g1] }
  | _ => none }
def fnExactStoreLooksRow : OpenClaim := { program := "ytfhpkcamigkmdaagreatdoor", sum := "10fffe09dea75bb25db36139cfca5544bfc7ef1bbfb3c84dc53568e48263aa9a", func := "loop.example/temse/laws.FnExactStoreLooks", spec := "fnExactStoreLooks", inPlace := ["internal/bytealg.abigen_runtime_cmpstring", "internal/abi.NoEscape", "internal/bytealg.CountString", "internal/bytealg.IndexByteString", "internal/bytealg.IndexString"], unfollowed := true, recurses := true, named := ["loop.example/temse/impl.errNoRoom", "internal/bytealg.MaxLen"], ifaces := true, apart := false, laid := [("loop.example/temse/impl.errNoRoom", laid_loop_example_temse_impl_errNoRoom)] }
def FnExactStoreLooksSaid : Prop := fnExactStoreLooksRow.holds Tryz.pinned (OpenSpec.ofChange fnExactStoreLooksSpec)

/-- ITS FALSE NEIGHBOUR: 'it returns false'. Refute it at one input. -/
def fnExactStoreLooksWrong : ChangeSpec := { name := "fnExactStoreLooks", vars := ["loop.example/temse/impl.errNoRoom"], fn := fun _ => fun
  | [d1, d2, g1] => { results := [.lit (.bool false)], args := [d1, d2], vars := [g1] }
  | _ => none }
def FnExactStoreLooksWrongFalsely : Prop := fnExactStoreLooksRow.holds Tryz.pinned (OpenSpec.ofChange fnExactStoreLooksWrong)

/-- 'laws.FnExactStoreSpans': WHATEVER THE INPUT: true; the input reads as it did. -/
def fnExactStoreSpansSpec : ChangeSpec := { name := "fnExactStoreSpans", vars := ["loop.example/temse/impl.errNoRoom"], fn := fun _ => fun
  | [d1, d2, d3, g1] => { results := [.lit (.bool true)], args := [d1, d2, d3], vars := [g1] }
  | _ => none }
def fnExactStoreSpansRow : OpenClaim := { program := "ytfhpkcamigkmdaagreatdoor", sum := "10fffe09dea75bb25db36139cfca5544bfc7ef1bbfb3c84dc53568e48263aa9a", func := "loop.example/temse/laws.FnExactStoreSpans", spec := "fnExactStoreSpans", inPlace := ["internal/bytealg.abigen_runtime_cmpstring", "internal/abi.NoEscape", "internal/bytealg.CountString", "internal/bytealg.IndexByteString", "internal/bytealg.IndexString"], unfollowed := true, recurses := true, named := ["loop.example/temse/impl.errNoRoom", "internal/bytealg.MaxLen"], ifaces := true, apart := false, laid := [("loop.example/temse/impl.errNoRoom", laid_loop_example_temse_impl_errNoRoom)] }
def FnExactStoreSpansSaid : Prop := fnExactStoreSpansRow.holds Tryz.pinned (OpenSpec.ofChange fnExactStoreSpansSpec)

/-- ITS FALSE NEIGHBOUR: 'it returns false'. Refute it at one input. -/
def fnExactStoreSpansWrong : ChangeSpec := { name := "fnExactStoreSpans", vars := ["loop.example/temse/impl.errNoRoom"], fn := fun _ => fun
  | [d1, d2, d3, g1] => { results := [.lit (.bool false)], args := [d1, d2, d3], vars := [g1] }
  | _ => none }
def FnExactStoreSpansWrongFalsely : Prop := fnExactStoreSpansRow.holds Tryz.pinned (OpenSpec.ofChange fnExactStoreSpansWrong)

/- THE SECOND FORM. 'bulk': how many values and letters a reading holds, each counted each time it is reached (what is shared counts as often as it is met; a slice's spare places count too). A statement '..UptoSaid' is the law's where the arguments, and the package variables that the reading takes, are together of bulk at most 1048576: NARROWER than '..Said'. Prove '..Said' where nothing that the law and all that it calls make is longer than what came in: it says more and counts as full. Else prove '..UptoSaid'. A law counts once. -/
mutual
def uptoBulk {H : Type} : DataW H → Nat
  | .lit (.string bytes) => bytes.length + 1
  | .lit _ => 1
  | .nil => 1
  | .ptr d => uptoBulk d + 1
  | .slice elems spare => uptoBulkAll elems + uptoBulkAll spare + 1
  | .agg parts => uptoBulkAll parts + 1
  | .iface _ d => uptoBulk d + 1
  | .map entries => uptoBulkEntries entries + 1
  | .held _ => 1
def uptoBulkAll {H : Type} : List (DataW H) → Nat
  | [] => 0
  | d :: r => uptoBulk d + uptoBulkAll r
def uptoBulkEntries {H : Type} : List (Lit × DataW H) → Nat
  | [] => 0
  | x :: r => uptoBulkEntry x + uptoBulkEntries r
def uptoBulkEntry {H : Type} : Lit × DataW H → Nat
  | (.string bytes, d) => bytes.length + uptoBulk d + 1
  | (_, d) => uptoBulk d + 1
 end
def uptoSmall : (H : Type) → List (DataW H) → Bool := fun _ ds => decide (uptoBulkAll ds ≤ 1048576)
def OpenSpec.upto (s : _root_.Go.ChangeSpec) : _root_.Go.OpenSpec := { _root_.Go.OpenSpec.ofChange s with cond := some uptoSmall }

/-- 'laws.FnExactStoreHold', WHERE WHAT IT READS IS OF BULK AT MOST 1048576: true; the input reads as it did. -/
def fnExactStoreHoldUptoRow : OpenClaim := { program := "ytfhpkcamigkmdaagreatdoor", sum := "10fffe09dea75bb25db36139cfca5544bfc7ef1bbfb3c84dc53568e48263aa9a", func := "loop.example/temse/laws.FnExactStoreHold", spec := "fnExactStoreHold", inPlace := ["internal/bytealg.abigen_runtime_cmpstring", "internal/abi.NoEscape"], unfollowed := true, recurses := true, named := ["loop.example/temse/impl.errNoRoom"], ifaces := true, apart := false, laid := [("loop.example/temse/impl.errNoRoom", laid_loop_example_temse_impl_errNoRoom)], narrowed := true }
def FnExactStoreHoldUptoSaid : Prop := fnExactStoreHoldUptoRow.holds Tryz.pinned (OpenSpec.upto fnExactStoreHoldSpec)

/-- 'laws.FnExactStoreFree', WHERE WHAT IT READS IS OF BULK AT MOST 1048576: true; the input reads as it did. -/
def fnExactStoreFreeUptoRow : OpenClaim := { program := "ytfhpkcamigkmdaagreatdoor", sum := "10fffe09dea75bb25db36139cfca5544bfc7ef1bbfb3c84dc53568e48263aa9a", func := "loop.example/temse/laws.FnExactStoreFree", spec := "fnExactStoreFree", inPlace := ["internal/bytealg.abigen_runtime_cmpstring", "internal/abi.NoEscape"], unfollowed := true, recurses := true, named := ["loop.example/temse/impl.errNotThere", "loop.example/temse/impl.errNoRoom"], ifaces := true, apart := false, laid := [("loop.example/temse/impl.errNoRoom", laid_loop_example_temse_impl_errNoRoom), ("loop.example/temse/impl.errNotThere", laid_loop_example_temse_impl_errNotThere)], narrowed := true }
def FnExactStoreFreeUptoSaid : Prop := fnExactStoreFreeUptoRow.holds Tryz.pinned (OpenSpec.upto fnExactStoreFreeSpec)

/-- 'laws.FnExactStoreDown', WHERE WHAT IT READS IS OF BULK AT MOST 1048576: true; the input reads as it did. -/
def fnExactStoreDownUptoRow : OpenClaim := { program := "ytfhpkcamigkmdaagreatdoor", sum := "10fffe09dea75bb25db36139cfca5544bfc7ef1bbfb3c84dc53568e48263aa9a", func := "loop.example/temse/laws.FnExactStoreDown", spec := "fnExactStoreDown", inPlace := ["internal/bytealg.abigen_runtime_cmpstring", "internal/abi.NoEscape", "internal/reflectlite.TypeOf"], unfollowed := true, recurses := true, named := ["loop.example/temse/impl.errNoRoom"], ifaces := true, apart := false, laid := [("loop.example/temse/impl.errNoRoom", laid_loop_example_temse_impl_errNoRoom)], narrowed := true }
def FnExactStoreDownUptoSaid : Prop := fnExactStoreDownUptoRow.holds Tryz.pinned (OpenSpec.upto fnExactStoreDownSpec)

/-- 'laws.FnExactStoreJoin', WHERE WHAT IT READS IS OF BULK AT MOST 1048576: true; the input reads as it did. -/
def fnExactStoreJoinUptoRow : OpenClaim := { program := "ytfhpkcamigkmdaagreatdoor", sum := "10fffe09dea75bb25db36139cfca5544bfc7ef1bbfb3c84dc53568e48263aa9a", func := "loop.example/temse/laws.FnExactStoreJoin", spec := "fnExactStoreJoin", inPlace := ["internal/bytealg.abigen_runtime_cmpstring", "internal/abi.NoEscape", "internal/reflectlite.TypeOf"], unfollowed := true, recurses := true, named := ["loop.example/temse/impl.errNotThere", "loop.example/temse/impl.errNoRoom"], ifaces := true, apart := false, laid := [("loop.example/temse/impl.errNoRoom", laid_loop_example_temse_impl_errNoRoom), ("loop.example/temse/impl.errNotThere", laid_loop_example_temse_impl_errNotThere)], narrowed := true }
def FnExactStoreJoinUptoSaid : Prop := fnExactStoreJoinUptoRow.holds Tryz.pinned (OpenSpec.upto fnExactStoreJoinSpec)

/-- 'laws.FnExactStoreGet', WHERE WHAT IT READS IS OF BULK AT MOST 1048576: true; the input reads as it did. -/
def fnExactStoreGetUptoRow : OpenClaim := { program := "ytfhpkcamigkmdaagreatdoor", sum := "10fffe09dea75bb25db36139cfca5544bfc7ef1bbfb3c84dc53568e48263aa9a", func := "loop.example/temse/laws.FnExactStoreGet", spec := "fnExactStoreGet", inPlace := ["internal/bytealg.abigen_runtime_cmpstring", "internal/abi.NoEscape", "internal/bytealg.CountString", "internal/bytealg.IndexByteString", "internal/bytealg.IndexString"], unfollowed := true, recurses := true, named := ["loop.example/temse/impl.errNoRoom", "internal/bytealg.MaxLen"], ifaces := true, apart := false, laid := [("loop.example/temse/impl.errNoRoom", laid_loop_example_temse_impl_errNoRoom)], narrowed := true }
def FnExactStoreGetUptoSaid : Prop := fnExactStoreGetUptoRow.holds Tryz.pinned (OpenSpec.upto fnExactStoreGetSpec)

/-- 'laws.FnExactStoreList', WHERE WHAT IT READS IS OF BULK AT MOST 1048576: true; the input reads as it did. -/
def fnExactStoreListUptoRow : OpenClaim := { program := "ytfhpkcamigkmdaagreatdoor", sum := "10fffe09dea75bb25db36139cfca5544bfc7ef1bbfb3c84dc53568e48263aa9a", func := "loop.example/temse/laws.FnExactStoreList", spec := "fnExactStoreList", inPlace := ["internal/bytealg.abigen_runtime_cmpstring", "internal/abi.NoEscape", "internal/bytealg.CountString", "internal/bytealg.IndexByteString", "internal/bytealg.IndexString", "slices.overlaps[string]"], unfollowed := true, recurses := true, named := ["loop.example/temse/impl.errNoRoom", "internal/bytealg.MaxLen"], ifaces := true, apart := false, laid := [("loop.example/temse/impl.errNoRoom", laid_loop_example_temse_impl_errNoRoom)], narrowed := true }
def FnExactStoreListUptoSaid : Prop := fnExactStoreListUptoRow.holds Tryz.pinned (OpenSpec.upto fnExactStoreListSpec)

/-- 'laws.FnExactStoreLooks', WHERE WHAT IT READS IS OF BULK AT MOST 1048576: true; the input reads as it did. -/
def fnExactStoreLooksUptoRow : OpenClaim := { program := "ytfhpkcamigkmdaagreatdoor", sum := "10fffe09dea75bb25db36139cfca5544bfc7ef1bbfb3c84dc53568e48263aa9a", func := "loop.example/temse/laws.FnExactStoreLooks", spec := "fnExactStoreLooks", inPlace := ["internal/bytealg.abigen_runtime_cmpstring", "internal/abi.NoEscape", "internal/bytealg.CountString", "internal/bytealg.IndexByteString", "internal/bytealg.IndexString"], unfollowed := true, recurses := true, named := ["loop.example/temse/impl.errNoRoom", "internal/bytealg.MaxLen"], ifaces := true, apart := false, laid := [("loop.example/temse/impl.errNoRoom", laid_loop_example_temse_impl_errNoRoom)], narrowed := true }
def FnExactStoreLooksUptoSaid : Prop := fnExactStoreLooksUptoRow.holds Tryz.pinned (OpenSpec.upto fnExactStoreLooksSpec)

/-- 'laws.FnExactStoreSpans', WHERE WHAT IT READS IS OF BULK AT MOST 1048576: true; the input reads as it did. -/
def fnExactStoreSpansUptoRow : OpenClaim := { program := "ytfhpkcamigkmdaagreatdoor", sum := "10fffe09dea75bb25db36139cfca5544bfc7ef1bbfb3c84dc53568e48263aa9a", func := "loop.example/temse/laws.FnExactStoreSpans", spec := "fnExactStoreSpans", inPlace := ["internal/bytealg.abigen_runtime_cmpstring", "internal/abi.NoEscape", "internal/bytealg.CountString", "internal/bytealg.IndexByteString", "internal/bytealg.IndexString"], unfollowed := true, recurses := true, named := ["loop.example/temse/impl.errNoRoom", "internal/bytealg.MaxLen"], ifaces := true, apart := false, laid := [("loop.example/temse/impl.errNoRoom", laid_loop_example_temse_impl_errNoRoom)], narrowed := true }
def FnExactStoreSpansUptoSaid : Prop := fnExactStoreSpansUptoRow.holds Tryz.pinned (OpenSpec.upto fnExactStoreSpansSpec)

end Rows
end Go.Proofs.YtfhpkcamigkmdaaGreatDoor
