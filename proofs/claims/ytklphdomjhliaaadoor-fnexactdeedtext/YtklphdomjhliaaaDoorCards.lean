/-
  DERIVED. GIVEN WITH THE SEED: THE CARDS: each row of YtklphdomjhliaaaDoorRows.lean that lists a variable, with what it lists TIED to the program's text (the seventh form; the later family's looks); each row that meets fmt, with fmt's text TOLD by the authors' own Lean function (tested against real Go, not proved from fmt's source: count such statements apart). THE CARD IS WHAT COUNTS. Prove the row's statement (the work); the ties are given (YtklphdomjhliaaaDoorTie.lean); close each card by the builder's one call (the guide's Derived/Test/ToyasCard.lean, 'card_holds'). Laid BY PROGRAM, IN A SANDBOX (cutbox-door.mjs). By AI agents, Wed Nov 11 2026. No macro, syntax, notation, axiom, sorry.
-/
import Derived.Test.YtklphdomjhliaaaDoorRows
import GoSem.ClaimSeven
namespace Go.Proofs.YtklphdomjhliaaaDoor
namespace Rows

/-- THE TIED CARD OF 'laws.FnDeedBack'. -/
def fnDeedBackCard : Claim7 := { stood := { row := fnDeedBackRow, standIns := [], harness := (true, "01c74ff4747ceac364c29d683443d74f4b24386521d1cfad1a16cf0a7b5a1317"), looks := true }, kinds := [], alts := [], laidByText := true, laidKinds := [.data, .data, .data, .data, .sentinel, .sentinel, .pinned], laidTests := true, laidLooks := .later }
def FnDeedBackCardSaid : Prop := Claim7.holds Tryd.pinned (.plain (OpenSpec.ofChange fnDeedBackSpec)) fnDeedBackCard

/-- THE TIED CARD OF 'laws.FnDeedStrict'. -/
def fnDeedStrictCard : Claim7 := { stood := { row := fnDeedStrictRow, standIns := [], harness := (true, "01c74ff4747ceac364c29d683443d74f4b24386521d1cfad1a16cf0a7b5a1317"), looks := true }, kinds := [], alts := [], laidByText := true, laidKinds := [.data, .data, .data, .data, .sentinel, .sentinel, .pinned], laidTests := true, laidLooks := .later }
def FnDeedStrictCardSaid : Prop := Claim7.holds Tryd.pinned (.plain (OpenSpec.ofChange fnDeedStrictSpec)) fnDeedStrictCard

/-- THE TIED CARD OF 'laws.FnDeedOne'. -/
def fnDeedOneCard : Claim7 := { stood := { row := fnDeedOneRow, standIns := [], harness := (true, "01c74ff4747ceac364c29d683443d74f4b24386521d1cfad1a16cf0a7b5a1317"), looks := true }, kinds := [], alts := [], laidByText := true, laidKinds := [.data, .data, .data], laidTests := true, laidLooks := .later }
def FnDeedOneCardSaid : Prop := Claim7.holds Tryd.pinned (.plain (OpenSpec.ofChange fnDeedOneSpec)) fnDeedOneCard

/-- THE TIED CARD OF 'laws.FnExactDeedText'. -/
def fnExactDeedTextCard : Claim7 := { stood := { row := fnExactDeedTextRow, standIns := [], harness := (true, "01c74ff4747ceac364c29d683443d74f4b24386521d1cfad1a16cf0a7b5a1317"), looks := true }, kinds := [], alts := [], laidByText := true, laidKinds := [.data, .data, .data], laidTests := true, laidLooks := .later }
def FnExactDeedTextCardSaid : Prop := Claim7.holds Tryd.pinned (.plain (OpenSpec.ofChange fnExactDeedTextSpec)) fnExactDeedTextCard

/-- THE TIED CARD OF 'laws.FnExactDeedRead'. -/
def fnExactDeedReadCard : Claim7 := { stood := { row := fnExactDeedReadRow, standIns := [], harness := (true, "01c74ff4747ceac364c29d683443d74f4b24386521d1cfad1a16cf0a7b5a1317"), looks := true }, kinds := [], alts := [], laidByText := true, laidKinds := [.data, .data, .data, .data, .sentinel, .sentinel, .pinned], laidTests := true, laidLooks := .later }
def FnExactDeedReadCardSaid : Prop := Claim7.holds Tryd.pinned (.plain (OpenSpec.ofChange fnExactDeedReadSpec)) fnExactDeedReadCard

/-- THE SECOND FORM's CARD OF 'laws.FnDeedBack'. -/
def fnDeedBackUptoCard : Claim7 := { stood := { row := fnDeedBackUptoRow, standIns := [], harness := (true, "01c74ff4747ceac364c29d683443d74f4b24386521d1cfad1a16cf0a7b5a1317"), looks := true }, kinds := [], alts := [], laidByText := true, laidKinds := [.data, .data, .data, .data, .sentinel, .sentinel, .pinned], laidTests := true, laidLooks := .later }
def FnDeedBackUptoCardSaid : Prop := Claim7.holds Tryd.pinned (.plain (OpenSpec.upto fnDeedBackSpec)) fnDeedBackUptoCard

/-- THE SECOND FORM's CARD OF 'laws.FnDeedStrict'. -/
def fnDeedStrictUptoCard : Claim7 := { stood := { row := fnDeedStrictUptoRow, standIns := [], harness := (true, "01c74ff4747ceac364c29d683443d74f4b24386521d1cfad1a16cf0a7b5a1317"), looks := true }, kinds := [], alts := [], laidByText := true, laidKinds := [.data, .data, .data, .data, .sentinel, .sentinel, .pinned], laidTests := true, laidLooks := .later }
def FnDeedStrictUptoCardSaid : Prop := Claim7.holds Tryd.pinned (.plain (OpenSpec.upto fnDeedStrictSpec)) fnDeedStrictUptoCard

/-- THE SECOND FORM's CARD OF 'laws.FnDeedOne'. -/
def fnDeedOneUptoCard : Claim7 := { stood := { row := fnDeedOneUptoRow, standIns := [], harness := (true, "01c74ff4747ceac364c29d683443d74f4b24386521d1cfad1a16cf0a7b5a1317"), looks := true }, kinds := [], alts := [], laidByText := true, laidKinds := [.data, .data, .data], laidTests := true, laidLooks := .later }
def FnDeedOneUptoCardSaid : Prop := Claim7.holds Tryd.pinned (.plain (OpenSpec.upto fnDeedOneSpec)) fnDeedOneUptoCard

/-- THE SECOND FORM's CARD OF 'laws.FnExactDeedText'. -/
def fnExactDeedTextUptoCard : Claim7 := { stood := { row := fnExactDeedTextUptoRow, standIns := [], harness := (true, "01c74ff4747ceac364c29d683443d74f4b24386521d1cfad1a16cf0a7b5a1317"), looks := true }, kinds := [], alts := [], laidByText := true, laidKinds := [.data, .data, .data], laidTests := true, laidLooks := .later }
def FnExactDeedTextUptoCardSaid : Prop := Claim7.holds Tryd.pinned (.plain (OpenSpec.upto fnExactDeedTextSpec)) fnExactDeedTextUptoCard

/-- THE SECOND FORM's CARD OF 'laws.FnExactDeedRead'. -/
def fnExactDeedReadUptoCard : Claim7 := { stood := { row := fnExactDeedReadUptoRow, standIns := [], harness := (true, "01c74ff4747ceac364c29d683443d74f4b24386521d1cfad1a16cf0a7b5a1317"), looks := true }, kinds := [], alts := [], laidByText := true, laidKinds := [.data, .data, .data, .data, .sentinel, .sentinel, .pinned], laidTests := true, laidLooks := .later }
def FnExactDeedReadUptoCardSaid : Prop := Claim7.holds Tryd.pinned (.plain (OpenSpec.upto fnExactDeedReadSpec)) fnExactDeedReadUptoCard
end Rows
end Go.Proofs.YtklphdomjhliaaaDoor
