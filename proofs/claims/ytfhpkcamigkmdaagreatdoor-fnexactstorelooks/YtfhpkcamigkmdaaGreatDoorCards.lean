/-
  DERIVED. GIVEN WITH THE SEED: THE CARDS: each row of YtfhpkcamigkmdaaGreatDoorRows.lean that lists a variable, with what it lists TIED to the program's text (the seventh form; the later family's looks); each row that meets fmt, with fmt's text TOLD by the authors' own Lean function (tested against real Go, not proved from fmt's source: count such statements apart). THE CARD IS WHAT COUNTS. Prove the row's statement (the work); the ties are given (YtfhpkcamigkmdaaGreatDoorTie.lean); close each card by the builder's one call (the guide's Derived/Test/ToyasCard.lean, 'card_holds'). Laid BY PROGRAM, IN A SANDBOX (cutbox-door.mjs). By AI agents, Wed Nov 11 2026. No macro, syntax, notation, axiom, sorry.
-/
import Derived.Test.YtfhpkcamigkmdaaGreatDoorRows
import GoSem.ClaimSeven
namespace Go.Proofs.YtfhpkcamigkmdaaGreatDoor
namespace Rows

/-- THE TIED CARD OF 'laws.FnExactStoreHold'. -/
def fnExactStoreHoldCard : Claim7 := { stood := { row := fnExactStoreHoldRow, standIns := [], harness := (true, "7bf038b9c51f262f4b4007d0a024866fccd6f797de4454797a0625dff81e48d5"), looks := true }, kinds := [], alts := [], laidByText := true, laidKinds := [.sentinel], laidTests := true, laidLooks := .later }
def FnExactStoreHoldCardSaid : Prop := Claim7.holds Tryz.pinned (.plain (OpenSpec.ofChange fnExactStoreHoldSpec)) fnExactStoreHoldCard

/-- THE TIED CARD OF 'laws.FnExactStoreFree'. -/
def fnExactStoreFreeCard : Claim7 := { stood := { row := fnExactStoreFreeRow, standIns := [], harness := (true, "7bf038b9c51f262f4b4007d0a024866fccd6f797de4454797a0625dff81e48d5"), looks := true }, kinds := [], alts := [], laidByText := true, laidKinds := [.sentinel, .sentinel], laidTests := true, laidLooks := .later }
def FnExactStoreFreeCardSaid : Prop := Claim7.holds Tryz.pinned (.plain (OpenSpec.ofChange fnExactStoreFreeSpec)) fnExactStoreFreeCard

/-- THE TIED CARD OF 'laws.FnExactStoreDown'. -/
def fnExactStoreDownCard : Claim7 := { stood := { row := fnExactStoreDownRow, standIns := [], harness := (true, "7bf038b9c51f262f4b4007d0a024866fccd6f797de4454797a0625dff81e48d5"), looks := true }, kinds := [], alts := [], laidByText := true, laidKinds := [.sentinel], laidTests := true, laidLooks := .later }
def FnExactStoreDownCardSaid : Prop := Claim7.holds Tryz.pinned (.plain (OpenSpec.ofChange fnExactStoreDownSpec)) fnExactStoreDownCard

/-- THE TIED CARD OF 'laws.FnExactStoreJoin'. -/
def fnExactStoreJoinCard : Claim7 := { stood := { row := fnExactStoreJoinRow, standIns := [], harness := (true, "7bf038b9c51f262f4b4007d0a024866fccd6f797de4454797a0625dff81e48d5"), looks := true }, kinds := [], alts := [], laidByText := true, laidKinds := [.sentinel, .sentinel], laidTests := true, laidLooks := .later }
def FnExactStoreJoinCardSaid : Prop := Claim7.holds Tryz.pinned (.plain (OpenSpec.ofChange fnExactStoreJoinSpec)) fnExactStoreJoinCard

/-- THE TIED CARD OF 'laws.FnExactStoreGet'. -/
def fnExactStoreGetCard : Claim7 := { stood := { row := fnExactStoreGetRow, standIns := [], harness := (true, "7bf038b9c51f262f4b4007d0a024866fccd6f797de4454797a0625dff81e48d5"), looks := true }, kinds := [], alts := [], laidByText := true, laidKinds := [.sentinel], laidTests := true, laidLooks := .later }
def FnExactStoreGetCardSaid : Prop := Claim7.holds Tryz.pinned (.plain (OpenSpec.ofChange fnExactStoreGetSpec)) fnExactStoreGetCard

/-- THE TIED CARD OF 'laws.FnExactStoreList'. -/
def fnExactStoreListCard : Claim7 := { stood := { row := fnExactStoreListRow, standIns := [], harness := (true, "7bf038b9c51f262f4b4007d0a024866fccd6f797de4454797a0625dff81e48d5"), looks := true }, kinds := [], alts := [], laidByText := true, laidKinds := [.sentinel], laidTests := true, laidLooks := .later }
def FnExactStoreListCardSaid : Prop := Claim7.holds Tryz.pinned (.plain (OpenSpec.ofChange fnExactStoreListSpec)) fnExactStoreListCard

/-- THE TIED CARD OF 'laws.FnExactStoreLooks'. -/
def fnExactStoreLooksCard : Claim7 := { stood := { row := fnExactStoreLooksRow, standIns := [], harness := (true, "7bf038b9c51f262f4b4007d0a024866fccd6f797de4454797a0625dff81e48d5"), looks := true }, kinds := [], alts := [], laidByText := true, laidKinds := [.sentinel], laidTests := true, laidLooks := .later }
def FnExactStoreLooksCardSaid : Prop := Claim7.holds Tryz.pinned (.plain (OpenSpec.ofChange fnExactStoreLooksSpec)) fnExactStoreLooksCard

/-- THE TIED CARD OF 'laws.FnExactStoreSpans'. -/
def fnExactStoreSpansCard : Claim7 := { stood := { row := fnExactStoreSpansRow, standIns := [], harness := (true, "7bf038b9c51f262f4b4007d0a024866fccd6f797de4454797a0625dff81e48d5"), looks := true }, kinds := [], alts := [], laidByText := true, laidKinds := [.sentinel], laidTests := true, laidLooks := .later }
def FnExactStoreSpansCardSaid : Prop := Claim7.holds Tryz.pinned (.plain (OpenSpec.ofChange fnExactStoreSpansSpec)) fnExactStoreSpansCard

/-- THE SECOND FORM's CARD OF 'laws.FnExactStoreHold'. -/
def fnExactStoreHoldUptoCard : Claim7 := { stood := { row := fnExactStoreHoldUptoRow, standIns := [], harness := (true, "7bf038b9c51f262f4b4007d0a024866fccd6f797de4454797a0625dff81e48d5"), looks := true }, kinds := [], alts := [], laidByText := true, laidKinds := [.sentinel], laidTests := true, laidLooks := .later }
def FnExactStoreHoldUptoCardSaid : Prop := Claim7.holds Tryz.pinned (.plain (OpenSpec.upto fnExactStoreHoldSpec)) fnExactStoreHoldUptoCard

/-- THE SECOND FORM's CARD OF 'laws.FnExactStoreFree'. -/
def fnExactStoreFreeUptoCard : Claim7 := { stood := { row := fnExactStoreFreeUptoRow, standIns := [], harness := (true, "7bf038b9c51f262f4b4007d0a024866fccd6f797de4454797a0625dff81e48d5"), looks := true }, kinds := [], alts := [], laidByText := true, laidKinds := [.sentinel, .sentinel], laidTests := true, laidLooks := .later }
def FnExactStoreFreeUptoCardSaid : Prop := Claim7.holds Tryz.pinned (.plain (OpenSpec.upto fnExactStoreFreeSpec)) fnExactStoreFreeUptoCard

/-- THE SECOND FORM's CARD OF 'laws.FnExactStoreDown'. -/
def fnExactStoreDownUptoCard : Claim7 := { stood := { row := fnExactStoreDownUptoRow, standIns := [], harness := (true, "7bf038b9c51f262f4b4007d0a024866fccd6f797de4454797a0625dff81e48d5"), looks := true }, kinds := [], alts := [], laidByText := true, laidKinds := [.sentinel], laidTests := true, laidLooks := .later }
def FnExactStoreDownUptoCardSaid : Prop := Claim7.holds Tryz.pinned (.plain (OpenSpec.upto fnExactStoreDownSpec)) fnExactStoreDownUptoCard

/-- THE SECOND FORM's CARD OF 'laws.FnExactStoreJoin'. -/
def fnExactStoreJoinUptoCard : Claim7 := { stood := { row := fnExactStoreJoinUptoRow, standIns := [], harness := (true, "7bf038b9c51f262f4b4007d0a024866fccd6f797de4454797a0625dff81e48d5"), looks := true }, kinds := [], alts := [], laidByText := true, laidKinds := [.sentinel, .sentinel], laidTests := true, laidLooks := .later }
def FnExactStoreJoinUptoCardSaid : Prop := Claim7.holds Tryz.pinned (.plain (OpenSpec.upto fnExactStoreJoinSpec)) fnExactStoreJoinUptoCard

/-- THE SECOND FORM's CARD OF 'laws.FnExactStoreGet'. -/
def fnExactStoreGetUptoCard : Claim7 := { stood := { row := fnExactStoreGetUptoRow, standIns := [], harness := (true, "7bf038b9c51f262f4b4007d0a024866fccd6f797de4454797a0625dff81e48d5"), looks := true }, kinds := [], alts := [], laidByText := true, laidKinds := [.sentinel], laidTests := true, laidLooks := .later }
def FnExactStoreGetUptoCardSaid : Prop := Claim7.holds Tryz.pinned (.plain (OpenSpec.upto fnExactStoreGetSpec)) fnExactStoreGetUptoCard

/-- THE SECOND FORM's CARD OF 'laws.FnExactStoreList'. -/
def fnExactStoreListUptoCard : Claim7 := { stood := { row := fnExactStoreListUptoRow, standIns := [], harness := (true, "7bf038b9c51f262f4b4007d0a024866fccd6f797de4454797a0625dff81e48d5"), looks := true }, kinds := [], alts := [], laidByText := true, laidKinds := [.sentinel], laidTests := true, laidLooks := .later }
def FnExactStoreListUptoCardSaid : Prop := Claim7.holds Tryz.pinned (.plain (OpenSpec.upto fnExactStoreListSpec)) fnExactStoreListUptoCard

/-- THE SECOND FORM's CARD OF 'laws.FnExactStoreLooks'. -/
def fnExactStoreLooksUptoCard : Claim7 := { stood := { row := fnExactStoreLooksUptoRow, standIns := [], harness := (true, "7bf038b9c51f262f4b4007d0a024866fccd6f797de4454797a0625dff81e48d5"), looks := true }, kinds := [], alts := [], laidByText := true, laidKinds := [.sentinel], laidTests := true, laidLooks := .later }
def FnExactStoreLooksUptoCardSaid : Prop := Claim7.holds Tryz.pinned (.plain (OpenSpec.upto fnExactStoreLooksSpec)) fnExactStoreLooksUptoCard

/-- THE SECOND FORM's CARD OF 'laws.FnExactStoreSpans'. -/
def fnExactStoreSpansUptoCard : Claim7 := { stood := { row := fnExactStoreSpansUptoRow, standIns := [], harness := (true, "7bf038b9c51f262f4b4007d0a024866fccd6f797de4454797a0625dff81e48d5"), looks := true }, kinds := [], alts := [], laidByText := true, laidKinds := [.sentinel], laidTests := true, laidLooks := .later }
def FnExactStoreSpansUptoCardSaid : Prop := Claim7.holds Tryz.pinned (.plain (OpenSpec.upto fnExactStoreSpansSpec)) fnExactStoreSpansUptoCard
end Rows
end Go.Proofs.YtfhpkcamigkmdaaGreatDoor
