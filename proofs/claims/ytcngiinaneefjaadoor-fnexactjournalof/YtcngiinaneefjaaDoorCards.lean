/-
  DERIVED. GIVEN WITH THE SEED: THE CARDS: each row of YtcngiinaneefjaaDoorRows.lean that lists a variable, with what it lists TIED to the program's text (the seventh form; the later family's looks); each row that meets fmt, with fmt's text TOLD by the authors' own Lean function (tested against real Go, not proved from fmt's source: count such statements apart). THE CARD IS WHAT COUNTS. Prove the row's statement (the work); the ties are given (YtcngiinaneefjaaDoorTie.lean); close each card by the builder's one call (the guide's Derived/Test/ToyasCard.lean, 'card_holds'). Laid BY PROGRAM, IN A SANDBOX (cutbox-door.mjs). By AI agents, Wed Nov 11 2026. No macro, syntax, notation, axiom, sorry.
-/
import Derived.Test.YtcngiinaneefjaaDoorRows
import GoSem.ClaimSeven
namespace Go.Proofs.YtcngiinaneefjaaDoor
namespace Rows

/-- THE TIED CARD OF 'laws.FnExactTaskBytes'. -/
def fnExactTaskBytesCard : Claim7 := { stood := { row := fnExactTaskBytesRow, standIns := [], harness := (true, "b31ba7df49121c5d9b9d8a2a43d9771d2bd51cd550143391bf9ff950187bb7d3"), looks := true }, kinds := [], alts := [], laidByText := true, laidKinds := [.sentinel], laidTests := true, laidLooks := .later }
def FnExactTaskBytesCardSaid : Prop := Claim7.holds Tryd.pinned (.plain (OpenSpec.ofChange fnExactTaskBytesSpec)) fnExactTaskBytesCard

/-- THE TIED CARD OF 'laws.FnExactTaskRead'. -/
def fnExactTaskReadCard : Claim7 := { stood := { row := fnExactTaskReadRow, standIns := [], harness := (true, "b31ba7df49121c5d9b9d8a2a43d9771d2bd51cd550143391bf9ff950187bb7d3"), looks := true }, kinds := [], alts := [], laidByText := true, laidKinds := [.sentinel, .sentinel, .sentinel, .sentinel], laidTests := true, laidLooks := .later }
def FnExactTaskReadCardSaid : Prop := Claim7.holds Tryd.pinned (.plain (OpenSpec.ofChange fnExactTaskReadSpec)) fnExactTaskReadCard

/-- THE TIED CARD OF 'laws.FnExactEventBytes'. -/
def fnExactEventBytesCard : Claim7 := { stood := { row := fnExactEventBytesRow, standIns := [], harness := (true, "b31ba7df49121c5d9b9d8a2a43d9771d2bd51cd550143391bf9ff950187bb7d3"), looks := true }, kinds := [], alts := [], laidByText := true, laidKinds := [.sentinel], laidTests := true, laidLooks := .later }
def FnExactEventBytesCardSaid : Prop := Claim7.holds Tryd.pinned (.plain (OpenSpec.ofChange fnExactEventBytesSpec)) fnExactEventBytesCard

/-- THE TIED CARD OF 'laws.FnExactEventRead'. -/
def fnExactEventReadCard : Claim7 := { stood := { row := fnExactEventReadRow, standIns := [], harness := (true, "b31ba7df49121c5d9b9d8a2a43d9771d2bd51cd550143391bf9ff950187bb7d3"), looks := true }, kinds := [], alts := [], laidByText := true, laidKinds := [.sentinel, .sentinel, .sentinel, .sentinel], laidTests := true, laidLooks := .later }
def FnExactEventReadCardSaid : Prop := Claim7.holds Tryd.pinned (.plain (OpenSpec.ofChange fnExactEventReadSpec)) fnExactEventReadCard

/-- THE TIED CARD OF 'laws.FnExactJournalOf'. -/
def fnExactJournalOfCard : Claim7 := { stood := { row := fnExactJournalOfRow, standIns := [], harness := (true, "b31ba7df49121c5d9b9d8a2a43d9771d2bd51cd550143391bf9ff950187bb7d3"), looks := true }, kinds := [], alts := [], laidByText := true, laidKinds := [.sentinel], laidTests := true, laidLooks := .later }
def FnExactJournalOfCardSaid : Prop := Claim7.holds Tryd.pinned (.plain (OpenSpec.ofChange fnExactJournalOfSpec)) fnExactJournalOfCard

/-- THE TIED CARD OF 'laws.FnExactJournalRead'. -/
def fnExactJournalReadCard : Claim7 := { stood := { row := fnExactJournalReadRow, standIns := [], harness := (true, "b31ba7df49121c5d9b9d8a2a43d9771d2bd51cd550143391bf9ff950187bb7d3"), looks := true }, kinds := [], alts := [], laidByText := true, laidKinds := [.sentinel, .sentinel, .sentinel, .sentinel], laidTests := true, laidLooks := .later }
def FnExactJournalReadCardSaid : Prop := Claim7.holds Tryd.pinned (.plain (OpenSpec.ofChange fnExactJournalReadSpec)) fnExactJournalReadCard

/-- THE SECOND FORM's CARD OF 'laws.FnExactTaskBytes'. -/
def fnExactTaskBytesUptoCard : Claim7 := { stood := { row := fnExactTaskBytesUptoRow, standIns := [], harness := (true, "b31ba7df49121c5d9b9d8a2a43d9771d2bd51cd550143391bf9ff950187bb7d3"), looks := true }, kinds := [], alts := [], laidByText := true, laidKinds := [.sentinel], laidTests := true, laidLooks := .later }
def FnExactTaskBytesUptoCardSaid : Prop := Claim7.holds Tryd.pinned (.plain (OpenSpec.upto fnExactTaskBytesSpec)) fnExactTaskBytesUptoCard

/-- THE SECOND FORM's CARD OF 'laws.FnExactTaskRead'. -/
def fnExactTaskReadUptoCard : Claim7 := { stood := { row := fnExactTaskReadUptoRow, standIns := [], harness := (true, "b31ba7df49121c5d9b9d8a2a43d9771d2bd51cd550143391bf9ff950187bb7d3"), looks := true }, kinds := [], alts := [], laidByText := true, laidKinds := [.sentinel, .sentinel, .sentinel, .sentinel], laidTests := true, laidLooks := .later }
def FnExactTaskReadUptoCardSaid : Prop := Claim7.holds Tryd.pinned (.plain (OpenSpec.upto fnExactTaskReadSpec)) fnExactTaskReadUptoCard

/-- THE SECOND FORM's CARD OF 'laws.FnExactEventBytes'. -/
def fnExactEventBytesUptoCard : Claim7 := { stood := { row := fnExactEventBytesUptoRow, standIns := [], harness := (true, "b31ba7df49121c5d9b9d8a2a43d9771d2bd51cd550143391bf9ff950187bb7d3"), looks := true }, kinds := [], alts := [], laidByText := true, laidKinds := [.sentinel], laidTests := true, laidLooks := .later }
def FnExactEventBytesUptoCardSaid : Prop := Claim7.holds Tryd.pinned (.plain (OpenSpec.upto fnExactEventBytesSpec)) fnExactEventBytesUptoCard

/-- THE SECOND FORM's CARD OF 'laws.FnExactEventRead'. -/
def fnExactEventReadUptoCard : Claim7 := { stood := { row := fnExactEventReadUptoRow, standIns := [], harness := (true, "b31ba7df49121c5d9b9d8a2a43d9771d2bd51cd550143391bf9ff950187bb7d3"), looks := true }, kinds := [], alts := [], laidByText := true, laidKinds := [.sentinel, .sentinel, .sentinel, .sentinel], laidTests := true, laidLooks := .later }
def FnExactEventReadUptoCardSaid : Prop := Claim7.holds Tryd.pinned (.plain (OpenSpec.upto fnExactEventReadSpec)) fnExactEventReadUptoCard

/-- THE SECOND FORM's CARD OF 'laws.FnExactJournalOf'. -/
def fnExactJournalOfUptoCard : Claim7 := { stood := { row := fnExactJournalOfUptoRow, standIns := [], harness := (true, "b31ba7df49121c5d9b9d8a2a43d9771d2bd51cd550143391bf9ff950187bb7d3"), looks := true }, kinds := [], alts := [], laidByText := true, laidKinds := [.sentinel], laidTests := true, laidLooks := .later }
def FnExactJournalOfUptoCardSaid : Prop := Claim7.holds Tryd.pinned (.plain (OpenSpec.upto fnExactJournalOfSpec)) fnExactJournalOfUptoCard

/-- THE SECOND FORM's CARD OF 'laws.FnExactJournalRead'. -/
def fnExactJournalReadUptoCard : Claim7 := { stood := { row := fnExactJournalReadUptoRow, standIns := [], harness := (true, "b31ba7df49121c5d9b9d8a2a43d9771d2bd51cd550143391bf9ff950187bb7d3"), looks := true }, kinds := [], alts := [], laidByText := true, laidKinds := [.sentinel, .sentinel, .sentinel, .sentinel], laidTests := true, laidLooks := .later }
def FnExactJournalReadUptoCardSaid : Prop := Claim7.holds Tryd.pinned (.plain (OpenSpec.upto fnExactJournalReadSpec)) fnExactJournalReadUptoCard
end Rows
end Go.Proofs.YtcngiinaneefjaaDoor
