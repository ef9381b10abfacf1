/-
  DERIVED. GIVEN WITH THE SEED: THE CARDS: each row of YtcegofdmdemcbaaGreatDoorRows.lean that lists a variable, with what it lists TIED to the program's text (the seventh form; the later family's looks); each row that meets fmt, with fmt's text TOLD by the authors' own Lean function (tested against real Go, not proved from fmt's source: count such statements apart). THE CARD IS WHAT COUNTS. Prove the row's statement (the work); the ties are given (YtcegofdmdemcbaaGreatDoorTie.lean); close each card by the builder's one call (the guide's Derived/Test/ToyasCard.lean, 'card_holds'). Laid BY PROGRAM, IN A SANDBOX (cutbox-door.mjs). By AI agents, Wed Nov 11 2026. No macro, syntax, notation, axiom, sorry.
-/
import Derived.Test.YtcegofdmdemcbaaGreatDoorRows
import GoSem.ClaimSeven
namespace Go.Proofs.YtcegofdmdemcbaaGreatDoor
namespace Rows

/-- THE TIED CARD OF 'laws.FnExactWorldNew'. -/
def fnExactWorldNewCard : Claim7 := { stood := { row := fnExactWorldNewRow, standIns := [], harness := (true, "f2df334f4e9b1c468f4782c7cfa6994b2ac6e54ff44d66589af48a4883411543"), looks := true }, kinds := [], alts := [], laidByText := true, laidKinds := [.sentinel], laidTests := true, laidLooks := .later }
def FnExactWorldNewCardSaid : Prop := Claim7.holds Tryz.pinned (.plain (OpenSpec.ofChange fnExactWorldNewSpec)) fnExactWorldNewCard

/-- THE TIED CARD OF 'laws.FnExactWorldOk'. -/
def fnExactWorldOkCard : Claim7 := { stood := { row := fnExactWorldOkRow, standIns := [], harness := (true, "f2df334f4e9b1c468f4782c7cfa6994b2ac6e54ff44d66589af48a4883411543"), looks := true }, kinds := [], alts := [], laidByText := true, laidKinds := [.sentinel], laidTests := true, laidLooks := .later }
def FnExactWorldOkCardSaid : Prop := Claim7.holds Tryz.pinned (.plain (OpenSpec.ofChange fnExactWorldOkSpec)) fnExactWorldOkCard

/-- THE TIED CARD OF 'laws.FnExactLeader'. -/
def fnExactLeaderCard : Claim7 := { stood := { row := fnExactLeaderRow, standIns := [], harness := (true, "f2df334f4e9b1c468f4782c7cfa6994b2ac6e54ff44d66589af48a4883411543"), looks := true }, kinds := [], alts := [], laidByText := true, laidKinds := [.sentinel], laidTests := true, laidLooks := .later }
def FnExactLeaderCardSaid : Prop := Claim7.holds Tryz.pinned (.plain (OpenSpec.ofChange fnExactLeaderSpec)) fnExactLeaderCard

/-- THE TIED CARD OF 'laws.FnExactWorldSafe'. -/
def fnExactWorldSafeCard : Claim7 := { stood := { row := fnExactWorldSafeRow, standIns := [], harness := (true, "f2df334f4e9b1c468f4782c7cfa6994b2ac6e54ff44d66589af48a4883411543"), looks := true }, kinds := [], alts := [], laidByText := true, laidKinds := [.sentinel], laidTests := true, laidLooks := .later }
def FnExactWorldSafeCardSaid : Prop := Claim7.holds Tryz.pinned (.plain (OpenSpec.ofChange fnExactWorldSafeSpec)) fnExactWorldSafeCard

/-- THE SECOND FORM's CARD OF 'laws.FnExactWorldNew'. -/
def fnExactWorldNewUptoCard : Claim7 := { stood := { row := fnExactWorldNewUptoRow, standIns := [], harness := (true, "f2df334f4e9b1c468f4782c7cfa6994b2ac6e54ff44d66589af48a4883411543"), looks := true }, kinds := [], alts := [], laidByText := true, laidKinds := [.sentinel], laidTests := true, laidLooks := .later }
def FnExactWorldNewUptoCardSaid : Prop := Claim7.holds Tryz.pinned (.plain (OpenSpec.upto fnExactWorldNewSpec)) fnExactWorldNewUptoCard

/-- THE SECOND FORM's CARD OF 'laws.FnExactWorldOk'. -/
def fnExactWorldOkUptoCard : Claim7 := { stood := { row := fnExactWorldOkUptoRow, standIns := [], harness := (true, "f2df334f4e9b1c468f4782c7cfa6994b2ac6e54ff44d66589af48a4883411543"), looks := true }, kinds := [], alts := [], laidByText := true, laidKinds := [.sentinel], laidTests := true, laidLooks := .later }
def FnExactWorldOkUptoCardSaid : Prop := Claim7.holds Tryz.pinned (.plain (OpenSpec.upto fnExactWorldOkSpec)) fnExactWorldOkUptoCard

/-- THE SECOND FORM's CARD OF 'laws.FnExactLeader'. -/
def fnExactLeaderUptoCard : Claim7 := { stood := { row := fnExactLeaderUptoRow, standIns := [], harness := (true, "f2df334f4e9b1c468f4782c7cfa6994b2ac6e54ff44d66589af48a4883411543"), looks := true }, kinds := [], alts := [], laidByText := true, laidKinds := [.sentinel], laidTests := true, laidLooks := .later }
def FnExactLeaderUptoCardSaid : Prop := Claim7.holds Tryz.pinned (.plain (OpenSpec.upto fnExactLeaderSpec)) fnExactLeaderUptoCard

/-- THE SECOND FORM's CARD OF 'laws.FnExactWorldSafe'. -/
def fnExactWorldSafeUptoCard : Claim7 := { stood := { row := fnExactWorldSafeUptoRow, standIns := [], harness := (true, "f2df334f4e9b1c468f4782c7cfa6994b2ac6e54ff44d66589af48a4883411543"), looks := true }, kinds := [], alts := [], laidByText := true, laidKinds := [.sentinel], laidTests := true, laidLooks := .later }
def FnExactWorldSafeUptoCardSaid : Prop := Claim7.holds Tryz.pinned (.plain (OpenSpec.upto fnExactWorldSafeSpec)) fnExactWorldSafeUptoCard
end Rows
end Go.Proofs.YtcegofdmdemcbaaGreatDoor
