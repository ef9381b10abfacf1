/-
  DERIVED. GIVEN WITH THE SEED: THE CARDS: each row of YtkalplgpmoknoaaGreatDoorRows.lean that lists a variable, with what it lists TIED to the program's text (the seventh form; the later family's looks); each row that meets fmt, with fmt's text TOLD by the authors' own Lean function (tested against real Go, not proved from fmt's source: count such statements apart). THE CARD IS WHAT COUNTS. Prove the row's statement (the work); the ties are given (YtkalplgpmoknoaaGreatDoorTie.lean); close each card by the builder's one call (the guide's Derived/Test/ToyasCard.lean, 'card_holds'). Laid BY PROGRAM, IN A SANDBOX (cutbox-door.mjs). By AI agents, Wed Nov 11 2026. No macro, syntax, notation, axiom, sorry.
-/
import Derived.Test.YtkalplgpmoknoaaGreatDoorRows
import GoSem.ClaimSeven
namespace Go.Proofs.YtkalplgpmoknoaaGreatDoor
namespace Rows

/-- THE TIED CARD OF 'laws.FnExactClusterOk'. -/
def fnExactClusterOkCard : Claim7 := { stood := { row := fnExactClusterOkRow, standIns := [], harness := (true, "076fb455dc70322560799af7f3f497cf2c4cbfd8a635b89c7c8bb6d3a90df3b7"), looks := true }, kinds := [], alts := [], laidByText := true, laidKinds := [.sentinel], laidTests := true, laidLooks := .later }
def FnExactClusterOkCardSaid : Prop := Claim7.holds Tryz.pinned (.plain (OpenSpec.ofChange fnExactClusterOkSpec)) fnExactClusterOkCard

/-- THE TIED CARD OF 'laws.FnExactUsed'. -/
def fnExactUsedCard : Claim7 := { stood := { row := fnExactUsedRow, standIns := [], harness := (true, "076fb455dc70322560799af7f3f497cf2c4cbfd8a635b89c7c8bb6d3a90df3b7"), looks := true }, kinds := [], alts := [], laidByText := true, laidKinds := [.sentinel], laidTests := true, laidLooks := .later }
def FnExactUsedCardSaid : Prop := Claim7.holds Tryz.pinned (.plain (OpenSpec.ofChange fnExactUsedSpec)) fnExactUsedCard

/-- THE TIED CARD OF 'laws.FnExactFree'. -/
def fnExactFreeCard : Claim7 := { stood := { row := fnExactFreeRow, standIns := [], harness := (true, "076fb455dc70322560799af7f3f497cf2c4cbfd8a635b89c7c8bb6d3a90df3b7"), looks := true }, kinds := [], alts := [], laidByText := true, laidKinds := [.sentinel], laidTests := true, laidLooks := .later }
def FnExactFreeCardSaid : Prop := Claim7.holds Tryz.pinned (.plain (OpenSpec.ofChange fnExactFreeSpec)) fnExactFreeCard

/-- THE TIED CARD OF 'laws.FnExactNodeOf'. -/
def fnExactNodeOfCard : Claim7 := { stood := { row := fnExactNodeOfRow, standIns := [], harness := (true, "076fb455dc70322560799af7f3f497cf2c4cbfd8a635b89c7c8bb6d3a90df3b7"), looks := true }, kinds := [], alts := [], laidByText := true, laidKinds := [.sentinel], laidTests := true, laidLooks := .later }
def FnExactNodeOfCardSaid : Prop := Claim7.holds Tryz.pinned (.plain (OpenSpec.ofChange fnExactNodeOfSpec)) fnExactNodeOfCard

/-- THE TIED CARD OF 'laws.FnUsed'. -/
def fnUsedCard : Claim7 := { stood := { row := fnUsedRow, standIns := [], harness := (true, "076fb455dc70322560799af7f3f497cf2c4cbfd8a635b89c7c8bb6d3a90df3b7"), looks := true }, kinds := [], alts := [], laidByText := true, laidKinds := [.sentinel], laidTests := true, laidLooks := .later }
def FnUsedCardSaid : Prop := Claim7.holds Tryz.pinned (.plain (OpenSpec.ofChange fnUsedSpec)) fnUsedCard

/-- THE SECOND FORM's CARD OF 'laws.FnExactClusterOk'. -/
def fnExactClusterOkUptoCard : Claim7 := { stood := { row := fnExactClusterOkUptoRow, standIns := [], harness := (true, "076fb455dc70322560799af7f3f497cf2c4cbfd8a635b89c7c8bb6d3a90df3b7"), looks := true }, kinds := [], alts := [], laidByText := true, laidKinds := [.sentinel], laidTests := true, laidLooks := .later }
def FnExactClusterOkUptoCardSaid : Prop := Claim7.holds Tryz.pinned (.plain (OpenSpec.upto fnExactClusterOkSpec)) fnExactClusterOkUptoCard

/-- THE SECOND FORM's CARD OF 'laws.FnExactUsed'. -/
def fnExactUsedUptoCard : Claim7 := { stood := { row := fnExactUsedUptoRow, standIns := [], harness := (true, "076fb455dc70322560799af7f3f497cf2c4cbfd8a635b89c7c8bb6d3a90df3b7"), looks := true }, kinds := [], alts := [], laidByText := true, laidKinds := [.sentinel], laidTests := true, laidLooks := .later }
def FnExactUsedUptoCardSaid : Prop := Claim7.holds Tryz.pinned (.plain (OpenSpec.upto fnExactUsedSpec)) fnExactUsedUptoCard

/-- THE SECOND FORM's CARD OF 'laws.FnExactFree'. -/
def fnExactFreeUptoCard : Claim7 := { stood := { row := fnExactFreeUptoRow, standIns := [], harness := (true, "076fb455dc70322560799af7f3f497cf2c4cbfd8a635b89c7c8bb6d3a90df3b7"), looks := true }, kinds := [], alts := [], laidByText := true, laidKinds := [.sentinel], laidTests := true, laidLooks := .later }
def FnExactFreeUptoCardSaid : Prop := Claim7.holds Tryz.pinned (.plain (OpenSpec.upto fnExactFreeSpec)) fnExactFreeUptoCard

/-- THE SECOND FORM's CARD OF 'laws.FnExactNodeOf'. -/
def fnExactNodeOfUptoCard : Claim7 := { stood := { row := fnExactNodeOfUptoRow, standIns := [], harness := (true, "076fb455dc70322560799af7f3f497cf2c4cbfd8a635b89c7c8bb6d3a90df3b7"), looks := true }, kinds := [], alts := [], laidByText := true, laidKinds := [.sentinel], laidTests := true, laidLooks := .later }
def FnExactNodeOfUptoCardSaid : Prop := Claim7.holds Tryz.pinned (.plain (OpenSpec.upto fnExactNodeOfSpec)) fnExactNodeOfUptoCard

/-- THE SECOND FORM's CARD OF 'laws.FnUsed'. -/
def fnUsedUptoCard : Claim7 := { stood := { row := fnUsedUptoRow, standIns := [], harness := (true, "076fb455dc70322560799af7f3f497cf2c4cbfd8a635b89c7c8bb6d3a90df3b7"), looks := true }, kinds := [], alts := [], laidByText := true, laidKinds := [.sentinel], laidTests := true, laidLooks := .later }
def FnUsedUptoCardSaid : Prop := Claim7.holds Tryz.pinned (.plain (OpenSpec.upto fnUsedSpec)) fnUsedUptoCard
end Rows
end Go.Proofs.YtkalplgpmoknoaaGreatDoor
