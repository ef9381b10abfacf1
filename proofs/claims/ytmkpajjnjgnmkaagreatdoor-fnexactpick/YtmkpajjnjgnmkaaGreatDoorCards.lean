/-
  DERIVED. GIVEN WITH THE SEED: THE CARDS: each row of YtmkpajjnjgnmkaaGreatDoorRows.lean that lists a variable, with what it lists TIED to the program's text (the seventh form; the later family's looks); each row that meets fmt, with fmt's text TOLD by the authors' own Lean function (tested against real Go, not proved from fmt's source: count such statements apart). THE CARD IS WHAT COUNTS. Prove the row's statement (the work); the ties are given (YtmkpajjnjgnmkaaGreatDoorTie.lean); close each card by the builder's one call (the guide's Derived/Test/ToyasCard.lean, 'card_holds'). Laid BY PROGRAM, IN A SANDBOX (cutbox-door.mjs). By AI agents, Wed Nov 11 2026. No macro, syntax, notation, axiom, sorry.
-/
import Derived.Test.YtmkpajjnjgnmkaaGreatDoorRows
import GoSem.ClaimSeven
namespace Go.Proofs.YtmkpajjnjgnmkaaGreatDoor
namespace Rows

/-- THE TIED CARD OF 'laws.FnExactMayHost'. -/
def fnExactMayHostCard : Claim7 := { stood := { row := fnExactMayHostRow, standIns := [], harness := (true, "2e7ecaaa80bc0541d2bf788b120fd814a4cedba812ddbc60a5d9a55bae3a75f1"), looks := true }, kinds := [], alts := [], laidByText := true, laidKinds := [.sentinel], laidTests := true, laidLooks := .later }
def FnExactMayHostCardSaid : Prop := Claim7.holds Tryz.pinned (.plain (OpenSpec.ofChange fnExactMayHostSpec)) fnExactMayHostCard

/-- THE TIED CARD OF 'laws.FnExactMovesOf'. -/
def fnExactMovesOfCard : Claim7 := { stood := { row := fnExactMovesOfRow, standIns := [], harness := (true, "2e7ecaaa80bc0541d2bf788b120fd814a4cedba812ddbc60a5d9a55bae3a75f1"), looks := true }, kinds := [], alts := [], laidByText := true, laidKinds := [.sentinel], laidTests := true, laidLooks := .later }
def FnExactMovesOfCardSaid : Prop := Claim7.holds Tryz.pinned (.plain (OpenSpec.ofChange fnExactMovesOfSpec)) fnExactMovesOfCard

/-- THE TIED CARD OF 'laws.FnExactSpreadOf'. -/
def fnExactSpreadOfCard : Claim7 := { stood := { row := fnExactSpreadOfRow, standIns := [], harness := (true, "2e7ecaaa80bc0541d2bf788b120fd814a4cedba812ddbc60a5d9a55bae3a75f1"), looks := true }, kinds := [], alts := [], laidByText := true, laidKinds := [.sentinel], laidTests := true, laidLooks := .later }
def FnExactSpreadOfCardSaid : Prop := Claim7.holds Tryz.pinned (.plain (OpenSpec.ofChange fnExactSpreadOfSpec)) fnExactSpreadOfCard

/-- THE TIED CARD OF 'laws.FnExactSkew'. -/
def fnExactSkewCard : Claim7 := { stood := { row := fnExactSkewRow, standIns := [], harness := (true, "2e7ecaaa80bc0541d2bf788b120fd814a4cedba812ddbc60a5d9a55bae3a75f1"), looks := true }, kinds := [], alts := [], laidByText := true, laidKinds := [.sentinel], laidTests := true, laidLooks := .later }
def FnExactSkewCardSaid : Prop := Claim7.holds Tryz.pinned (.plain (OpenSpec.ofChange fnExactSkewSpec)) fnExactSkewCard

/-- THE TIED CARD OF 'laws.FnExactClusterOk'. -/
def fnExactClusterOkCard : Claim7 := { stood := { row := fnExactClusterOkRow, standIns := [], harness := (true, "2e7ecaaa80bc0541d2bf788b120fd814a4cedba812ddbc60a5d9a55bae3a75f1"), looks := true }, kinds := [], alts := [], laidByText := true, laidKinds := [.sentinel], laidTests := true, laidLooks := .later }
def FnExactClusterOkCardSaid : Prop := Claim7.holds Tryz.pinned (.plain (OpenSpec.ofChange fnExactClusterOkSpec)) fnExactClusterOkCard

/-- THE TIED CARD OF 'laws.FnExactUsed'. -/
def fnExactUsedCard : Claim7 := { stood := { row := fnExactUsedRow, standIns := [], harness := (true, "2e7ecaaa80bc0541d2bf788b120fd814a4cedba812ddbc60a5d9a55bae3a75f1"), looks := true }, kinds := [], alts := [], laidByText := true, laidKinds := [.sentinel], laidTests := true, laidLooks := .later }
def FnExactUsedCardSaid : Prop := Claim7.holds Tryz.pinned (.plain (OpenSpec.ofChange fnExactUsedSpec)) fnExactUsedCard

/-- THE TIED CARD OF 'laws.FnExactFree'. -/
def fnExactFreeCard : Claim7 := { stood := { row := fnExactFreeRow, standIns := [], harness := (true, "2e7ecaaa80bc0541d2bf788b120fd814a4cedba812ddbc60a5d9a55bae3a75f1"), looks := true }, kinds := [], alts := [], laidByText := true, laidKinds := [.sentinel], laidTests := true, laidLooks := .later }
def FnExactFreeCardSaid : Prop := Claim7.holds Tryz.pinned (.plain (OpenSpec.ofChange fnExactFreeSpec)) fnExactFreeCard

/-- THE TIED CARD OF 'laws.FnExactNodeOf'. -/
def fnExactNodeOfCard : Claim7 := { stood := { row := fnExactNodeOfRow, standIns := [], harness := (true, "2e7ecaaa80bc0541d2bf788b120fd814a4cedba812ddbc60a5d9a55bae3a75f1"), looks := true }, kinds := [], alts := [], laidByText := true, laidKinds := [.sentinel], laidTests := true, laidLooks := .later }
def FnExactNodeOfCardSaid : Prop := Claim7.holds Tryz.pinned (.plain (OpenSpec.ofChange fnExactNodeOfSpec)) fnExactNodeOfCard

/-- THE TIED CARD OF 'laws.FnExactPick'. -/
def fnExactPickCard : Claim7 := { stood := { row := fnExactPickRow, standIns := [], harness := (true, "2e7ecaaa80bc0541d2bf788b120fd814a4cedba812ddbc60a5d9a55bae3a75f1"), looks := true }, kinds := [], alts := [], laidByText := true, laidKinds := [.sentinel, .sentinel], laidTests := true, laidLooks := .later }
def FnExactPickCardSaid : Prop := Claim7.holds Tryz.pinned (.plain (OpenSpec.ofChange fnExactPickSpec)) fnExactPickCard

/-- THE TIED CARD OF 'laws.FnExactQueue'. -/
def fnExactQueueCard : Claim7 := { stood := { row := fnExactQueueRow, standIns := [], harness := (true, "2e7ecaaa80bc0541d2bf788b120fd814a4cedba812ddbc60a5d9a55bae3a75f1"), looks := true }, kinds := [], alts := [], laidByText := true, laidKinds := [.sentinel], laidTests := true, laidLooks := .later }
def FnExactQueueCardSaid : Prop := Claim7.holds Tryz.pinned (.plain (OpenSpec.ofChange fnExactQueueSpec)) fnExactQueueCard

/-- THE TIED CARD OF 'laws.FnExactScore'. -/
def fnExactScoreCard : Claim7 := { stood := { row := fnExactScoreRow, standIns := [], harness := (true, "2e7ecaaa80bc0541d2bf788b120fd814a4cedba812ddbc60a5d9a55bae3a75f1"), looks := true }, kinds := [], alts := [], laidByText := true, laidKinds := [.sentinel, .sentinel], laidTests := true, laidLooks := .later }
def FnExactScoreCardSaid : Prop := Claim7.holds Tryz.pinned (.plain (OpenSpec.ofChange fnExactScoreSpec)) fnExactScoreCard

/-- THE SECOND FORM's CARD OF 'laws.FnExactMayHost'. -/
def fnExactMayHostUptoCard : Claim7 := { stood := { row := fnExactMayHostUptoRow, standIns := [], harness := (true, "2e7ecaaa80bc0541d2bf788b120fd814a4cedba812ddbc60a5d9a55bae3a75f1"), looks := true }, kinds := [], alts := [], laidByText := true, laidKinds := [.sentinel], laidTests := true, laidLooks := .later }
def FnExactMayHostUptoCardSaid : Prop := Claim7.holds Tryz.pinned (.plain (OpenSpec.upto fnExactMayHostSpec)) fnExactMayHostUptoCard

/-- THE SECOND FORM's CARD OF 'laws.FnExactMovesOf'. -/
def fnExactMovesOfUptoCard : Claim7 := { stood := { row := fnExactMovesOfUptoRow, standIns := [], harness := (true, "2e7ecaaa80bc0541d2bf788b120fd814a4cedba812ddbc60a5d9a55bae3a75f1"), looks := true }, kinds := [], alts := [], laidByText := true, laidKinds := [.sentinel], laidTests := true, laidLooks := .later }
def FnExactMovesOfUptoCardSaid : Prop := Claim7.holds Tryz.pinned (.plain (OpenSpec.upto fnExactMovesOfSpec)) fnExactMovesOfUptoCard

/-- THE SECOND FORM's CARD OF 'laws.FnExactSpreadOf'. -/
def fnExactSpreadOfUptoCard : Claim7 := { stood := { row := fnExactSpreadOfUptoRow, standIns := [], harness := (true, "2e7ecaaa80bc0541d2bf788b120fd814a4cedba812ddbc60a5d9a55bae3a75f1"), looks := true }, kinds := [], alts := [], laidByText := true, laidKinds := [.sentinel], laidTests := true, laidLooks := .later }
def FnExactSpreadOfUptoCardSaid : Prop := Claim7.holds Tryz.pinned (.plain (OpenSpec.upto fnExactSpreadOfSpec)) fnExactSpreadOfUptoCard

/-- THE SECOND FORM's CARD OF 'laws.FnExactSkew'. -/
def fnExactSkewUptoCard : Claim7 := { stood := { row := fnExactSkewUptoRow, standIns := [], harness := (true, "2e7ecaaa80bc0541d2bf788b120fd814a4cedba812ddbc60a5d9a55bae3a75f1"), looks := true }, kinds := [], alts := [], laidByText := true, laidKinds := [.sentinel], laidTests := true, laidLooks := .later }
def FnExactSkewUptoCardSaid : Prop := Claim7.holds Tryz.pinned (.plain (OpenSpec.upto fnExactSkewSpec)) fnExactSkewUptoCard

/-- THE SECOND FORM's CARD OF 'laws.FnExactClusterOk'. -/
def fnExactClusterOkUptoCard : Claim7 := { stood := { row := fnExactClusterOkUptoRow, standIns := [], harness := (true, "2e7ecaaa80bc0541d2bf788b120fd814a4cedba812ddbc60a5d9a55bae3a75f1"), looks := true }, kinds := [], alts := [], laidByText := true, laidKinds := [.sentinel], laidTests := true, laidLooks := .later }
def FnExactClusterOkUptoCardSaid : Prop := Claim7.holds Tryz.pinned (.plain (OpenSpec.upto fnExactClusterOkSpec)) fnExactClusterOkUptoCard

/-- THE SECOND FORM's CARD OF 'laws.FnExactUsed'. -/
def fnExactUsedUptoCard : Claim7 := { stood := { row := fnExactUsedUptoRow, standIns := [], harness := (true, "2e7ecaaa80bc0541d2bf788b120fd814a4cedba812ddbc60a5d9a55bae3a75f1"), looks := true }, kinds := [], alts := [], laidByText := true, laidKinds := [.sentinel], laidTests := true, laidLooks := .later }
def FnExactUsedUptoCardSaid : Prop := Claim7.holds Tryz.pinned (.plain (OpenSpec.upto fnExactUsedSpec)) fnExactUsedUptoCard

/-- THE SECOND FORM's CARD OF 'laws.FnExactFree'. -/
def fnExactFreeUptoCard : Claim7 := { stood := { row := fnExactFreeUptoRow, standIns := [], harness := (true, "2e7ecaaa80bc0541d2bf788b120fd814a4cedba812ddbc60a5d9a55bae3a75f1"), looks := true }, kinds := [], alts := [], laidByText := true, laidKinds := [.sentinel], laidTests := true, laidLooks := .later }
def FnExactFreeUptoCardSaid : Prop := Claim7.holds Tryz.pinned (.plain (OpenSpec.upto fnExactFreeSpec)) fnExactFreeUptoCard

/-- THE SECOND FORM's CARD OF 'laws.FnExactNodeOf'. -/
def fnExactNodeOfUptoCard : Claim7 := { stood := { row := fnExactNodeOfUptoRow, standIns := [], harness := (true, "2e7ecaaa80bc0541d2bf788b120fd814a4cedba812ddbc60a5d9a55bae3a75f1"), looks := true }, kinds := [], alts := [], laidByText := true, laidKinds := [.sentinel], laidTests := true, laidLooks := .later }
def FnExactNodeOfUptoCardSaid : Prop := Claim7.holds Tryz.pinned (.plain (OpenSpec.upto fnExactNodeOfSpec)) fnExactNodeOfUptoCard

/-- THE SECOND FORM's CARD OF 'laws.FnExactPick'. -/
def fnExactPickUptoCard : Claim7 := { stood := { row := fnExactPickUptoRow, standIns := [], harness := (true, "2e7ecaaa80bc0541d2bf788b120fd814a4cedba812ddbc60a5d9a55bae3a75f1"), looks := true }, kinds := [], alts := [], laidByText := true, laidKinds := [.sentinel, .sentinel], laidTests := true, laidLooks := .later }
def FnExactPickUptoCardSaid : Prop := Claim7.holds Tryz.pinned (.plain (OpenSpec.upto fnExactPickSpec)) fnExactPickUptoCard

/-- THE SECOND FORM's CARD OF 'laws.FnExactQueue'. -/
def fnExactQueueUptoCard : Claim7 := { stood := { row := fnExactQueueUptoRow, standIns := [], harness := (true, "2e7ecaaa80bc0541d2bf788b120fd814a4cedba812ddbc60a5d9a55bae3a75f1"), looks := true }, kinds := [], alts := [], laidByText := true, laidKinds := [.sentinel], laidTests := true, laidLooks := .later }
def FnExactQueueUptoCardSaid : Prop := Claim7.holds Tryz.pinned (.plain (OpenSpec.upto fnExactQueueSpec)) fnExactQueueUptoCard

/-- THE SECOND FORM's CARD OF 'laws.FnExactScore'. -/
def fnExactScoreUptoCard : Claim7 := { stood := { row := fnExactScoreUptoRow, standIns := [], harness := (true, "2e7ecaaa80bc0541d2bf788b120fd814a4cedba812ddbc60a5d9a55bae3a75f1"), looks := true }, kinds := [], alts := [], laidByText := true, laidKinds := [.sentinel, .sentinel], laidTests := true, laidLooks := .later }
def FnExactScoreUptoCardSaid : Prop := Claim7.holds Tryz.pinned (.plain (OpenSpec.upto fnExactScoreSpec)) fnExactScoreUptoCard
end Rows
end Go.Proofs.YtmkpajjnjgnmkaaGreatDoor
