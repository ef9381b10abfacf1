/-
  DERIVED. GIVEN WITH THE SEED: THE CARDS: each row of YtflcacbpceinaaaGreatDoorRows.lean that lists a variable, with what it lists TIED to the program's text (the seventh form; the later family's looks); each row that meets fmt, with fmt's text TOLD by the authors' own Lean function (tested against real Go, not proved from fmt's source: count such statements apart). THE CARD IS WHAT COUNTS. Prove the row's statement (the work); the ties are given (YtflcacbpceinaaaGreatDoorTie.lean); close each card by the builder's one call (the guide's Derived/Test/ToyasCard.lean, 'card_holds'). Laid BY PROGRAM, IN A SANDBOX (cutbox-door.mjs). By AI agents, Wed Nov 11 2026. No macro, syntax, notation, axiom, sorry.
-/
import Derived.Test.YtflcacbpceinaaaGreatDoorRows
import GoSem.ClaimSeven
namespace Go.Proofs.YtflcacbpceinaaaGreatDoor
namespace Rows

/-- THE TIED CARD OF 'laws.FnExactTaskAdd'. -/
def fnExactTaskAddCard : Claim7 := { stood := { row := fnExactTaskAddRow, standIns := [], harness := (true, "6fbf05c8b79b0c1fe0eebbbee85197654879f826fadc5eb43a22f2be3afb320d"), looks := true }, kinds := [], alts := [], laidByText := true, laidKinds := [.handle, .sentinel], laidTests := true, laidLooks := .later }
def FnExactTaskAddCardSaid : Prop := Claim7.holds Tryz.pinned (.plain (OpenSpec.ofChange fnExactTaskAddSpec)) fnExactTaskAddCard

/-- THE TIED CARD OF 'laws.FnExactTaskDrop'. -/
def fnExactTaskDropCard : Claim7 := { stood := { row := fnExactTaskDropRow, standIns := [], harness := (true, "6fbf05c8b79b0c1fe0eebbbee85197654879f826fadc5eb43a22f2be3afb320d"), looks := true }, kinds := [], alts := [], laidByText := true, laidKinds := [.handle, .sentinel], laidTests := true, laidLooks := .later }
def FnExactTaskDropCardSaid : Prop := Claim7.holds Tryz.pinned (.plain (OpenSpec.ofChange fnExactTaskDropSpec)) fnExactTaskDropCard

/-- THE TIED CARD OF 'laws.FnExactNodeAdd'. -/
def fnExactNodeAddCard : Claim7 := { stood := { row := fnExactNodeAddRow, standIns := [], harness := (true, "6fbf05c8b79b0c1fe0eebbbee85197654879f826fadc5eb43a22f2be3afb320d"), looks := true }, kinds := [], alts := [], laidByText := true, laidKinds := [.handle, .sentinel], laidTests := true, laidLooks := .later }
def FnExactNodeAddCardSaid : Prop := Claim7.holds Tryz.pinned (.plain (OpenSpec.ofChange fnExactNodeAddSpec)) fnExactNodeAddCard

/-- THE TIED CARD OF 'laws.FnExactNodeDrop'. -/
def fnExactNodeDropCard : Claim7 := { stood := { row := fnExactNodeDropRow, standIns := [], harness := (true, "6fbf05c8b79b0c1fe0eebbbee85197654879f826fadc5eb43a22f2be3afb320d"), looks := true }, kinds := [], alts := [], laidByText := true, laidKinds := [.handle, .sentinel], laidTests := true, laidLooks := .later }
def FnExactNodeDropCardSaid : Prop := Claim7.holds Tryz.pinned (.plain (OpenSpec.ofChange fnExactNodeDropSpec)) fnExactNodeDropCard

/-- THE TIED CARD OF 'laws.FnExactCordon'. -/
def fnExactCordonCard : Claim7 := { stood := { row := fnExactCordonRow, standIns := [], harness := (true, "6fbf05c8b79b0c1fe0eebbbee85197654879f826fadc5eb43a22f2be3afb320d"), looks := true }, kinds := [], alts := [], laidByText := true, laidKinds := [.handle, .sentinel], laidTests := true, laidLooks := .later }
def FnExactCordonCardSaid : Prop := Claim7.holds Tryz.pinned (.plain (OpenSpec.ofChange fnExactCordonSpec)) fnExactCordonCard

/-- THE TIED CARD OF 'laws.FnExactBindAdd'. -/
def fnExactBindAddCard : Claim7 := { stood := { row := fnExactBindAddRow, standIns := [], harness := (true, "6fbf05c8b79b0c1fe0eebbbee85197654879f826fadc5eb43a22f2be3afb320d"), looks := true }, kinds := [], alts := [], laidByText := true, laidKinds := [.handle, .sentinel], laidTests := true, laidLooks := .later }
def FnExactBindAddCardSaid : Prop := Claim7.holds Tryz.pinned (.plain (OpenSpec.ofChange fnExactBindAddSpec)) fnExactBindAddCard

/-- THE TIED CARD OF 'laws.FnExactBindDrop'. -/
def fnExactBindDropCard : Claim7 := { stood := { row := fnExactBindDropRow, standIns := [], harness := (true, "6fbf05c8b79b0c1fe0eebbbee85197654879f826fadc5eb43a22f2be3afb320d"), looks := true }, kinds := [], alts := [], laidByText := true, laidKinds := [.handle, .sentinel], laidTests := true, laidLooks := .later }
def FnExactBindDropCardSaid : Prop := Claim7.holds Tryz.pinned (.plain (OpenSpec.ofChange fnExactBindDropSpec)) fnExactBindDropCard

/-- THE TIED CARD OF 'laws.FnExactClusterOk'. -/
def fnExactClusterOkCard : Claim7 := { stood := { row := fnExactClusterOkRow, standIns := [], harness := (true, "6fbf05c8b79b0c1fe0eebbbee85197654879f826fadc5eb43a22f2be3afb320d"), looks := true }, kinds := [], alts := [], laidByText := true, laidKinds := [.sentinel], laidTests := true, laidLooks := .later }
def FnExactClusterOkCardSaid : Prop := Claim7.holds Tryz.pinned (.plain (OpenSpec.ofChange fnExactClusterOkSpec)) fnExactClusterOkCard

/-- THE TIED CARD OF 'laws.FnExactUsed'. -/
def fnExactUsedCard : Claim7 := { stood := { row := fnExactUsedRow, standIns := [], harness := (true, "6fbf05c8b79b0c1fe0eebbbee85197654879f826fadc5eb43a22f2be3afb320d"), looks := true }, kinds := [], alts := [], laidByText := true, laidKinds := [.sentinel], laidTests := true, laidLooks := .later }
def FnExactUsedCardSaid : Prop := Claim7.holds Tryz.pinned (.plain (OpenSpec.ofChange fnExactUsedSpec)) fnExactUsedCard

/-- THE TIED CARD OF 'laws.FnExactFree'. -/
def fnExactFreeCard : Claim7 := { stood := { row := fnExactFreeRow, standIns := [], harness := (true, "6fbf05c8b79b0c1fe0eebbbee85197654879f826fadc5eb43a22f2be3afb320d"), looks := true }, kinds := [], alts := [], laidByText := true, laidKinds := [.sentinel], laidTests := true, laidLooks := .later }
def FnExactFreeCardSaid : Prop := Claim7.holds Tryz.pinned (.plain (OpenSpec.ofChange fnExactFreeSpec)) fnExactFreeCard

/-- THE TIED CARD OF 'laws.FnExactScore'. -/
def fnExactScoreCard : Claim7 := { stood := { row := fnExactScoreRow, standIns := [], harness := (true, "6fbf05c8b79b0c1fe0eebbbee85197654879f826fadc5eb43a22f2be3afb320d"), looks := true }, kinds := [], alts := [], laidByText := true, laidKinds := [.sentinel, .sentinel], laidTests := true, laidLooks := .later }
def FnExactScoreCardSaid : Prop := Claim7.holds Tryz.pinned (.plain (OpenSpec.ofChange fnExactScoreSpec)) fnExactScoreCard

/-- THE TIED CARD OF 'laws.FnExactShares'. -/
def fnExactSharesCard : Claim7 := { stood := { row := fnExactSharesRow, standIns := [], harness := (true, "6fbf05c8b79b0c1fe0eebbbee85197654879f826fadc5eb43a22f2be3afb320d"), looks := true }, kinds := [], alts := [], laidByText := true, laidKinds := [.sentinel, .sentinel], laidTests := true, laidLooks := .later }
def FnExactSharesCardSaid : Prop := Claim7.holds Tryz.pinned (.plain (OpenSpec.ofChange fnExactSharesSpec)) fnExactSharesCard

/-- THE SECOND FORM's CARD OF 'laws.FnExactTaskAdd'. -/
def fnExactTaskAddUptoCard : Claim7 := { stood := { row := fnExactTaskAddUptoRow, standIns := [], harness := (true, "6fbf05c8b79b0c1fe0eebbbee85197654879f826fadc5eb43a22f2be3afb320d"), looks := true }, kinds := [], alts := [], laidByText := true, laidKinds := [.handle, .sentinel], laidTests := true, laidLooks := .later }
def FnExactTaskAddUptoCardSaid : Prop := Claim7.holds Tryz.pinned (.plain (OpenSpec.upto fnExactTaskAddSpec)) fnExactTaskAddUptoCard

/-- THE SECOND FORM's CARD OF 'laws.FnExactTaskDrop'. -/
def fnExactTaskDropUptoCard : Claim7 := { stood := { row := fnExactTaskDropUptoRow, standIns := [], harness := (true, "6fbf05c8b79b0c1fe0eebbbee85197654879f826fadc5eb43a22f2be3afb320d"), looks := true }, kinds := [], alts := [], laidByText := true, laidKinds := [.handle, .sentinel], laidTests := true, laidLooks := .later }
def FnExactTaskDropUptoCardSaid : Prop := Claim7.holds Tryz.pinned (.plain (OpenSpec.upto fnExactTaskDropSpec)) fnExactTaskDropUptoCard

/-- THE SECOND FORM's CARD OF 'laws.FnExactNodeAdd'. -/
def fnExactNodeAddUptoCard : Claim7 := { stood := { row := fnExactNodeAddUptoRow, standIns := [], harness := (true, "6fbf05c8b79b0c1fe0eebbbee85197654879f826fadc5eb43a22f2be3afb320d"), looks := true }, kinds := [], alts := [], laidByText := true, laidKinds := [.handle, .sentinel], laidTests := true, laidLooks := .later }
def FnExactNodeAddUptoCardSaid : Prop := Claim7.holds Tryz.pinned (.plain (OpenSpec.upto fnExactNodeAddSpec)) fnExactNodeAddUptoCard

/-- THE SECOND FORM's CARD OF 'laws.FnExactNodeDrop'. -/
def fnExactNodeDropUptoCard : Claim7 := { stood := { row := fnExactNodeDropUptoRow, standIns := [], harness := (true, "6fbf05c8b79b0c1fe0eebbbee85197654879f826fadc5eb43a22f2be3afb320d"), looks := true }, kinds := [], alts := [], laidByText := true, laidKinds := [.handle, .sentinel], laidTests := true, laidLooks := .later }
def FnExactNodeDropUptoCardSaid : Prop := Claim7.holds Tryz.pinned (.plain (OpenSpec.upto fnExactNodeDropSpec)) fnExactNodeDropUptoCard

/-- THE SECOND FORM's CARD OF 'laws.FnExactCordon'. -/
def fnExactCordonUptoCard : Claim7 := { stood := { row := fnExactCordonUptoRow, standIns := [], harness := (true, "6fbf05c8b79b0c1fe0eebbbee85197654879f826fadc5eb43a22f2be3afb320d"), looks := true }, kinds := [], alts := [], laidByText := true, laidKinds := [.handle, .sentinel], laidTests := true, laidLooks := .later }
def FnExactCordonUptoCardSaid : Prop := Claim7.holds Tryz.pinned (.plain (OpenSpec.upto fnExactCordonSpec)) fnExactCordonUptoCard

/-- THE SECOND FORM's CARD OF 'laws.FnExactBindAdd'. -/
def fnExactBindAddUptoCard : Claim7 := { stood := { row := fnExactBindAddUptoRow, standIns := [], harness := (true, "6fbf05c8b79b0c1fe0eebbbee85197654879f826fadc5eb43a22f2be3afb320d"), looks := true }, kinds := [], alts := [], laidByText := true, laidKinds := [.handle, .sentinel], laidTests := true, laidLooks := .later }
def FnExactBindAddUptoCardSaid : Prop := Claim7.holds Tryz.pinned (.plain (OpenSpec.upto fnExactBindAddSpec)) fnExactBindAddUptoCard

/-- THE SECOND FORM's CARD OF 'laws.FnExactBindDrop'. -/
def fnExactBindDropUptoCard : Claim7 := { stood := { row := fnExactBindDropUptoRow, standIns := [], harness := (true, "6fbf05c8b79b0c1fe0eebbbee85197654879f826fadc5eb43a22f2be3afb320d"), looks := true }, kinds := [], alts := [], laidByText := true, laidKinds := [.handle, .sentinel], laidTests := true, laidLooks := .later }
def FnExactBindDropUptoCardSaid : Prop := Claim7.holds Tryz.pinned (.plain (OpenSpec.upto fnExactBindDropSpec)) fnExactBindDropUptoCard

/-- THE SECOND FORM's CARD OF 'laws.FnExactClusterOk'. -/
def fnExactClusterOkUptoCard : Claim7 := { stood := { row := fnExactClusterOkUptoRow, standIns := [], harness := (true, "6fbf05c8b79b0c1fe0eebbbee85197654879f826fadc5eb43a22f2be3afb320d"), looks := true }, kinds := [], alts := [], laidByText := true, laidKinds := [.sentinel], laidTests := true, laidLooks := .later }
def FnExactClusterOkUptoCardSaid : Prop := Claim7.holds Tryz.pinned (.plain (OpenSpec.upto fnExactClusterOkSpec)) fnExactClusterOkUptoCard

/-- THE SECOND FORM's CARD OF 'laws.FnExactUsed'. -/
def fnExactUsedUptoCard : Claim7 := { stood := { row := fnExactUsedUptoRow, standIns := [], harness := (true, "6fbf05c8b79b0c1fe0eebbbee85197654879f826fadc5eb43a22f2be3afb320d"), looks := true }, kinds := [], alts := [], laidByText := true, laidKinds := [.sentinel], laidTests := true, laidLooks := .later }
def FnExactUsedUptoCardSaid : Prop := Claim7.holds Tryz.pinned (.plain (OpenSpec.upto fnExactUsedSpec)) fnExactUsedUptoCard

/-- THE SECOND FORM's CARD OF 'laws.FnExactFree'. -/
def fnExactFreeUptoCard : Claim7 := { stood := { row := fnExactFreeUptoRow, standIns := [], harness := (true, "6fbf05c8b79b0c1fe0eebbbee85197654879f826fadc5eb43a22f2be3afb320d"), looks := true }, kinds := [], alts := [], laidByText := true, laidKinds := [.sentinel], laidTests := true, laidLooks := .later }
def FnExactFreeUptoCardSaid : Prop := Claim7.holds Tryz.pinned (.plain (OpenSpec.upto fnExactFreeSpec)) fnExactFreeUptoCard

/-- THE SECOND FORM's CARD OF 'laws.FnExactScore'. -/
def fnExactScoreUptoCard : Claim7 := { stood := { row := fnExactScoreUptoRow, standIns := [], harness := (true, "6fbf05c8b79b0c1fe0eebbbee85197654879f826fadc5eb43a22f2be3afb320d"), looks := true }, kinds := [], alts := [], laidByText := true, laidKinds := [.sentinel, .sentinel], laidTests := true, laidLooks := .later }
def FnExactScoreUptoCardSaid : Prop := Claim7.holds Tryz.pinned (.plain (OpenSpec.upto fnExactScoreSpec)) fnExactScoreUptoCard

/-- THE SECOND FORM's CARD OF 'laws.FnExactShares'. -/
def fnExactSharesUptoCard : Claim7 := { stood := { row := fnExactSharesUptoRow, standIns := [], harness := (true, "6fbf05c8b79b0c1fe0eebbbee85197654879f826fadc5eb43a22f2be3afb320d"), looks := true }, kinds := [], alts := [], laidByText := true, laidKinds := [.sentinel, .sentinel], laidTests := true, laidLooks := .later }
def FnExactSharesUptoCardSaid : Prop := Claim7.holds Tryz.pinned (.plain (OpenSpec.upto fnExactSharesSpec)) fnExactSharesUptoCard
end Rows
end Go.Proofs.YtflcacbpceinaaaGreatDoor
