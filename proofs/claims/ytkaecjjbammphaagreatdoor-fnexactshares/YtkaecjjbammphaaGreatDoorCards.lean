/-
  DERIVED. GIVEN WITH THE SEED: THE CARDS: each row of YtkaecjjbammphaaGreatDoorRows.lean that lists a variable, with what it lists TIED to the program's text (the seventh form; the later family's looks); each row that meets fmt, with fmt's text TOLD by the authors' own Lean function (tested against real Go, not proved from fmt's source: count such statements apart). THE CARD IS WHAT COUNTS. Prove the row's statement (the work); the ties are given (YtkaecjjbammphaaGreatDoorTie.lean); close each card by the builder's one call (the guide's Derived/Test/ToyasCard.lean, 'card_holds'). Laid BY PROGRAM, IN A SANDBOX (cutbox-door.mjs). By AI agents, Wed Nov 11 2026. No macro, syntax, notation, axiom, sorry.
-/
import Derived.Test.YtkaecjjbammphaaGreatDoorRows
import GoSem.ClaimSeven
namespace Go.Proofs.YtkaecjjbammphaaGreatDoor
namespace Rows

/-- THE TIED CARD OF 'laws.FnExactShares'. -/
def fnExactSharesCard : Claim7 := { stood := { row := fnExactSharesRow, standIns := [], harness := (true, "652e28f17a4b992c1bb17f3f14f5b070f04e07d451579d01f8cbc2d45a724fa5"), looks := true }, kinds := [], alts := [], laidByText := true, laidKinds := [.sentinel, .sentinel], laidTests := true, laidLooks := .later }
def FnExactSharesCardSaid : Prop := Claim7.holds Tryz.pinned (.plain (OpenSpec.ofChange fnExactSharesSpec)) fnExactSharesCard

/-- THE SECOND FORM's CARD OF 'laws.FnExactShares'. -/
def fnExactSharesUptoCard : Claim7 := { stood := { row := fnExactSharesUptoRow, standIns := [], harness := (true, "652e28f17a4b992c1bb17f3f14f5b070f04e07d451579d01f8cbc2d45a724fa5"), looks := true }, kinds := [], alts := [], laidByText := true, laidKinds := [.sentinel, .sentinel], laidTests := true, laidLooks := .later }
def FnExactSharesUptoCardSaid : Prop := Claim7.holds Tryz.pinned (.plain (OpenSpec.upto fnExactSharesSpec)) fnExactSharesUptoCard
end Rows
end Go.Proofs.YtkaecjjbammphaaGreatDoor
