/-
  DERIVED. GIVEN WITH THE SEED: THE CARDS: each row of YtfgdefgnhhimcaaDoorRows.lean that lists a variable, with what it lists TIED to the program's text (the seventh form; the later family's looks); each row that meets fmt, with fmt's text TOLD by the authors' own Lean function (tested against real Go, not proved from fmt's source: count such statements apart). THE CARD IS WHAT COUNTS. Prove the row's statement (the work); the ties are given (YtfgdefgnhhimcaaDoorTie.lean); close each card by the builder's one call (the guide's Derived/Test/ToyasCard.lean, 'card_holds'). Laid BY PROGRAM, IN A SANDBOX (cutbox-door.mjs). By AI agents, Wed Nov 11 2026. No macro, syntax, notation, axiom, sorry.
-/
import Derived.Test.YtfgdefgnhhimcaaDoorRows
import GoSem.ClaimSeven
namespace Go.Proofs.YtfgdefgnhhimcaaDoor
namespace Rows

/-- THE TIED CARD OF 'laws.FnRes'. -/
def fnResCard : Claim7 := { stood := { row := fnResRow, standIns := [], harness := (true, "7900dfa55a609292fe4b5697f10effa6903a3216cacf4e05c4c3fe9c57995a9f"), looks := true }, kinds := [], alts := [], laidByText := true, laidKinds := [.sentinel], laidTests := true, laidLooks := .later }
def FnResCardSaid : Prop := Claim7.holds Tryd.pinned (.plain (OpenSpec.ofChange fnResSpec)) fnResCard

/-- THE TIED CARD OF 'laws.FnTimes'. -/
def fnTimesCard : Claim7 := { stood := { row := fnTimesRow, standIns := [], harness := (true, "7900dfa55a609292fe4b5697f10effa6903a3216cacf4e05c4c3fe9c57995a9f"), looks := true }, kinds := [], alts := [], laidByText := true, laidKinds := [.sentinel], laidTests := true, laidLooks := .later }
def FnTimesCardSaid : Prop := Claim7.holds Tryd.pinned (.plain (OpenSpec.ofChange fnTimesSpec)) fnTimesCard

/-- THE TIED CARD OF 'laws.FnShare'. -/
def fnShareCard : Claim7 := { stood := { row := fnShareRow, standIns := [], harness := (true, "7900dfa55a609292fe4b5697f10effa6903a3216cacf4e05c4c3fe9c57995a9f"), looks := true }, kinds := [], alts := [], laidByText := true, laidKinds := [.sentinel, .sentinel], laidTests := true, laidLooks := .later }
def FnShareCardSaid : Prop := Claim7.holds Tryd.pinned (.plain (OpenSpec.ofChange fnShareSpec)) fnShareCard

/-- THE TIED CARD OF 'laws.FnExactResOk'. -/
def fnExactResOkCard : Claim7 := { stood := { row := fnExactResOkRow, standIns := [], harness := (true, "7900dfa55a609292fe4b5697f10effa6903a3216cacf4e05c4c3fe9c57995a9f"), looks := true }, kinds := [], alts := [], laidByText := true, laidKinds := [.sentinel], laidTests := true, laidLooks := .later }
def FnExactResOkCardSaid : Prop := Claim7.holds Tryd.pinned (.plain (OpenSpec.ofChange fnExactResOkSpec)) fnExactResOkCard

/-- THE TIED CARD OF 'laws.FnExactResAdd'. -/
def fnExactResAddCard : Claim7 := { stood := { row := fnExactResAddRow, standIns := [], harness := (true, "7900dfa55a609292fe4b5697f10effa6903a3216cacf4e05c4c3fe9c57995a9f"), looks := true }, kinds := [], alts := [], laidByText := true, laidKinds := [.sentinel], laidTests := true, laidLooks := .later }
def FnExactResAddCardSaid : Prop := Claim7.holds Tryd.pinned (.plain (OpenSpec.ofChange fnExactResAddSpec)) fnExactResAddCard

/-- THE TIED CARD OF 'laws.FnExactResSub'. -/
def fnExactResSubCard : Claim7 := { stood := { row := fnExactResSubRow, standIns := [], harness := (true, "7900dfa55a609292fe4b5697f10effa6903a3216cacf4e05c4c3fe9c57995a9f"), looks := true }, kinds := [], alts := [], laidByText := true, laidKinds := [.sentinel], laidTests := true, laidLooks := .later }
def FnExactResSubCardSaid : Prop := Claim7.holds Tryd.pinned (.plain (OpenSpec.ofChange fnExactResSubSpec)) fnExactResSubCard

/-- THE TIED CARD OF 'laws.FnExactResFits'. -/
def fnExactResFitsCard : Claim7 := { stood := { row := fnExactResFitsRow, standIns := [], harness := (true, "7900dfa55a609292fe4b5697f10effa6903a3216cacf4e05c4c3fe9c57995a9f"), looks := true }, kinds := [], alts := [], laidByText := true, laidKinds := [.sentinel], laidTests := true, laidLooks := .later }
def FnExactResFitsCardSaid : Prop := Claim7.holds Tryd.pinned (.plain (OpenSpec.ofChange fnExactResFitsSpec)) fnExactResFitsCard

/-- THE TIED CARD OF 'laws.FnExactResSum'. -/
def fnExactResSumCard : Claim7 := { stood := { row := fnExactResSumRow, standIns := [], harness := (true, "7900dfa55a609292fe4b5697f10effa6903a3216cacf4e05c4c3fe9c57995a9f"), looks := true }, kinds := [], alts := [], laidByText := true, laidKinds := [.sentinel], laidTests := true, laidLooks := .later }
def FnExactResSumCardSaid : Prop := Claim7.holds Tryd.pinned (.plain (OpenSpec.ofChange fnExactResSumSpec)) fnExactResSumCard

/-- THE TIED CARD OF 'laws.FnExactResShare'. -/
def fnExactResShareCard : Claim7 := { stood := { row := fnExactResShareRow, standIns := [], harness := (true, "7900dfa55a609292fe4b5697f10effa6903a3216cacf4e05c4c3fe9c57995a9f"), looks := true }, kinds := [], alts := [], laidByText := true, laidKinds := [.sentinel, .sentinel], laidTests := true, laidLooks := .later }
def FnExactResShareCardSaid : Prop := Claim7.holds Tryd.pinned (.plain (OpenSpec.ofChange fnExactResShareSpec)) fnExactResShareCard

/-- THE TIED CARD OF 'laws.FnExactResTimes'. -/
def fnExactResTimesCard : Claim7 := { stood := { row := fnExactResTimesRow, standIns := [], harness := (true, "7900dfa55a609292fe4b5697f10effa6903a3216cacf4e05c4c3fe9c57995a9f"), looks := true }, kinds := [], alts := [], laidByText := true, laidKinds := [.sentinel], laidTests := true, laidLooks := .later }
def FnExactResTimesCardSaid : Prop := Claim7.holds Tryd.pinned (.plain (OpenSpec.ofChange fnExactResTimesSpec)) fnExactResTimesCard

/-- THE SECOND FORM's CARD OF 'laws.FnRes'. -/
def fnResUptoCard : Claim7 := { stood := { row := fnResUptoRow, standIns := [], harness := (true, "7900dfa55a609292fe4b5697f10effa6903a3216cacf4e05c4c3fe9c57995a9f"), looks := true }, kinds := [], alts := [], laidByText := true, laidKinds := [.sentinel], laidTests := true, laidLooks := .later }
def FnResUptoCardSaid : Prop := Claim7.holds Tryd.pinned (.plain (OpenSpec.upto fnResSpec)) fnResUptoCard

/-- THE SECOND FORM's CARD OF 'laws.FnTimes'. -/
def fnTimesUptoCard : Claim7 := { stood := { row := fnTimesUptoRow, standIns := [], harness := (true, "7900dfa55a609292fe4b5697f10effa6903a3216cacf4e05c4c3fe9c57995a9f"), looks := true }, kinds := [], alts := [], laidByText := true, laidKinds := [.sentinel], laidTests := true, laidLooks := .later }
def FnTimesUptoCardSaid : Prop := Claim7.holds Tryd.pinned (.plain (OpenSpec.upto fnTimesSpec)) fnTimesUptoCard

/-- THE SECOND FORM's CARD OF 'laws.FnShare'. -/
def fnShareUptoCard : Claim7 := { stood := { row := fnShareUptoRow, standIns := [], harness := (true, "7900dfa55a609292fe4b5697f10effa6903a3216cacf4e05c4c3fe9c57995a9f"), looks := true }, kinds := [], alts := [], laidByText := true, laidKinds := [.sentinel, .sentinel], laidTests := true, laidLooks := .later }
def FnShareUptoCardSaid : Prop := Claim7.holds Tryd.pinned (.plain (OpenSpec.upto fnShareSpec)) fnShareUptoCard

/-- THE SECOND FORM's CARD OF 'laws.FnExactResOk'. -/
def fnExactResOkUptoCard : Claim7 := { stood := { row := fnExactResOkUptoRow, standIns := [], harness := (true, "7900dfa55a609292fe4b5697f10effa6903a3216cacf4e05c4c3fe9c57995a9f"), looks := true }, kinds := [], alts := [], laidByText := true, laidKinds := [.sentinel], laidTests := true, laidLooks := .later }
def FnExactResOkUptoCardSaid : Prop := Claim7.holds Tryd.pinned (.plain (OpenSpec.upto fnExactResOkSpec)) fnExactResOkUptoCard

/-- THE SECOND FORM's CARD OF 'laws.FnExactResAdd'. -/
def fnExactResAddUptoCard : Claim7 := { stood := { row := fnExactResAddUptoRow, standIns := [], harness := (true, "7900dfa55a609292fe4b5697f10effa6903a3216cacf4e05c4c3fe9c57995a9f"), looks := true }, kinds := [], alts := [], laidByText := true, laidKinds := [.sentinel], laidTests := true, laidLooks := .later }
def FnExactResAddUptoCardSaid : Prop := Claim7.holds Tryd.pinned (.plain (OpenSpec.upto fnExactResAddSpec)) fnExactResAddUptoCard

/-- THE SECOND FORM's CARD OF 'laws.FnExactResSub'. -/
def fnExactResSubUptoCard : Claim7 := { stood := { row := fnExactResSubUptoRow, standIns := [], harness := (true, "7900dfa55a609292fe4b5697f10effa6903a3216cacf4e05c4c3fe9c57995a9f"), looks := true }, kinds := [], alts := [], laidByText := true, laidKinds := [.sentinel], laidTests := true, laidLooks := .later }
def FnExactResSubUptoCardSaid : Prop := Claim7.holds Tryd.pinned (.plain (OpenSpec.upto fnExactResSubSpec)) fnExactResSubUptoCard

/-- THE SECOND FORM's CARD OF 'laws.FnExactResFits'. -/
def fnExactResFitsUptoCard : Claim7 := { stood := { row := fnExactResFitsUptoRow, standIns := [], harness := (true, "7900dfa55a609292fe4b5697f10effa6903a3216cacf4e05c4c3fe9c57995a9f"), looks := true }, kinds := [], alts := [], laidByText := true, laidKinds := [.sentinel], laidTests := true, laidLooks := .later }
def FnExactResFitsUptoCardSaid : Prop := Claim7.holds Tryd.pinned (.plain (OpenSpec.upto fnExactResFitsSpec)) fnExactResFitsUptoCard

/-- THE SECOND FORM's CARD OF 'laws.FnExactResSum'. -/
def fnExactResSumUptoCard : Claim7 := { stood := { row := fnExactResSumUptoRow, standIns := [], harness := (true, "7900dfa55a609292fe4b5697f10effa6903a3216cacf4e05c4c3fe9c57995a9f"), looks := true }, kinds := [], alts := [], laidByText := true, laidKinds := [.sentinel], laidTests := true, laidLooks := .later }
def FnExactResSumUptoCardSaid : Prop := Claim7.holds Tryd.pinned (.plain (OpenSpec.upto fnExactResSumSpec)) fnExactResSumUptoCard

/-- THE SECOND FORM's CARD OF 'laws.FnExactResShare'. -/
def fnExactResShareUptoCard : Claim7 := { stood := { row := fnExactResShareUptoRow, standIns := [], harness := (true, "7900dfa55a609292fe4b5697f10effa6903a3216cacf4e05c4c3fe9c57995a9f"), looks := true }, kinds := [], alts := [], laidByText := true, laidKinds := [.sentinel, .sentinel], laidTests := true, laidLooks := .later }
def FnExactResShareUptoCardSaid : Prop := Claim7.holds Tryd.pinned (.plain (OpenSpec.upto fnExactResShareSpec)) fnExactResShareUptoCard

/-- THE SECOND FORM's CARD OF 'laws.FnExactResTimes'. -/
def fnExactResTimesUptoCard : Claim7 := { stood := { row := fnExactResTimesUptoRow, standIns := [], harness := (true, "7900dfa55a609292fe4b5697f10effa6903a3216cacf4e05c4c3fe9c57995a9f"), looks := true }, kinds := [], alts := [], laidByText := true, laidKinds := [.sentinel], laidTests := true, laidLooks := .later }
def FnExactResTimesUptoCardSaid : Prop := Claim7.holds Tryd.pinned (.plain (OpenSpec.upto fnExactResTimesSpec)) fnExactResTimesUptoCard
end Rows
end Go.Proofs.YtfgdefgnhhimcaaDoor
