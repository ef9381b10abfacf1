/-
  DERIVED. GIVEN WITH THE SEED: THE CARDS: each row of YtkalplgpmoknoaaDoorRows.lean that lists a variable, with what it lists TIED to the program's text (the seventh form; the later family's looks); each row that meets fmt, with fmt's text TOLD by the authors' own Lean function (tested against real Go, not proved from fmt's source: count such statements apart). THE CARD IS WHAT COUNTS. Prove the row's statement (the work); the ties are given (YtkalplgpmoknoaaDoorTie.lean); close each card by the builder's one call (the guide's Derived/Test/ToyasCard.lean, 'card_holds'). Laid BY PROGRAM, IN A SANDBOX (cutbox-door.mjs). By AI agents, Wed Nov 11 2026. No macro, syntax, notation, axiom, sorry.
-/
import Derived.Test.YtkalplgpmoknoaaDoorRows
import GoSem.ClaimSeven
namespace Go.Proofs.YtkalplgpmoknoaaDoor
namespace Rows

/-- THE TIED CARD OF 'laws.FnExactTaskOk'. -/
def fnExactTaskOkCard : Claim7 := { stood := { row := fnExactTaskOkRow, standIns := [], harness := (true, "7f48fef4029330a609ee808357b7d00306942d171d0ca695f870068363feb0ae"), looks := true }, kinds := [], alts := [], laidByText := true, laidKinds := [.sentinel], laidTests := true, laidLooks := .later }
def FnExactTaskOkCardSaid : Prop := Claim7.holds Tryd.pinned (.plain (OpenSpec.ofChange fnExactTaskOkSpec)) fnExactTaskOkCard

/-- THE TIED CARD OF 'laws.FnExactNodeOk'. -/
def fnExactNodeOkCard : Claim7 := { stood := { row := fnExactNodeOkRow, standIns := [], harness := (true, "7f48fef4029330a609ee808357b7d00306942d171d0ca695f870068363feb0ae"), looks := true }, kinds := [], alts := [], laidByText := true, laidKinds := [.sentinel], laidTests := true, laidLooks := .later }
def FnExactNodeOkCardSaid : Prop := Claim7.holds Tryd.pinned (.plain (OpenSpec.ofChange fnExactNodeOkSpec)) fnExactNodeOkCard

/-- THE TIED CARD OF 'laws.FnExactCanHost'. -/
def fnExactCanHostCard : Claim7 := { stood := { row := fnExactCanHostRow, standIns := [], harness := (true, "7f48fef4029330a609ee808357b7d00306942d171d0ca695f870068363feb0ae"), looks := true }, kinds := [], alts := [], laidByText := true, laidKinds := [.sentinel], laidTests := true, laidLooks := .later }
def FnExactCanHostCardSaid : Prop := Claim7.holds Tryd.pinned (.plain (OpenSpec.ofChange fnExactCanHostSpec)) fnExactCanHostCard

/-- THE SECOND FORM's CARD OF 'laws.FnExactTaskOk'. -/
def fnExactTaskOkUptoCard : Claim7 := { stood := { row := fnExactTaskOkUptoRow, standIns := [], harness := (true, "7f48fef4029330a609ee808357b7d00306942d171d0ca695f870068363feb0ae"), looks := true }, kinds := [], alts := [], laidByText := true, laidKinds := [.sentinel], laidTests := true, laidLooks := .later }
def FnExactTaskOkUptoCardSaid : Prop := Claim7.holds Tryd.pinned (.plain (OpenSpec.upto fnExactTaskOkSpec)) fnExactTaskOkUptoCard

/-- THE SECOND FORM's CARD OF 'laws.FnExactNodeOk'. -/
def fnExactNodeOkUptoCard : Claim7 := { stood := { row := fnExactNodeOkUptoRow, standIns := [], harness := (true, "7f48fef4029330a609ee808357b7d00306942d171d0ca695f870068363feb0ae"), looks := true }, kinds := [], alts := [], laidByText := true, laidKinds := [.sentinel], laidTests := true, laidLooks := .later }
def FnExactNodeOkUptoCardSaid : Prop := Claim7.holds Tryd.pinned (.plain (OpenSpec.upto fnExactNodeOkSpec)) fnExactNodeOkUptoCard

/-- THE SECOND FORM's CARD OF 'laws.FnExactCanHost'. -/
def fnExactCanHostUptoCard : Claim7 := { stood := { row := fnExactCanHostUptoRow, standIns := [], harness := (true, "7f48fef4029330a609ee808357b7d00306942d171d0ca695f870068363feb0ae"), looks := true }, kinds := [], alts := [], laidByText := true, laidKinds := [.sentinel], laidTests := true, laidLooks := .later }
def FnExactCanHostUptoCardSaid : Prop := Claim7.holds Tryd.pinned (.plain (OpenSpec.upto fnExactCanHostSpec)) fnExactCanHostUptoCard
end Rows
end Go.Proofs.YtkalplgpmoknoaaDoor
