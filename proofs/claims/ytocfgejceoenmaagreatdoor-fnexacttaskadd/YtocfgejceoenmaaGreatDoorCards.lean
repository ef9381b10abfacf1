/-
  DERIVED. GIVEN WITH THE SEED: THE CARDS: each row of YtocfgejceoenmaaGreatDoorRows.lean that lists a variable, with what it lists TIED to the program's text (the seventh form; the later family's looks); each row that meets fmt, with fmt's text TOLD by the authors' own Lean function (tested against real Go, not proved from fmt's source: count such statements apart). THE CARD IS WHAT COUNTS. Prove the row's statement (the work); the ties are given (YtocfgejceoenmaaGreatDoorTie.lean); close each card by the builder's one call (the guide's Derived/Test/ToyasCard.lean, 'card_holds'). Laid BY PROGRAM, IN A SANDBOX (cutbox-door.mjs). By AI agents, Wed Nov 11 2026. No macro, syntax, notation, axiom, sorry.
-/
import Derived.Test.YtocfgejceoenmaaGreatDoorRows
import GoSem.ClaimSeven
namespace Go.Proofs.YtocfgejceoenmaaGreatDoor
namespace Rows

/-- THE TIED CARD OF 'laws.FnExactTaskAdd'. -/
def fnExactTaskAddCard : Claim7 := { stood := { row := fnExactTaskAddRow, standIns := [], harness := (true, "0ac91b9e86716c2813855e4acbacc122bb152c366f1a2f93fc178b710eddd1f0"), looks := true }, kinds := [], alts := [], laidByText := true, laidKinds := [.handle, .sentinel], laidTests := true, laidLooks := .later }
def FnExactTaskAddCardSaid : Prop := Claim7.holds Tryz.pinned (.plain (OpenSpec.ofChange fnExactTaskAddSpec)) fnExactTaskAddCard

/-- THE TIED CARD OF 'laws.FnExactTaskDrop'. -/
def fnExactTaskDropCard : Claim7 := { stood := { row := fnExactTaskDropRow, standIns := [], harness := (true, "0ac91b9e86716c2813855e4acbacc122bb152c366f1a2f93fc178b710eddd1f0"), looks := true }, kinds := [], alts := [], laidByText := true, laidKinds := [.handle, .sentinel], laidTests := true, laidLooks := .later }
def FnExactTaskDropCardSaid : Prop := Claim7.holds Tryz.pinned (.plain (OpenSpec.ofChange fnExactTaskDropSpec)) fnExactTaskDropCard

/-- THE TIED CARD OF 'laws.FnExactNodeAdd'. -/
def fnExactNodeAddCard : Claim7 := { stood := { row := fnExactNodeAddRow, standIns := [], harness := (true, "0ac91b9e86716c2813855e4acbacc122bb152c366f1a2f93fc178b710eddd1f0"), looks := true }, kinds := [], alts := [], laidByText := true, laidKinds := [.handle, .sentinel], laidTests := true, laidLooks := .later }
def FnExactNodeAddCardSaid : Prop := Claim7.holds Tryz.pinned (.plain (OpenSpec.ofChange fnExactNodeAddSpec)) fnExactNodeAddCard

/-- THE TIED CARD OF 'laws.FnExactNodeDrop'. -/
def fnExactNodeDropCard : Claim7 := { stood := { row := fnExactNodeDropRow, standIns := [], harness := (true, "0ac91b9e86716c2813855e4acbacc122bb152c366f1a2f93fc178b710eddd1f0"), looks := true }, kinds := [], alts := [], laidByText := true, laidKinds := [.handle, .sentinel], laidTests := true, laidLooks := .later }
def FnExactNodeDropCardSaid : Prop := Claim7.holds Tryz.pinned (.plain (OpenSpec.ofChange fnExactNodeDropSpec)) fnExactNodeDropCard

/-- THE TIED CARD OF 'laws.FnExactCordon'. -/
def fnExactCordonCard : Claim7 := { stood := { row := fnExactCordonRow, standIns := [], harness := (true, "0ac91b9e86716c2813855e4acbacc122bb152c366f1a2f93fc178b710eddd1f0"), looks := true }, kinds := [], alts := [], laidByText := true, laidKinds := [.handle, .sentinel], laidTests := true, laidLooks := .later }
def FnExactCordonCardSaid : Prop := Claim7.holds Tryz.pinned (.plain (OpenSpec.ofChange fnExactCordonSpec)) fnExactCordonCard

/-- THE TIED CARD OF 'laws.FnExactBindAdd'. -/
def fnExactBindAddCard : Claim7 := { stood := { row := fnExactBindAddRow, standIns := [], harness := (true, "0ac91b9e86716c2813855e4acbacc122bb152c366f1a2f93fc178b710eddd1f0"), looks := true }, kinds := [], alts := [], laidByText := true, laidKinds := [.handle, .sentinel], laidTests := true, laidLooks := .later }
def FnExactBindAddCardSaid : Prop := Claim7.holds Tryz.pinned (.plain (OpenSpec.ofChange fnExactBindAddSpec)) fnExactBindAddCard

/-- THE TIED CARD OF 'laws.FnExactBindDrop'. -/
def fnExactBindDropCard : Claim7 := { stood := { row := fnExactBindDropRow, standIns := [], harness := (true, "0ac91b9e86716c2813855e4acbacc122bb152c366f1a2f93fc178b710eddd1f0"), looks := true }, kinds := [], alts := [], laidByText := true, laidKinds := [.handle, .sentinel], laidTests := true, laidLooks := .later }
def FnExactBindDropCardSaid : Prop := Claim7.holds Tryz.pinned (.plain (OpenSpec.ofChange fnExactBindDropSpec)) fnExactBindDropCard

/-- THE TIED CARD OF 'laws.FnExactPoolCount'. -/
def fnExactPoolCountCard : Claim7 := { stood := { row := fnExactPoolCountRow, standIns := [], harness := (true, "0ac91b9e86716c2813855e4acbacc122bb152c366f1a2f93fc178b710eddd1f0"), looks := true }, kinds := [], alts := [], laidByText := true, laidKinds := [.sentinel], laidTests := true, laidLooks := .later }
def FnExactPoolCountCardSaid : Prop := Claim7.holds Tryz.pinned (.plain (OpenSpec.ofChange fnExactPoolCountSpec)) fnExactPoolCountCard

/-- THE SECOND FORM's CARD OF 'laws.FnExactTaskAdd'. -/
def fnExactTaskAddUptoCard : Claim7 := { stood := { row := fnExactTaskAddUptoRow, standIns := [], harness := (true, "0ac91b9e86716c2813855e4acbacc122bb152c366f1a2f93fc178b710eddd1f0"), looks := true }, kinds := [], alts := [], laidByText := true, laidKinds := [.handle, .sentinel], laidTests := true, laidLooks := .later }
def FnExactTaskAddUptoCardSaid : Prop := Claim7.holds Tryz.pinned (.plain (OpenSpec.upto fnExactTaskAddSpec)) fnExactTaskAddUptoCard

/-- THE SECOND FORM's CARD OF 'laws.FnExactTaskDrop'. -/
def fnExactTaskDropUptoCard : Claim7 := { stood := { row := fnExactTaskDropUptoRow, standIns := [], harness := (true, "0ac91b9e86716c2813855e4acbacc122bb152c366f1a2f93fc178b710eddd1f0"), looks := true }, kinds := [], alts := [], laidByText := true, laidKinds := [.handle, .sentinel], laidTests := true, laidLooks := .later }
def FnExactTaskDropUptoCardSaid : Prop := Claim7.holds Tryz.pinned (.plain (OpenSpec.upto fnExactTaskDropSpec)) fnExactTaskDropUptoCard

/-- THE SECOND FORM's CARD OF 'laws.FnExactNodeAdd'. -/
def fnExactNodeAddUptoCard : Claim7 := { stood := { row := fnExactNodeAddUptoRow, standIns := [], harness := (true, "0ac91b9e86716c2813855e4acbacc122bb152c366f1a2f93fc178b710eddd1f0"), looks := true }, kinds := [], alts := [], laidByText := true, laidKinds := [.handle, .sentinel], laidTests := true, laidLooks := .later }
def FnExactNodeAddUptoCardSaid : Prop := Claim7.holds Tryz.pinned (.plain (OpenSpec.upto fnExactNodeAddSpec)) fnExactNodeAddUptoCard

/-- THE SECOND FORM's CARD OF 'laws.FnExactNodeDrop'. -/
def fnExactNodeDropUptoCard : Claim7 := { stood := { row := fnExactNodeDropUptoRow, standIns := [], harness := (true, "0ac91b9e86716c2813855e4acbacc122bb152c366f1a2f93fc178b710eddd1f0"), looks := true }, kinds := [], alts := [], laidByText := true, laidKinds := [.handle, .sentinel], laidTests := true, laidLooks := .later }
def FnExactNodeDropUptoCardSaid : Prop := Claim7.holds Tryz.pinned (.plain (OpenSpec.upto fnExactNodeDropSpec)) fnExactNodeDropUptoCard

/-- THE SECOND FORM's CARD OF 'laws.FnExactCordon'. -/
def fnExactCordonUptoCard : Claim7 := { stood := { row := fnExactCordonUptoRow, standIns := [], harness := (true, "0ac91b9e86716c2813855e4acbacc122bb152c366f1a2f93fc178b710eddd1f0"), looks := true }, kinds := [], alts := [], laidByText := true, laidKinds := [.handle, .sentinel], laidTests := true, laidLooks := .later }
def FnExactCordonUptoCardSaid : Prop := Claim7.holds Tryz.pinned (.plain (OpenSpec.upto fnExactCordonSpec)) fnExactCordonUptoCard

/-- THE SECOND FORM's CARD OF 'laws.FnExactBindAdd'. -/
def fnExactBindAddUptoCard : Claim7 := { stood := { row := fnExactBindAddUptoRow, standIns := [], harness := (true, "0ac91b9e86716c2813855e4acbacc122bb152c366f1a2f93fc178b710eddd1f0"), looks := true }, kinds := [], alts := [], laidByText := true, laidKinds := [.handle, .sentinel], laidTests := true, laidLooks := .later }
def FnExactBindAddUptoCardSaid : Prop := Claim7.holds Tryz.pinned (.plain (OpenSpec.upto fnExactBindAddSpec)) fnExactBindAddUptoCard

/-- THE SECOND FORM's CARD OF 'laws.FnExactBindDrop'. -/
def fnExactBindDropUptoCard : Claim7 := { stood := { row := fnExactBindDropUptoRow, standIns := [], harness := (true, "0ac91b9e86716c2813855e4acbacc122bb152c366f1a2f93fc178b710eddd1f0"), looks := true }, kinds := [], alts := [], laidByText := true, laidKinds := [.handle, .sentinel], laidTests := true, laidLooks := .later }
def FnExactBindDropUptoCardSaid : Prop := Claim7.holds Tryz.pinned (.plain (OpenSpec.upto fnExactBindDropSpec)) fnExactBindDropUptoCard

/-- THE SECOND FORM's CARD OF 'laws.FnExactPoolCount'. -/
def fnExactPoolCountUptoCard : Claim7 := { stood := { row := fnExactPoolCountUptoRow, standIns := [], harness := (true, "0ac91b9e86716c2813855e4acbacc122bb152c366f1a2f93fc178b710eddd1f0"), looks := true }, kinds := [], alts := [], laidByText := true, laidKinds := [.sentinel], laidTests := true, laidLooks := .later }
def FnExactPoolCountUptoCardSaid : Prop := Claim7.holds Tryz.pinned (.plain (OpenSpec.upto fnExactPoolCountSpec)) fnExactPoolCountUptoCard
end Rows
end Go.Proofs.YtocfgejceoenmaaGreatDoor
