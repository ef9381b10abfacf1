/-
  DERIVED. GIVEN WITH THE SEED: THE CARDS: each row of YtocfgejceoenmaaDoorRows.lean that lists a variable, with what it lists TIED to the program's text (the seventh form; the later family's looks); each row that meets fmt, with fmt's text TOLD by the authors' own Lean function (tested against real Go, not proved from fmt's source: count such statements apart). THE CARD IS WHAT COUNTS. Prove the row's statement (the work); the ties are given (YtocfgejceoenmaaDoorTie.lean); close each card by the builder's one call (the guide's Derived/Test/ToyasCard.lean, 'card_holds'). Laid BY PROGRAM, IN A SANDBOX (cutbox-door.mjs). By AI agents, Wed Nov 11 2026. No macro, syntax, notation, axiom, sorry.
-/
import Derived.Test.YtocfgejceoenmaaDoorRows
import GoSem.ClaimSeven
namespace Go.Proofs.YtocfgejceoenmaaDoor
namespace Rows

/-- THE TIED CARD OF 'laws.FnExactPoolOk'. -/
def fnExactPoolOkCard : Claim7 := { stood := { row := fnExactPoolOkRow, standIns := [], harness := (true, "963df0feb2a7ec217f4237f849555d5f11c190b65f0cabe9d374e6d7e30ba865"), looks := true }, kinds := [], alts := [], laidByText := true, laidKinds := [.sentinel], laidTests := true, laidLooks := .later }
def FnExactPoolOkCardSaid : Prop := Claim7.holds Tryd.pinned (.plain (OpenSpec.ofChange fnExactPoolOkSpec)) fnExactPoolOkCard

/-- THE TIED CARD OF 'laws.FnExactPoolsOk'. -/
def fnExactPoolsOkCard : Claim7 := { stood := { row := fnExactPoolsOkRow, standIns := [], harness := (true, "963df0feb2a7ec217f4237f849555d5f11c190b65f0cabe9d374e6d7e30ba865"), looks := true }, kinds := [], alts := [], laidByText := true, laidKinds := [.sentinel], laidTests := true, laidLooks := .later }
def FnExactPoolsOkCardSaid : Prop := Claim7.holds Tryd.pinned (.plain (OpenSpec.ofChange fnExactPoolsOkSpec)) fnExactPoolsOkCard

/-- THE TIED CARD OF 'laws.FnExactPoolNode'. -/
def fnExactPoolNodeCard : Claim7 := { stood := { row := fnExactPoolNodeRow, standIns := [], harness := (true, "963df0feb2a7ec217f4237f849555d5f11c190b65f0cabe9d374e6d7e30ba865"), looks := true }, kinds := [], alts := [], laidByText := true, laidKinds := [.sentinel], laidTests := true, laidLooks := .later }
def FnExactPoolNodeCardSaid : Prop := Claim7.holds Tryd.pinned (.plain (OpenSpec.ofChange fnExactPoolNodeSpec)) fnExactPoolNodeCard

/-- THE SECOND FORM's CARD OF 'laws.FnExactPoolOk'. -/
def fnExactPoolOkUptoCard : Claim7 := { stood := { row := fnExactPoolOkUptoRow, standIns := [], harness := (true, "963df0feb2a7ec217f4237f849555d5f11c190b65f0cabe9d374e6d7e30ba865"), looks := true }, kinds := [], alts := [], laidByText := true, laidKinds := [.sentinel], laidTests := true, laidLooks := .later }
def FnExactPoolOkUptoCardSaid : Prop := Claim7.holds Tryd.pinned (.plain (OpenSpec.upto fnExactPoolOkSpec)) fnExactPoolOkUptoCard

/-- THE SECOND FORM's CARD OF 'laws.FnExactPoolsOk'. -/
def fnExactPoolsOkUptoCard : Claim7 := { stood := { row := fnExactPoolsOkUptoRow, standIns := [], harness := (true, "963df0feb2a7ec217f4237f849555d5f11c190b65f0cabe9d374e6d7e30ba865"), looks := true }, kinds := [], alts := [], laidByText := true, laidKinds := [.sentinel], laidTests := true, laidLooks := .later }
def FnExactPoolsOkUptoCardSaid : Prop := Claim7.holds Tryd.pinned (.plain (OpenSpec.upto fnExactPoolsOkSpec)) fnExactPoolsOkUptoCard

/-- THE SECOND FORM's CARD OF 'laws.FnExactPoolNode'. -/
def fnExactPoolNodeUptoCard : Claim7 := { stood := { row := fnExactPoolNodeUptoRow, standIns := [], harness := (true, "963df0feb2a7ec217f4237f849555d5f11c190b65f0cabe9d374e6d7e30ba865"), looks := true }, kinds := [], alts := [], laidByText := true, laidKinds := [.sentinel], laidTests := true, laidLooks := .later }
def FnExactPoolNodeUptoCardSaid : Prop := Claim7.holds Tryd.pinned (.plain (OpenSpec.upto fnExactPoolNodeSpec)) fnExactPoolNodeUptoCard
end Rows
end Go.Proofs.YtocfgejceoenmaaDoor
