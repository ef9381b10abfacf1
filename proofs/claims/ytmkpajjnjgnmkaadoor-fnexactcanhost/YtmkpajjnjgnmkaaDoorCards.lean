/-
  DERIVED. GIVEN WITH THE SEED: THE CARDS: each row of YtmkpajjnjgnmkaaDoorRows.lean that lists a variable, with what it lists TIED to the program's text (the seventh form; the later family's looks); each row that meets fmt, with fmt's text TOLD by the authors' own Lean function (tested against real Go, not proved from fmt's source: count such statements apart). THE CARD IS WHAT COUNTS. Prove the row's statement (the work); the ties are given (YtmkpajjnjgnmkaaDoorTie.lean); close each card by the builder's one call (the guide's Derived/Test/ToyasCard.lean, 'card_holds'). Laid BY PROGRAM, IN A SANDBOX (cutbox-door.mjs). By AI agents, Wed Nov 11 2026. No macro, syntax, notation, axiom, sorry.
-/
import Derived.Test.YtmkpajjnjgnmkaaDoorRows
import GoSem.ClaimSeven
namespace Go.Proofs.YtmkpajjnjgnmkaaDoor
namespace Rows

/-- THE TIED CARD OF 'laws.FnExactCanHost'. -/
def fnExactCanHostCard : Claim7 := { stood := { row := fnExactCanHostRow, standIns := [], harness := (true, "12361662f728786929b9dbdec4edf2f93a73d5e88bd232a185ea21d47f0c57a6"), looks := true }, kinds := [], alts := [], laidByText := true, laidKinds := [.sentinel], laidTests := true, laidLooks := .later }
def FnExactCanHostCardSaid : Prop := Claim7.holds Tryd.pinned (.plain (OpenSpec.ofChange fnExactCanHostSpec)) fnExactCanHostCard

/-- THE SECOND FORM's CARD OF 'laws.FnExactCanHost'. -/
def fnExactCanHostUptoCard : Claim7 := { stood := { row := fnExactCanHostUptoRow, standIns := [], harness := (true, "12361662f728786929b9dbdec4edf2f93a73d5e88bd232a185ea21d47f0c57a6"), looks := true }, kinds := [], alts := [], laidByText := true, laidKinds := [.sentinel], laidTests := true, laidLooks := .later }
def FnExactCanHostUptoCardSaid : Prop := Claim7.holds Tryd.pinned (.plain (OpenSpec.upto fnExactCanHostSpec)) fnExactCanHostUptoCard
end Rows
end Go.Proofs.YtmkpajjnjgnmkaaDoor
