/-
  No cell of these rows narrows 'for every input' (looked for: loops, veiled, ifaces, maps, wideKeys, modest, calm, conditions, laid).
  DERIVED. THE GIVEN ROWS OF THIS SEAT. 8 by the template 'for every input the law returns true; each argument reads behind the call as it read before'; 0 by the template 'total and deterministic' (their statements: YtelfoedgbgandaaTotals.lean).
  GIVEN WITH THE SEED: the statements are not yours to turn. If you find one false, say at which input.
  Laid BY PROGRAM, IN A SANDBOX (cutbox-rows.mjs): the forced cells as the released guide's own fill.sh prints them over the translation da23ee917dcb130e… (all of the seat's roots in one cut). By AI agents, Wed Nov 11 2026. No macro, syntax, notation, axiom, sorry.
-/
import Derived.Test.YtelfoedgbgandaaChecked
import GoSem.Claim
import GoSem.ClaimJoined
import GoSem.ClaimMapViews
import Derived.JoinedTies
import Derived.KernelRfl
namespace Go.Proofs.Ytelfoedgbgandaa
/- THE CELL 'sum', in the pinned program and in every row, IS THE sha256 OF THE DUMP (.gsa) THAT YtelfoedgbgandaaProg.lean LOADS. Nothing in Lean hashes anything: it is a label: what it is worth is what the hold of that sum in a sandbox is worth. -/
noncomputable def Try.pinned : Pinned := { name := "ytelfoedgbgandaa", sum := "da23ee917dcb130ecb0287036577b625eeedb622e5be46223f5f2d1509238469", checked := Try.checked }
namespace Rows
def none {H : Type} : Left H := { results := [], args := [] }

/-- 'laws.FnLabs': WHATEVER THE INPUT: true; the input reads as it did. -/
def fnLabsSpec : ChangeSpec := { name := "fnLabs", fn := fun _ => fun
  | [d] => { results := [.lit (.bool true)], args := [d] }
  | _ => none }
def fnLabsRow : OpenClaim := { program := "ytelfoedgbgandaa", sum := "da23ee917dcb130ecb0287036577b625eeedb622e5be46223f5f2d1509238469", func := "loop.example/g00718/laws.FnLabs", spec := "fnLabs", apart := false }
def FnLabsSaid : Prop := fnLabsRow.holds Try.pinned (OpenSpec.ofChange fnLabsSpec)

/-- ITS FALSE NEIGHBOUR: 'it returns false'. Refute it at one input. -/
def fnLabsWrong : ChangeSpec := { name := "fnLabs", fn := fun _ => fun
  | [d] => { results := [.lit (.bool false)], args := [d] }
  | _ => none }
def FnLabsWrongFalsely : Prop := fnLabsRow.holds Try.pinned (OpenSpec.ofChange fnLabsWrong)

/-- 'laws.FnTols': WHATEVER THE INPUT: true; the input reads as it did. -/
def fnTolsSpec : ChangeSpec := { name := "fnTols", fn := fun _ => fun
  | [d] => { results := [.lit (.bool true)], args := [d] }
  | _ => none }
def fnTolsRow : OpenClaim := { program := "ytelfoedgbgandaa", sum := "da23ee917dcb130ecb0287036577b625eeedb622e5be46223f5f2d1509238469", func := "loop.example/g00718/laws.FnTols", spec := "fnTols", apart := false }
def FnTolsSaid : Prop := fnTolsRow.holds Try.pinned (OpenSpec.ofChange fnTolsSpec)

/-- ITS FALSE NEIGHBOUR: 'it returns false'. Refute it at one input. -/
def fnTolsWrong : ChangeSpec := { name := "fnTols", fn := fun _ => fun
  | [d] => { results := [.lit (.bool false)], args := [d] }
  | _ => none }
def FnTolsWrongFalsely : Prop := fnTolsRow.holds Try.pinned (OpenSpec.ofChange fnTolsWrong)

/-- 'laws.FnExactLabsOk': WHATEVER THE INPUT: true; the input reads as it did. -/
def fnExactLabsOkSpec : ChangeSpec := { name := "fnExactLabsOk", fn := fun _ => fun
  | [d] => { results := [.lit (.bool true)], args := [d] }
  | _ => none }
def fnExactLabsOkRow : OpenClaim := { program := "ytelfoedgbgandaa", sum := "da23ee917dcb130ecb0287036577b625eeedb622e5be46223f5f2d1509238469", func := "loop.example/g00718/laws.FnExactLabsOk", spec := "fnExactLabsOk", apart := false }
def FnExactLabsOkSaid : Prop := fnExactLabsOkRow.holds Try.pinned (OpenSpec.ofChange fnExactLabsOkSpec)

/-- ITS FALSE NEIGHBOUR: 'it returns false'. Refute it at one input. -/
def fnExactLabsOkWrong : ChangeSpec := { name := "fnExactLabsOk", fn := fun _ => fun
  | [d] => { results := [.lit (.bool false)], args := [d] }
  | _ => none }
def FnExactLabsOkWrongFalsely : Prop := fnExactLabsOkRow.holds Try.pinned (OpenSpec.ofChange fnExactLabsOkWrong)

/-- 'laws.FnExactLabsGet': WHATEVER THE INPUT: true; the input reads as it did. -/
def fnExactLabsGetSpec : ChangeSpec := { name := "fnExactLabsGet", fn := fun _ => fun
  | [d1, d2] => { results := [.lit (.bool true)], args := [d1, d2] }
  | _ => none }
def fnExactLabsGetRow : OpenClaim := { program := "ytelfoedgbgandaa", sum := "da23ee917dcb130ecb0287036577b625eeedb622e5be46223f5f2d1509238469", func := "loop.example/g00718/laws.FnExactLabsGet", spec := "fnExactLabsGet", apart := false }
def FnExactLabsGetSaid : Prop := fnExactLabsGetRow.holds Try.pinned (OpenSpec.ofChange fnExactLabsGetSpec)

/-- ITS FALSE NEIGHBOUR: 'it returns false'. Refute it at one input. -/
def fnExactLabsGetWrong : ChangeSpec := { name := "fnExactLabsGet", fn := fun _ => fun
  | [d1, d2] => { results := [.lit (.bool false)], args := [d1, d2] }
  | _ => none }
def FnExactLabsGetWrongFalsely : Prop := fnExactLabsGetRow.holds Try.pinned (OpenSpec.ofChange fnExactLabsGetWrong)

/-- 'laws.FnExactLabsMatch': WHATEVER THE INPUT: true; the input reads as it did. -/
def fnExactLabsMatchSpec : ChangeSpec := { name := "fnExactLabsMatch", fn := fun _ => fun
  | [d1, d2] => { results := [.lit (.bool true)], args := [d1, d2] }
  | _ => none }
def fnExactLabsMatchRow : OpenClaim := { program := "ytelfoedgbgandaa", sum := "da23ee917dcb130ecb0287036577b625eeedb622e5be46223f5f2d1509238469", func := "loop.example/g00718/laws.FnExactLabsMatch", spec := "fnExactLabsMatch", apart := false }
def FnExactLabsMatchSaid : Prop := fnExactLabsMatchRow.holds Try.pinned (OpenSpec.ofChange fnExactLabsMatchSpec)

/-- ITS FALSE NEIGHBOUR: 'it returns false'. Refute it at one input. -/
def fnExactLabsMatchWrong : ChangeSpec := { name := "fnExactLabsMatch", fn := fun _ => fun
  | [d1, d2] => { results := [.lit (.bool false)], args := [d1, d2] }
  | _ => none }
def FnExactLabsMatchWrongFalsely : Prop := fnExactLabsMatchRow.holds Try.pinned (OpenSpec.ofChange fnExactLabsMatchWrong)

/-- 'laws.FnExactLabsPut': WHATEVER THE INPUT: true; the input reads as it did. -/
def fnExactLabsPutSpec : ChangeSpec := { name := "fnExactLabsPut", fn := fun _ => fun
  | [d1, d2] => { results := [.lit (.bool true)], args := [d1, d2] }
  | _ => none }
def fnExactLabsPutRow : OpenClaim := { program := "ytelfoedgbgandaa", sum := "da23ee917dcb130ecb0287036577b625eeedb622e5be46223f5f2d1509238469", func := "loop.example/g00718/laws.FnExactLabsPut", spec := "fnExactLabsPut", apart := false }
def FnExactLabsPutSaid : Prop := fnExactLabsPutRow.holds Try.pinned (OpenSpec.ofChange fnExactLabsPutSpec)

/-- ITS FALSE NEIGHBOUR: 'it returns false'. Refute it at one input. -/
def fnExactLabsPutWrong : ChangeSpec := { name := "fnExactLabsPut", fn := fun _ => fun
  | [d1, d2] => { results := [.lit (.bool false)], args := [d1, d2] }
  | _ => none }
def FnExactLabsPutWrongFalsely : Prop := fnExactLabsPutRow.holds Try.pinned (OpenSpec.ofChange fnExactLabsPutWrong)

/-- 'laws.FnExactTaintsOk': WHATEVER THE INPUT: true; the input reads as it did. -/
def fnExactTaintsOkSpec : ChangeSpec := { name := "fnExactTaintsOk", fn := fun _ => fun
  | [d] => { results := [.lit (.bool true)], args := [d] }
  | _ => none }
def fnExactTaintsOkRow : OpenClaim := { program := "ytelfoedgbgandaa", sum := "da23ee917dcb130ecb0287036577b625eeedb622e5be46223f5f2d1509238469", func := "loop.example/g00718/laws.FnExactTaintsOk", spec := "fnExactTaintsOk", apart := false }
def FnExactTaintsOkSaid : Prop := fnExactTaintsOkRow.holds Try.pinned (OpenSpec.ofChange fnExactTaintsOkSpec)

/-- ITS FALSE NEIGHBOUR: 'it returns false'. Refute it at one input. -/
def fnExactTaintsOkWrong : ChangeSpec := { name := "fnExactTaintsOk", fn := fun _ => fun
  | [d] => { results := [.lit (.bool false)], args := [d] }
  | _ => none }
def FnExactTaintsOkWrongFalsely : Prop := fnExactTaintsOkRow.holds Try.pinned (OpenSpec.ofChange fnExactTaintsOkWrong)

/-- 'laws.FnExactTolerates': WHATEVER THE INPUT: true; the input reads as it did. -/
def fnExactToleratesSpec : ChangeSpec := { name := "fnExactTolerates", fn := fun _ => fun
  | [d1, d2] => { results := [.lit (.bool true)], args := [d1, d2] }
  | _ => none }
def fnExactToleratesRow : OpenClaim := { program := "ytelfoedgbgandaa", sum := "da23ee917dcb130ecb0287036577b625eeedb622e5be46223f5f2d1509238469", func := "loop.example/g00718/laws.FnExactTolerates", spec := "fnExactTolerates", apart := false }
def FnExactToleratesSaid : Prop := fnExactToleratesRow.holds Try.pinned (OpenSpec.ofChange fnExactToleratesSpec)

/-- ITS FALSE NEIGHBOUR: 'it returns false'. Refute it at one input. -/
def fnExactToleratesWrong : ChangeSpec := { name := "fnExactTolerates", fn := fun _ => fun
  | [d1, d2] => { results := [.lit (.bool false)], args := [d1, d2] }
  | _ => none }
def FnExactToleratesWrongFalsely : Prop := fnExactToleratesRow.holds Try.pinned (OpenSpec.ofChange fnExactToleratesWrong)

/- THE SECOND FORM. 'bulk': how many values and letters a reading holds, each counted each time it is reached (what is shared counts as often as it is met; a slice's spare places count too). A statement '..UptoSaid' is the law's where the arguments, and the package variables that the reading takes, are together of bulk at most 1048576: NARROWER than '..Said'. Prove '..Said' where nothing that the law and all that it calls make is longer than what came in: it says more and counts as full. Else prove '..UptoSaid'. A law counts once. -/
mutual
def uptoBulk {H : Type} : DataW H → Nat
  | .lit (.string bytes) => bytes.length + 1
  | .lit _ => 1
  | .nil => 1
  | .ptr d => uptoBulk d + 1
  | .slice elems spare => uptoBulkAll elems + uptoBulkAll spare + 1
  | .agg parts => uptoBulkAll parts + 1
  | .iface _ d => uptoBulk d + 1
  | .map entries => uptoBulkEntries entries + 1
  | .held _ => 1
def uptoBulkAll {H : Type} : List (DataW H) → Nat
  | [] => 0
  | d :: r => uptoBulk d + uptoBulkAll r
def uptoBulkEntries {H : Type} : List (Lit × DataW H) → Nat
  | [] => 0
  | x :: r => uptoBulkEntry x + uptoBulkEntries r
def uptoBulkEntry {H : Type} : Lit × DataW H → Nat
  | (.string bytes, d) => bytes.length + uptoBulk d + 1
  | (_, d) => uptoBulk d + 1
 end
def uptoSmall : (H : Type) → List (DataW H) → Bool := fun _ ds => decide (uptoBulkAll ds ≤ 1048576)
def OpenSpec.upto (s : _root_.Go.ChangeSpec) : _root_.Go.OpenSpec := { _root_.Go.OpenSpec.ofChange s with cond := some uptoSmall }

/-- 'laws.FnLabs', WHERE WHAT IT READS IS OF BULK AT MOST 1048576: true; the input reads as it did. -/
def fnLabsUptoRow : OpenClaim := { program := "ytelfoedgbgandaa", sum := "da23ee917dcb130ecb0287036577b625eeedb622e5be46223f5f2d1509238469", func := "loop.example/g00718/laws.FnLabs", spec := "fnLabs", apart := false, narrowed := true }
def FnLabsUptoSaid : Prop := fnLabsUptoRow.holds Try.pinned (OpenSpec.upto fnLabsSpec)

/-- 'laws.FnTols', WHERE WHAT IT READS IS OF BULK AT MOST 1048576: true; the input reads as it did. -/
def fnTolsUptoRow : OpenClaim := { program := "ytelfoedgbgandaa", sum := "da23ee917dcb130ecb0287036577b625eeedb622e5be46223f5f2d1509238469", func := "loop.example/g00718/laws.FnTols", spec := "fnTols", apart := false, narrowed := true }
def FnTolsUptoSaid : Prop := fnTolsUptoRow.holds Try.pinned (OpenSpec.upto fnTolsSpec)

/-- 'laws.FnExactLabsOk', WHERE WHAT IT READS IS OF BULK AT MOST 1048576: true; the input reads as it did. -/
def fnExactLabsOkUptoRow : OpenClaim := { program := "ytelfoedgbgandaa", sum := "da23ee917dcb130ecb0287036577b625eeedb622e5be46223f5f2d1509238469", func := "loop.example/g00718/laws.FnExactLabsOk", spec := "fnExactLabsOk", apart := false, narrowed := true }
def FnExactLabsOkUptoSaid : Prop := fnExactLabsOkUptoRow.holds Try.pinned (OpenSpec.upto fnExactLabsOkSpec)

/-- 'laws.FnExactLabsGet', WHERE WHAT IT READS IS OF BULK AT MOST 1048576: true; the input reads as it did. -/
def fnExactLabsGetUptoRow : OpenClaim := { program := "ytelfoedgbgandaa", sum := "da23ee917dcb130ecb0287036577b625eeedb622e5be46223f5f2d1509238469", func := "loop.example/g00718/laws.FnExactLabsGet", spec := "fnExactLabsGet", apart := false, narrowed := true }
def FnExactLabsGetUptoSaid : Prop := fnExactLabsGetUptoRow.holds Try.pinned (OpenSpec.upto fnExactLabsGetSpec)

/-- 'laws.FnExactLabsMatch', WHERE WHAT IT READS IS OF BULK AT MOST 1048576: true; the input reads as it did. -/
def fnExactLabsMatchUptoRow : OpenClaim := { program := "ytelfoedgbgandaa", sum := "da23ee917dcb130ecb0287036577b625eeedb622e5be46223f5f2d1509238469", func := "loop.example/g00718/laws.FnExactLabsMatch", spec := "fnExactLabsMatch", apart := false, narrowed := true }
def FnExactLabsMatchUptoSaid : Prop := fnExactLabsMatchUptoRow.holds Try.pinned (OpenSpec.upto fnExactLabsMatchSpec)

/-- 'laws.FnExactLabsPut', WHERE WHAT IT READS IS OF BULK AT MOST 1048576: true; the input reads as it did. -/
def fnExactLabsPutUptoRow : OpenClaim := { program := "ytelfoedgbgandaa", sum := "da23ee917dcb130ecb0287036577b625eeedb622e5be46223f5f2d1509238469", func := "loop.example/g00718/laws.FnExactLabsPut", spec := "fnExactLabsPut", apart := false, narrowed := true }
def FnExactLabsPutUptoSaid : Prop := fnExactLabsPutUptoRow.holds Try.pinned (OpenSpec.upto fnExactLabsPutSpec)

/-- 'laws.FnExactTaintsOk', WHERE WHAT IT READS IS OF BULK AT MOST 1048576: true; the input reads as it did. -/
def fnExactTaintsOkUptoRow : OpenClaim := { program := "ytelfoedgbgandaa", sum := "da23ee917dcb130ecb0287036577b625eeedb622e5be46223f5f2d1509238469", func := "loop.example/g00718/laws.FnExactTaintsOk", spec := "fnExactTaintsOk", apart := false, narrowed := true }
def FnExactTaintsOkUptoSaid : Prop := fnExactTaintsOkUptoRow.holds Try.pinned (OpenSpec.upto fnExactTaintsOkSpec)

/-- 'laws.FnExactTolerates', WHERE WHAT IT READS IS OF BULK AT MOST 1048576: true; the input reads as it did. -/
def fnExactToleratesUptoRow : OpenClaim := { program := "ytelfoedgbgandaa", sum := "da23ee917dcb130ecb0287036577b625eeedb622e5be46223f5f2d1509238469", func := "loop.example/g00718/laws.FnExactTolerates", spec := "fnExactTolerates", apart := false, narrowed := true }
def FnExactToleratesUptoSaid : Prop := fnExactToleratesUptoRow.holds Try.pinned (OpenSpec.upto fnExactToleratesSpec)

end Rows
end Go.Proofs.Ytelfoedgbgandaa
