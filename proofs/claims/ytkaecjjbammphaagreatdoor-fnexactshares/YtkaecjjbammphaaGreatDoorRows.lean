/-
  NARROWER THAN 'FOR EVERY INPUT', by the rows' own cells (each row's printed sentence says how): FnExactShares: ifaces, laid.
  DERIVED. THE GIVEN ROWS OF THIS SEAT. 1 by the template 'for every input the law returns true; each argument reads behind the call as it read before'; 0 by the template 'total and deterministic' (their statements: YtkaecjjbammphaaGreatDoorTotals.lean).
  GIVEN WITH THE SEED: the statements are not yours to turn. If you find one false, say at which input.
  Laid BY PROGRAM, IN A SANDBOX (cutbox-rows.mjs): the forced cells as the released guide's own fill.sh prints them over the translation 8a9fefb749ee5cd9… (all of the seat's roots in one cut). By AI agents, Wed Nov 11 2026. No macro, syntax, notation, axiom, sorry.
-/
import Derived.Test.YtkaecjjbammphaaGreatDoorChecked
import GoSem.Claim
import GoSem.ClaimJoined
import GoSem.ClaimMapViews
import Derived.JoinedTies
import Derived.KernelRfl
namespace Go.Proofs.YtkaecjjbammphaaGreatDoor
/- THE CELL 'sum', in the pinned program and in every row, IS THE sha256 OF THE DUMP (.gsa) THAT YtkaecjjbammphaaGreatDoorProg.lean LOADS. Nothing in Lean hashes anything: it is a label: what it is worth is what the hold of that sum in a sandbox is worth. -/
noncomputable def Tryz.pinned : Pinned := { name := "ytkaecjjbammphaagreatdoor", sum := "8a9fefb749ee5cd99e3fb7b899bc4837d29176f632510f95417ca312ac58212d", checked := Tryz.checked }
namespace Rows
def none {H : Type} : Left H := { results := [], args := [] }

/- WHAT THE LISTED PACKAGE-LEVEL VARIABLES READ AS WHEN THE CALL BEGINS. Each datum BY PROGRAM (the guide's laid-datum.mjs) off the statement by which the dump's own 'gosem.cut.vars' lays the variable. In a bare row this is a premise. The card (YtkaecjjbammphaaGreatDoorCards.lean) ties it to the program's text. -/
def laid_loop_example_g00718_impl_errRange {H : Type} : DataW H := .iface "*errors.errorString" (.ptr (.agg [.lit (.string [110, 111, 116, 32, 105, 110, 32, 48, 46, 46, 77, 97, 120, 65, 109, 111, 117, 110, 116])]))
def laid_loop_example_g00718_impl_errNoCap {H : Type} : DataW H := .iface "*errors.errorString" (.ptr (.agg [.lit (.string [117, 115, 101, 100, 32, 119, 105, 116, 104, 111, 117, 116, 32, 99, 97, 112, 97, 99, 105, 116, 121])]))

/-- 'laws.FnExactShares': WHATEVER THE INPUT: true; the input reads as it did. -/
def fnExactSharesSpec : ChangeSpec := { name := "fnExactShares", vars := ["loop.example/g00718/impl.errRange", "loop.example/g00718/impl.errNoCap"], fn := fun _ => fun
  | [d, g1, g2] => { results := [.lit (.bool true)], args := [d], vars := [g1, g2] }
  | _ => none }
def fnExactSharesRow : OpenClaim := { program := "ytkaecjjbammphaagreatdoor", sum := "8a9fefb749ee5cd99e3fb7b899bc4837d29176f632510f95417ca312ac58212d", func := "loop.example/g00718/laws.FnExactShares", spec := "fnExactShares", inPlace := ["internal/reflectlite.TypeOf"], unfollowed := true, recurses := true, named := ["loop.example/g00718/impl.errRange", "loop.example/g00718/impl.errNoCap"], ifaces := true, apart := false, laid := [("loop.example/g00718/impl.errRange", laid_loop_example_g00718_impl_errRange), ("loop.example/g00718/impl.errNoCap", laid_loop_example_g00718_impl_errNoCap)] }
def FnExactSharesSaid : Prop := fnExactSharesRow.holds Tryz.pinned (OpenSpec.ofChange fnExactSharesSpec)

/-- ITS FALSE NEIGHBOUR: 'it returns false'. Refute it at one input. -/
def fnExactSharesWrong : ChangeSpec := { name := "fnExactShares", vars := ["loop.example/g00718/impl.errRange", "loop.example/g00718/impl.errNoCap"], fn := fun _ => fun
  | [d, g1, g2] => { results := [.lit (.bool false)], args := [d], vars := [g1, g2] }
  | _ => none }
def FnExactSharesWrongFalsely : Prop := fnExactSharesRow.holds Tryz.pinned (OpenSpec.ofChange fnExactSharesWrong)

/- THE SECOND FORM. 'bulk': how many values and letters a reading holds, each counted each time it is reached (what is shared counts as often as it is met; a slice's spare places count too). A statement '..UptoSaid' is the law's where the arguments, and the package variables that the reading takes, are together of bulk at most 1048576: NARROWER than '..Said'. Prove '..Said' where nothing that the law and all that it calls make is longer than what came in: it says more and counts as full. Else prove '..UptoSaid'. A law counts once. -/
mutual
def uptoBulk {H : Type} : DataW H → Nat
  | .lit (.string bytes) => bytes.length + 1
  | .lit _ => 1
  | .nil => 1
  | .ptr d => uptoBulk d + 1
  | .slice elems spare => uptoBulkAll elems + uptoBulkAll spare + 1
  | .agg parts => uptoBulkAll parts + 1
  | .iface _ d => uptoBulk d + 1
  | .map entries => uptoBulkEntries entries + 1
  | .held _ => 1
def uptoBulkAll {H : Type} : List (DataW H) → Nat
  | [] => 0
  | d :: r => uptoBulk d + uptoBulkAll r
def uptoBulkEntries {H : Type} : List (Lit × DataW H) → Nat
  | [] => 0
  | x :: r => uptoBulkEntry x + uptoBulkEntries r
def uptoBulkEntry {H : Type} : Lit × DataW H → Nat
  | (.string bytes, d) => bytes.length + uptoBulk d + 1
  | (_, d) => uptoBulk d + 1
 end
def uptoSmall : (H : Type) → List (DataW H) → Bool := fun _ ds => decide (uptoBulkAll ds ≤ 1048576)
def OpenSpec.upto (s : _root_.Go.ChangeSpec) : _root_.Go.OpenSpec := { _root_.Go.OpenSpec.ofChange s with cond := some uptoSmall }

/-- 'laws.FnExactShares', WHERE WHAT IT READS IS OF BULK AT MOST 1048576: true; the input reads as it did. -/
def fnExactSharesUptoRow : OpenClaim := { program := "ytkaecjjbammphaagreatdoor", sum := "8a9fefb749ee5cd99e3fb7b899bc4837d29176f632510f95417ca312ac58212d", func := "loop.example/g00718/laws.FnExactShares", spec := "fnExactShares", inPlace := ["internal/reflectlite.TypeOf"], unfollowed := true, recurses := true, named := ["loop.example/g00718/impl.errRange", "loop.example/g00718/impl.errNoCap"], ifaces := true, apart := false, laid := [("loop.example/g00718/impl.errRange", laid_loop_example_g00718_impl_errRange), ("loop.example/g00718/impl.errNoCap", laid_loop_example_g00718_impl_errNoCap)], narrowed := true }
def FnExactSharesUptoSaid : Prop := fnExactSharesUptoRow.holds Tryz.pinned (OpenSpec.upto fnExactSharesSpec)

end Rows
end Go.Proofs.YtkaecjjbammphaaGreatDoor
