/-
  NARROWER THAN 'FOR EVERY INPUT', by the rows' own cells (each row's printed sentence says how): FnExactWorldNew: ifaces, laid · FnExactWorldOk: ifaces, laid · FnExactLeader: ifaces, laid · FnExactWorldSafe: ifaces, laid.
  DERIVED. THE GIVEN ROWS OF THIS SEAT. 4 by the template 'for every input the law returns true; each argument reads behind the call as it read before'; 0 by the template 'total and deterministic' (their statements: YtcegofdmdemcbaaGreatDoorTotals.lean).
  GIVEN WITH THE SEED: the statements are not yours to turn. If you find one false, say at which input.
  Laid BY PROGRAM, IN A SANDBOX (cutbox-rows.mjs): the forced cells as the released guide's own fill.sh prints them over the translation 90fab1e80395107a… (all of the seat's roots in one cut). By AI agents, Wed Nov 11 2026. No macro, syntax, notation, axiom, sorry.
-/
import Derived.Test.YtcegofdmdemcbaaGreatDoorChecked
import GoSem.Claim
import GoSem.ClaimJoined
import GoSem.ClaimMapViews
import Derived.JoinedTies
import Derived.KernelRfl
namespace Go.Proofs.YtcegofdmdemcbaaGreatDoor
/- THE CELL 'sum', in the pinned program and in every row, IS THE sha256 OF THE DUMP (.gsa) THAT YtcegofdmdemcbaaGreatDoorProg.lean LOADS. Nothing in Lean hashes anything: it is a label: what it is worth is what the hold of that sum in a sandbox is worth. -/
noncomputable def Tryz.pinned : Pinned := { name := "ytcegofdmdemcbaagreatdoor", sum := "90fab1e80395107a0d76b19115dc82560fe3c151fab6b24e8c4ce3b28bb5b25f", checked := Tryz.checked }
namespace Rows
def none {H : Type} : Left H := { results := [], args := [] }

/- WHAT THE LISTED PACKAGE-LEVEL VARIABLES READ AS WHEN THE CALL BEGINS. Each datum BY PROGRAM (the guide's laid-datum.mjs) off the statement by which the dump's own 'gosem.cut.vars' lays the variable. In a bare row this is a premise. The card (YtcegofdmdemcbaaGreatDoorCards.lean) ties it to the program's text. -/
def laid_loop_example_g00718_impl_errRange {H : Type} : DataW H := .iface "*errors.errorString" (.ptr (.agg [.lit (.string [110, 111, 116, 32, 105, 110, 32, 48, 46, 46, 77, 97, 120, 65, 109, 111, 117, 110, 116])]))

/-- 'laws.FnExactWorldNew': WHATEVER THE INPUT: true; the input reads as it did. -/
def fnExactWorldNewSpec : ChangeSpec := { name := "fnExactWorldNew", vars := ["loop.example/g00718/impl.errRange"], fn := fun _ => fun
  | [d1, d2, d3, d4, g1] => { results := [.lit (.bool true)], args := [d1, d2, d3, d4], vars := [g1] }
  | _ => none }
def fnExactWorldNewRow : OpenClaim := { program := "ytcegofdmdemcbaagreatdoor", sum := "90fab1e80395107a0d76b19115dc82560fe3c151fab6b24e8c4ce3b28bb5b25f", func := "loop.example/g00718/laws.FnExactWorldNew", spec := "fnExactWorldNew", inPlace := ["internal/reflectlite.TypeOf"], unfollowed := true, recurses := true, named := ["loop.example/g00718/impl.errRange"], ifaces := true, apart := false, laid := [("loop.example/g00718/impl.errRange", laid_loop_example_g00718_impl_errRange)] }
def FnExactWorldNewSaid : Prop := fnExactWorldNewRow.holds Tryz.pinned (OpenSpec.ofChange fnExactWorldNewSpec)

/-- ITS FALSE NEIGHBOUR: 'it returns false'. Refute it at one input. -/
def fnExactWorldNewWrong : ChangeSpec := { name := "fnExactWorldNew", vars := ["loop.example/g00718/impl.errRange"], fn := fun _ => fun
  | [d1, d2, d3, d4, g1] => { results := [.lit (.bool false)], args := [d1, d2, d3, d4], vars := [g1] }
  | _ => none }
def FnExactWorldNewWrongFalsely : Prop := fnExactWorldNewRow.holds Tryz.pinned (OpenSpec.ofChange fnExactWorldNewWrong)

/-- 'laws.FnExactWorldOk': WHATEVER THE INPUT: true; the input reads as it did. -/
def fnExactWorldOkSpec : ChangeSpec := { name := "fnExactWorldOk", vars := ["loop.example/g00718/impl.errRange"], fn := fun _ => fun
  | [d, g1] => { results := [.lit (.bool true)], args := [d], vars := [g1] }
  | _ => none }
def fnExactWorldOkRow : OpenClaim := { program := "ytcegofdmdemcbaagreatdoor", sum := "90fab1e80395107a0d76b19115dc82560fe3c151fab6b24e8c4ce3b28bb5b25f", func := "loop.example/g00718/laws.FnExactWorldOk", spec := "fnExactWorldOk", inPlace := ["internal/reflectlite.TypeOf"], unfollowed := true, recurses := true, named := ["loop.example/g00718/impl.errRange"], ifaces := true, apart := false, laid := [("loop.example/g00718/impl.errRange", laid_loop_example_g00718_impl_errRange)] }
def FnExactWorldOkSaid : Prop := fnExactWorldOkRow.holds Tryz.pinned (OpenSpec.ofChange fnExactWorldOkSpec)

/-- ITS FALSE NEIGHBOUR: 'it returns false'. Refute it at one input. -/
def fnExactWorldOkWrong : ChangeSpec := { name := "fnExactWorldOk", vars := ["loop.example/g00718/impl.errRange"], fn := fun _ => fun
  | [d, g1] => { results := [.lit (.bool false)], args := [d], vars := [g1] }
  | _ => none }
def FnExactWorldOkWrongFalsely : Prop := fnExactWorldOkRow.holds Tryz.pinned (OpenSpec.ofChange fnExactWorldOkWrong)

/-- 'laws.FnExactLeader': WHATEVER THE INPUT: true; the input reads as it did. -/
def fnExactLeaderSpec : ChangeSpec := { name := "fnExactLeader", vars := ["loop.example/g00718/impl.errRange"], fn := fun _ => fun
  | [d, g1] => { results := [.lit (.bool true)], args := [d], vars := [g1] }
  | _ => none }
def fnExactLeaderRow : OpenClaim := { program := "ytcegofdmdemcbaagreatdoor", sum := "90fab1e80395107a0d76b19115dc82560fe3c151fab6b24e8c4ce3b28bb5b25f", func := "loop.example/g00718/laws.FnExactLeader", spec := "fnExactLeader", inPlace := ["internal/reflectlite.TypeOf"], unfollowed := true, recurses := true, named := ["loop.example/g00718/impl.errRange"], ifaces := true, apart := false, laid := [("loop.example/g00718/impl.errRange", laid_loop_example_g00718_impl_errRange)] }
def FnExactLeaderSaid : Prop := fnExactLeaderRow.holds Tryz.pinned (OpenSpec.ofChange fnExactLeaderSpec)

/-- ITS FALSE NEIGHBOUR: 'it returns false'. Refute it at one input. -/
def fnExactLeaderWrong : ChangeSpec := { name := "fnExactLeader", vars := ["loop.example/g00718/impl.errRange"], fn := fun _ => fun
  | [d, g1] => { results := [.lit (.bool false)], args := [d], vars := [g1] }
  | _ => none }
def FnExactLeaderWrongFalsely : Prop := fnExactLeaderRow.holds Tryz.pinned (OpenSpec.ofChange fnExactLeaderWrong)

/-- 'laws.FnExactWorldSafe': WHATEVER THE INPUT: true; the input reads as it did. -/
def fnExactWorldSafeSpec : ChangeSpec := { name := "fnExactWorldSafe", vars := ["loop.example/g00718/impl.errRange"], fn := fun _ => fun
  | [d, g1] => { results := [.lit (.bool true)], args := [d], vars := [g1] }
  | _ => none }
def fnExactWorldSafeRow : OpenClaim := { program := "ytcegofdmdemcbaagreatdoor", sum := "90fab1e80395107a0d76b19115dc82560fe3c151fab6b24e8c4ce3b28bb5b25f", func := "loop.example/g00718/laws.FnExactWorldSafe", spec := "fnExactWorldSafe", inPlace := ["internal/reflectlite.TypeOf"], unfollowed := true, recurses := true, named := ["loop.example/g00718/impl.errRange"], ifaces := true, apart := false, laid := [("loop.example/g00718/impl.errRange", laid_loop_example_g00718_impl_errRange)] }
def FnExactWorldSafeSaid : Prop := fnExactWorldSafeRow.holds Tryz.pinned (OpenSpec.ofChange fnExactWorldSafeSpec)

/-- ITS FALSE NEIGHBOUR: 'it returns false'. Refute it at one input. -/
def fnExactWorldSafeWrong : ChangeSpec := { name := "fnExactWorldSafe", vars := ["loop.example/g00718/impl.errRange"], fn := fun _ => fun
  | [d, g1] => { results := [.lit (.bool false)], args := [d], vars := [g1] }
  | _ => none }
def FnExactWorldSafeWrongFalsely : Prop := fnExactWorldSafeRow.holds Tryz.pinned (OpenSpec.ofChange fnExactWorldSafeWrong)

/- THE SECOND FORM. 'bulk': how many values and letters a reading holds, each counted each time it is reached (what is shared counts as often as it is met; a slice's spare places count too). A statement '..UptoSaid' is the law's where the arguments, and the package variables that the reading takes, are together of bulk at most 1048576: NARROWER than '..Said'. Prove '..Said' where nothing that the law and all that it calls make is longer than what came in: it says more and counts as full. Else prove '..UptoSaid'. A law counts once. -/
mutual
def uptoBulk {H : Type} : DataW H → Nat
  | .lit (.string bytes) => bytes.length + 1
  | .lit _ => 1
  | .nil => 1
  | .ptr d => uptoBulk d + 1
  | .slice elems spare => uptoBulkAll elems + uptoBulkAll spare + 1
  | .agg parts => uptoBulkAll parts + 1
  | .iface _ d => uptoBulk d + 1
  | .map entries => uptoBulkEntries entries + 1
  | .held _ => 1
def uptoBulkAll {H : Type} : List (DataW H) → Nat
  | [] => 0
  | d :: r => uptoBulk d + uptoBulkAll r
def uptoBulkEntries {H : Type} : List (Lit × DataW H) → Nat
  | [] => 0
  | x :: r => uptoBulkEntry x + uptoBulkEntries r
def uptoBulkEntry {H : Type} : Lit × DataW H → Nat
  | (.string bytes, d) => bytes.length + uptoBulk d + 1
  | (_, d) => uptoBulk d + 1
 end
def uptoSmall : (H : Type) → List (DataW H) → Bool := fun _ ds => decide (uptoBulkAll ds ≤ 1048576)
def OpenSpec.upto (s : _root_.Go.ChangeSpec) : _root_.Go.OpenSpec := { _root_.Go.OpenSpec.ofChange s with cond := some uptoSmall }

/-- 'laws.FnExactWorldNew', WHERE WHAT IT READS IS OF BULK AT MOST 1048576: true; the input reads as it did. -/
def fnExactWorldNewUptoRow : OpenClaim := { program := "ytcegofdmdemcbaagreatdoor", sum := "90fab1e80395107a0d76b19115dc82560fe3c151fab6b24e8c4ce3b28bb5b25f", func := "loop.example/g00718/laws.FnExactWorldNew", spec := "fnExactWorldNew", inPlace := ["internal/reflectlite.TypeOf"], unfollowed := true, recurses := true, named := ["loop.example/g00718/impl.errRange"], ifaces := true, apart := false, laid := [("loop.example/g00718/impl.errRange", laid_loop_example_g00718_impl_errRange)], narrowed := true }
def FnExactWorldNewUptoSaid : Prop := fnExactWorldNewUptoRow.holds Tryz.pinned (OpenSpec.upto fnExactWorldNewSpec)

/-- 'laws.FnExactWorldOk', WHERE WHAT IT READS IS OF BULK AT MOST 1048576: true; the input reads as it did. -/
def fnExactWorldOkUptoRow : OpenClaim := { program := "ytcegofdmdemcbaagreatdoor", sum := "90fab1e80395107a0d76b19115dc82560fe3c151fab6b24e8c4ce3b28bb5b25f", func := "loop.example/g00718/laws.FnExactWorldOk", spec := "fnExactWorldOk", inPlace := ["internal/reflectlite.TypeOf"], unfollowed := true, recurses := true, named := ["loop.example/g00718/impl.errRange"], ifaces := true, apart := false, laid := [("loop.example/g00718/impl.errRange", laid_loop_example_g00718_impl_errRange)], narrowed := true }
def FnExactWorldOkUptoSaid : Prop := fnExactWorldOkUptoRow.holds Tryz.pinned (OpenSpec.upto fnExactWorldOkSpec)

/-- 'laws.FnExactLeader', WHERE WHAT IT READS IS OF BULK AT MOST 1048576: true; the input reads as it did. -/
def fnExactLeaderUptoRow : OpenClaim := { program := "ytcegofdmdemcbaagreatdoor", sum := "90fab1e80395107a0d76b19115dc82560fe3c151fab6b24e8c4ce3b28bb5b25f", func := "loop.example/g00718/laws.FnExactLeader", spec := "fnExactLeader", inPlace := ["internal/reflectlite.TypeOf"], unfollowed := true, recurses := true, named := ["loop.example/g00718/impl.errRange"], ifaces := true, apart := false, laid := [("loop.example/g00718/impl.errRange", laid_loop_example_g00718_impl_errRange)], narrowed := true }
def FnExactLeaderUptoSaid : Prop := fnExactLeaderUptoRow.holds Tryz.pinned (OpenSpec.upto fnExactLeaderSpec)

/-- 'laws.FnExactWorldSafe', WHERE WHAT IT READS IS OF BULK AT MOST 1048576: true; the input reads as it did. -/
def fnExactWorldSafeUptoRow : OpenClaim := { program := "ytcegofdmdemcbaagreatdoor", sum := "90fab1e80395107a0d76b19115dc82560fe3c151fab6b24e8c4ce3b28bb5b25f", func := "loop.example/g00718/laws.FnExactWorldSafe", spec := "fnExactWorldSafe", inPlace := ["internal/reflectlite.TypeOf"], unfollowed := true, recurses := true, named := ["loop.example/g00718/impl.errRange"], ifaces := true, apart := false, laid := [("loop.example/g00718/impl.errRange", laid_loop_example_g00718_impl_errRange)], narrowed := true }
def FnExactWorldSafeUptoSaid : Prop := fnExactWorldSafeUptoRow.holds Tryz.pinned (OpenSpec.upto fnExactWorldSafeSpec)

end Rows
end Go.Proofs.YtcegofdmdemcbaaGreatDoor
