/-
  NARROWER THAN 'FOR EVERY INPUT', by the rows' own cells (each row's printed sentence says how): FnExactMayHost: ifaces, laid · FnExactMovesOf: ifaces, laid · FnExactSpreadOf: ifaces, laid · FnExactSkew: ifaces, laid · FnExactClusterOk: ifaces, laid · FnExactUsed: ifaces, laid · FnExactFree: ifaces, laid · FnExactNodeOf: ifaces, laid · FnExactPick: ifaces, laid · FnExactQueue: ifaces, laid · FnExactScore: ifaces, laid.
  DERIVED. THE GIVEN ROWS OF THIS SEAT. 11 by the template 'for every input the law returns true; each argument reads behind the call as it read before'; 0 by the template 'total and deterministic' (their statements: YtmkpajjnjgnmkaaGreatDoorTotals.lean).
  GIVEN WITH THE SEED: the statements are not yours to turn. If you find one false, say at which input.
  Laid BY PROGRAM, IN A SANDBOX (cutbox-rows.mjs): the forced cells as the released guide's own fill.sh prints them over the translation 0b9afebe0b5e734e… (all of the seat's roots in one cut). By AI agents, Wed Nov 11 2026. No macro, syntax, notation, axiom, sorry.
-/
import Derived.Test.YtmkpajjnjgnmkaaGreatDoorChecked
import GoSem.Claim
import GoSem.ClaimJoined
import GoSem.ClaimMapViews
import Derived.JoinedTies
import Derived.KernelRfl
namespace Go.Proofs.YtmkpajjnjgnmkaaGreatDoor
/- THE CELL 'sum', in the pinned program and in every row, IS THE sha256 OF THE DUMP (.gsa) THAT YtmkpajjnjgnmkaaGreatDoorProg.lean LOADS. Nothing in Lean hashes anything: it is a label: what it is worth is what the hold of that sum in a sandbox is worth. -/
noncomputable def Tryz.pinned : Pinned := { name := "ytmkpajjnjgnmkaagreatdoor", sum := "0b9afebe0b5e734ef3de424a6ed1c26e30ac68036bddfe4260163d9ccdf70b81", checked := Tryz.checked }
namespace Rows
def none {H : Type} : Left H := { results := [], args := [] }

/- WHAT THE LISTED PACKAGE-LEVEL VARIABLES READ AS WHEN THE CALL BEGINS. Each datum BY PROGRAM (the guide's laid-datum.mjs) off the statement by which the dump's own 'gosem.cut.vars' lays the variable. In a bare row this is a premise. The card (YtmkpajjnjgnmkaaGreatDoorCards.lean) ties it to the program's text. -/
def laid_loop_example_g00718_impl_errRange {H : Type} : DataW H := .iface "*errors.errorString" (.ptr (.agg [.lit (.string [110, 111, 116, 32, 105, 110, 32, 48, 46, 46, 77, 97, 120, 65, 109, 111, 117, 110, 116])]))
def laid_loop_example_g00718_impl_errNoCap {H : Type} : DataW H := .iface "*errors.errorString" (.ptr (.agg [.lit (.string [117, 115, 101, 100, 32, 119, 105, 116, 104, 111, 117, 116, 32, 99, 97, 112, 97, 99, 105, 116, 121])]))

/-- 'laws.FnExactMayHost': WHATEVER THE INPUT: true; the input reads as it did. -/
def fnExactMayHostSpec : ChangeSpec := { name := "fnExactMayHost", vars := ["loop.example/g00718/impl.errRange"], fn := fun _ => fun
  | [d1, d2, d3, g1] => { results := [.lit (.bool true)], args := [d1, d2, d3], vars := [g1] }
  | _ => none }
def fnExactMayHostRow : OpenClaim := { program := "ytmkpajjnjgnmkaagreatdoor", sum := "0b9afebe0b5e734ef3de424a6ed1c26e30ac68036bddfe4260163d9ccdf70b81", func := "loop.example/g00718/laws.FnExactMayHost", spec := "fnExactMayHost", inPlace := ["internal/reflectlite.TypeOf"], unfollowed := true, recurses := true, named := ["loop.example/g00718/impl.errRange"], ifaces := true, plainKeys := false, apart := false, laid := [("loop.example/g00718/impl.errRange", laid_loop_example_g00718_impl_errRange)] }
def FnExactMayHostSaid : Prop := fnExactMayHostRow.holds Tryz.pinned (OpenSpec.ofChange fnExactMayHostSpec)

/-- ITS FALSE NEIGHBOUR: 'it returns false'. Refute it at one input. -/
def fnExactMayHostWrong : ChangeSpec := { name := "fnExactMayHost", vars := ["loop.example/g00718/impl.errRange"], fn := fun _ => fun
  | [d1, d2, d3, g1] => { results := [.lit (.bool false)], args := [d1, d2, d3], vars := [g1] }
  | _ => none }
def FnExactMayHostWrongFalsely : Prop := fnExactMayHostRow.holds Tryz.pinned (OpenSpec.ofChange fnExactMayHostWrong)

/-- 'laws.FnExactMovesOf': WHATEVER THE INPUT: true; the input reads as it did. -/
def fnExactMovesOfSpec : ChangeSpec := { name := "fnExactMovesOf", vars := ["loop.example/g00718/impl.errRange"], fn := fun _ => fun
  | [d1, d2, g1] => { results := [.lit (.bool true)], args := [d1, d2], vars := [g1] }
  | _ => none }
def fnExactMovesOfRow : OpenClaim := { program := "ytmkpajjnjgnmkaagreatdoor", sum := "0b9afebe0b5e734ef3de424a6ed1c26e30ac68036bddfe4260163d9ccdf70b81", func := "loop.example/g00718/laws.FnExactMovesOf", spec := "fnExactMovesOf", inPlace := ["internal/reflectlite.TypeOf"], unfollowed := true, recurses := true, named := ["loop.example/g00718/impl.errRange"], ifaces := true, plainKeys := false, apart := false, laid := [("loop.example/g00718/impl.errRange", laid_loop_example_g00718_impl_errRange)] }
def FnExactMovesOfSaid : Prop := fnExactMovesOfRow.holds Tryz.pinned (OpenSpec.ofChange fnExactMovesOfSpec)

/-- ITS FALSE NEIGHBOUR: 'it returns false'. Refute it at one input. -/
def fnExactMovesOfWrong : ChangeSpec := { name := "fnExactMovesOf", vars := ["loop.example/g00718/impl.errRange"], fn := fun _ => fun
  | [d1, d2, g1] => { results := [.lit (.bool false)], args := [d1, d2], vars := [g1] }
  | _ => none }
def FnExactMovesOfWrongFalsely : Prop := fnExactMovesOfRow.holds Tryz.pinned (OpenSpec.ofChange fnExactMovesOfWrong)

/-- 'laws.FnExactSpreadOf': WHATEVER THE INPUT: true; the input reads as it did. -/
def fnExactSpreadOfSpec : ChangeSpec := { name := "fnExactSpreadOf", vars := ["loop.example/g00718/impl.errRange"], fn := fun _ => fun
  | [d1, d2, g1] => { results := [.lit (.bool true)], args := [d1, d2], vars := [g1] }
  | _ => none }
def fnExactSpreadOfRow : OpenClaim := { program := "ytmkpajjnjgnmkaagreatdoor", sum := "0b9afebe0b5e734ef3de424a6ed1c26e30ac68036bddfe4260163d9ccdf70b81", func := "loop.example/g00718/laws.FnExactSpreadOf", spec := "fnExactSpreadOf", inPlace := ["internal/reflectlite.TypeOf"], unfollowed := true, recurses := true, named := ["loop.example/g00718/impl.errRange"], ifaces := true, plainKeys := false, apart := false, laid := [("loop.example/g00718/impl.errRange", laid_loop_example_g00718_impl_errRange)] }
def FnExactSpreadOfSaid : Prop := fnExactSpreadOfRow.holds Tryz.pinned (OpenSpec.ofChange fnExactSpreadOfSpec)

/-- ITS FALSE NEIGHBOUR: 'it returns false'. Refute it at one input. -/
def fnExactSpreadOfWrong : ChangeSpec := { name := "fnExactSpreadOf", vars := ["loop.example/g00718/impl.errRange"], fn := fun _ => fun
  | [d1, d2, g1] => { results := [.lit (.bool false)], args := [d1, d2], vars := [g1] }
  | _ => none }
def FnExactSpreadOfWrongFalsely : Prop := fnExactSpreadOfRow.holds Tryz.pinned (OpenSpec.ofChange fnExactSpreadOfWrong)

/-- 'laws.FnExactSkew': WHATEVER THE INPUT: true; the input reads as it did. -/
def fnExactSkewSpec : ChangeSpec := { name := "fnExactSkew", vars := ["loop.example/g00718/impl.errRange"], fn := fun _ => fun
  | [d1, d2, g1] => { results := [.lit (.bool true)], args := [d1, d2], vars := [g1] }
  | _ => none }
def fnExactSkewRow : OpenClaim := { program := "ytmkpajjnjgnmkaagreatdoor", sum := "0b9afebe0b5e734ef3de424a6ed1c26e30ac68036bddfe4260163d9ccdf70b81", func := "loop.example/g00718/laws.FnExactSkew", spec := "fnExactSkew", inPlace := ["internal/reflectlite.TypeOf"], unfollowed := true, recurses := true, named := ["loop.example/g00718/impl.errRange"], ifaces := true, plainKeys := false, apart := false, laid := [("loop.example/g00718/impl.errRange", laid_loop_example_g00718_impl_errRange)] }
def FnExactSkewSaid : Prop := fnExactSkewRow.holds Tryz.pinned (OpenSpec.ofChange fnExactSkewSpec)

/-- ITS FALSE NEIGHBOUR: 'it returns false'. Refute it at one input. -/
def fnExactSkewWrong : ChangeSpec := { name := "fnExactSkew", vars := ["loop.example/g00718/impl.errRange"], fn := fun _ => fun
  | [d1, d2, g1] => { results := [.lit (.bool false)], args := [d1, d2], vars := [g1] }
  | _ => none }
def FnExactSkewWrongFalsely : Prop := fnExactSkewRow.holds Tryz.pinned (OpenSpec.ofChange fnExactSkewWrong)

/-- 'laws.FnExactClusterOk': WHATEVER THE INPUT: true; the input reads as it did. -/
def fnExactClusterOkSpec : ChangeSpec := { name := "fnExactClusterOk", vars := ["loop.example/g00718/impl.errRange"], fn := fun _ => fun
  | [d, g1] => { results := [.lit (.bool true)], args := [d], vars := [g1] }
  | _ => none }
def fnExactClusterOkRow : OpenClaim := { program := "ytmkpajjnjgnmkaagreatdoor", sum := "0b9afebe0b5e734ef3de424a6ed1c26e30ac68036bddfe4260163d9ccdf70b81", func := "loop.example/g00718/laws.FnExactClusterOk", spec := "fnExactClusterOk", inPlace := ["internal/reflectlite.TypeOf"], unfollowed := true, recurses := true, named := ["loop.example/g00718/impl.errRange"], ifaces := true, plainKeys := false, apart := false, laid := [("loop.example/g00718/impl.errRange", laid_loop_example_g00718_impl_errRange)] }
def FnExactClusterOkSaid : Prop := fnExactClusterOkRow.holds Tryz.pinned (OpenSpec.ofChange fnExactClusterOkSpec)

/-- ITS FALSE NEIGHBOUR: 'it returns false'. Refute it at one input. -/
def fnExactClusterOkWrong : ChangeSpec := { name := "fnExactClusterOk", vars := ["loop.example/g00718/impl.errRange"], fn := fun _ => fun
  | [d, g1] => { results := [.lit (.bool false)], args := [d], vars := [g1] }
  | _ => none }
def FnExactClusterOkWrongFalsely : Prop := fnExactClusterOkRow.holds Tryz.pinned (OpenSpec.ofChange fnExactClusterOkWrong)

/-- 'laws.FnExactUsed': WHATEVER THE INPUT: true; the input reads as it did. -/
def fnExactUsedSpec : ChangeSpec := { name := "fnExactUsed", vars := ["loop.example/g00718/impl.errRange"], fn := fun _ => fun
  | [d1, d2, g1] => { results := [.lit (.bool true)], args := [d1, d2], vars := [g1] }
  | _ => none }
def fnExactUsedRow : OpenClaim := { program := "ytmkpajjnjgnmkaagreatdoor", sum := "0b9afebe0b5e734ef3de424a6ed1c26e30ac68036bddfe4260163d9ccdf70b81", func := "loop.example/g00718/laws.FnExactUsed", spec := "fnExactUsed", inPlace := ["internal/reflectlite.TypeOf"], unfollowed := true, recurses := true, named := ["loop.example/g00718/impl.errRange"], ifaces := true, plainKeys := false, apart := false, laid := [("loop.example/g00718/impl.errRange", laid_loop_example_g00718_impl_errRange)] }
def FnExactUsedSaid : Prop := fnExactUsedRow.holds Tryz.pinned (OpenSpec.ofChange fnExactUsedSpec)

/-- ITS FALSE NEIGHBOUR: 'it returns false'. Refute it at one input. -/
def fnExactUsedWrong : ChangeSpec := { name := "fnExactUsed", vars := ["loop.example/g00718/impl.errRange"], fn := fun _ => fun
  | [d1, d2, g1] => { results := [.lit (.bool false)], args := [d1, d2], vars := [g1] }
  | _ => none }
def FnExactUsedWrongFalsely : Prop := fnExactUsedRow.holds Tryz.pinned (OpenSpec.ofChange fnExactUsedWrong)

/-- 'laws.FnExactFree': WHATEVER THE INPUT: true; the input reads as it did. -/
def fnExactFreeSpec : ChangeSpec := { name := "fnExactFree", vars := ["loop.example/g00718/impl.errRange"], fn := fun _ => fun
  | [d1, d2, g1] => { results := [.lit (.bool true)], args := [d1, d2], vars := [g1] }
  | _ => none }
def fnExactFreeRow : OpenClaim := { program := "ytmkpajjnjgnmkaagreatdoor", sum := "0b9afebe0b5e734ef3de424a6ed1c26e30ac68036bddfe4260163d9ccdf70b81", func := "loop.example/g00718/laws.FnExactFree", spec := "fnExactFree", inPlace := ["internal/reflectlite.TypeOf"], unfollowed := true, recurses := true, named := ["loop.example/g00718/impl.errRange"], ifaces := true, plainKeys := false, apart := false, laid := [("loop.example/g00718/impl.errRange", laid_loop_example_g00718_impl_errRange)] }
def FnExactFreeSaid : Prop := fnExactFreeRow.holds Tryz.pinned (OpenSpec.ofChange fnExactFreeSpec)

/-- ITS FALSE NEIGHBOUR: 'it returns false'. Refute it at one input. -/
def fnExactFreeWrong : ChangeSpec := { name := "fnExactFree", vars := ["loop.example/g00718/impl.errRange"], fn := fun _ => fun
  | [d1, d2, g1] => { results := [.lit (.bool false)], args := [d1, d2], vars := [g1] }
  | _ => none }
def FnExactFreeWrongFalsely : Prop := fnExactFreeRow.holds Tryz.pinned (OpenSpec.ofChange fnExactFreeWrong)

/-- 'laws.FnExactNodeOf': WHATEVER THE INPUT: true; the input reads as it did. -/
def fnExactNodeOfSpec : ChangeSpec := { name := "fnExactNodeOf", vars := ["loop.example/g00718/impl.errRange"], fn := fun _ => fun
  | [d1, d2, g1] => { results := [.lit (.bool true)], args := [d1, d2], vars := [g1] }
  | _ => none }
def fnExactNodeOfRow : OpenClaim := { program := "ytmkpajjnjgnmkaagreatdoor", sum := "0b9afebe0b5e734ef3de424a6ed1c26e30ac68036bddfe4260163d9ccdf70b81", func := "loop.example/g00718/laws.FnExactNodeOf", spec := "fnExactNodeOf", inPlace := ["internal/reflectlite.TypeOf"], unfollowed := true, recurses := true, named := ["loop.example/g00718/impl.errRange"], ifaces := true, plainKeys := false, apart := false, laid := [("loop.example/g00718/impl.errRange", laid_loop_example_g00718_impl_errRange)] }
def FnExactNodeOfSaid : Prop := fnExactNodeOfRow.holds Tryz.pinned (OpenSpec.ofChange fnExactNodeOfSpec)

/-- ITS FALSE NEIGHBOUR: 'it returns false'. Refute it at one input. -/
def fnExactNodeOfWrong : ChangeSpec := { name := "fnExactNodeOf", vars := ["loop.example/g00718/impl.errRange"], fn := fun _ => fun
  | [d1, d2, g1] => { results := [.lit (.bool false)], args := [d1, d2], vars := [g1] }
  | _ => none }
def FnExactNodeOfWrongFalsely : Prop := fnExactNodeOfRow.holds Tryz.pinned (OpenSpec.ofChange fnExactNodeOfWrong)

/-- 'laws.FnExactPick': WHATEVER THE INPUT: true; the input reads as it did. -/
def fnExactPickSpec : ChangeSpec := { name := "fnExactPick", vars := ["loop.example/g00718/impl.errRange", "loop.example/g00718/impl.errNoCap"], fn := fun _ => fun
  | [d1, d2, g1, g2] => { results := [.lit (.bool true)], args := [d1, d2], vars := [g1, g2] }
  | _ => none }
def fnExactPickRow : OpenClaim := { program := "ytmkpajjnjgnmkaagreatdoor", sum := "0b9afebe0b5e734ef3de424a6ed1c26e30ac68036bddfe4260163d9ccdf70b81", func := "loop.example/g00718/laws.FnExactPick", spec := "fnExactPick", inPlace := ["internal/reflectlite.TypeOf"], unfollowed := true, recurses := true, named := ["loop.example/g00718/impl.errRange", "loop.example/g00718/impl.errNoCap"], ifaces := true, plainKeys := false, apart := false, laid := [("loop.example/g00718/impl.errRange", laid_loop_example_g00718_impl_errRange), ("loop.example/g00718/impl.errNoCap", laid_loop_example_g00718_impl_errNoCap)] }
def FnExactPickSaid : Prop := fnExactPickRow.holds Tryz.pinned (OpenSpec.ofChange fnExactPickSpec)

/-- ITS FALSE NEIGHBOUR: 'it returns false'. Refute it at one input. -/
def fnExactPickWrong : ChangeSpec := { name := "fnExactPick", vars := ["loop.example/g00718/impl.errRange", "loop.example/g00718/impl.errNoCap"], fn := fun _ => fun
  | [d1, d2, g1, g2] => { results := [.lit (.bool false)], args := [d1, d2], vars := [g1, g2] }
  | _ => none }
def FnExactPickWrongFalsely : Prop := fnExactPickRow.holds Tryz.pinned (OpenSpec.ofChange fnExactPickWrong)

/-- 'laws.FnExactQueue': WHATEVER THE INPUT: true; the input reads as it did. -/
def fnExactQueueSpec : ChangeSpec := { name := "fnExactQueue", vars := ["loop.example/g00718/impl.errRange"], fn := fun _ => fun
  | [d, g1] => { results := [.lit (.bool true)], args := [d], vars := [g1] }
  | _ => none }
def fnExactQueueRow : OpenClaim := { program := "ytmkpajjnjgnmkaagreatdoor", sum := "0b9afebe0b5e734ef3de424a6ed1c26e30ac68036bddfe4260163d9ccdf70b81", func := "loop.example/g00718/laws.FnExactQueue", spec := "fnExactQueue", inPlace := ["internal/reflectlite.TypeOf"], unfollowed := true, recurses := true, named := ["loop.example/g00718/impl.errRange"], ifaces := true, plainKeys := false, apart := false, laid := [("loop.example/g00718/impl.errRange", laid_loop_example_g00718_impl_errRange)] }
def FnExactQueueSaid : Prop := fnExactQueueRow.holds Tryz.pinned (OpenSpec.ofChange fnExactQueueSpec)

/-- ITS FALSE NEIGHBOUR: 'it returns false'. Refute it at one input. -/
def fnExactQueueWrong : ChangeSpec := { name := "fnExactQueue", vars := ["loop.example/g00718/impl.errRange"], fn := fun _ => fun
  | [d, g1] => { results := [.lit (.bool false)], args := [d], vars := [g1] }
  | _ => none }
def FnExactQueueWrongFalsely : Prop := fnExactQueueRow.holds Tryz.pinned (OpenSpec.ofChange fnExactQueueWrong)

/-- 'laws.FnExactScore': WHATEVER THE INPUT: true; the input reads as it did. -/
def fnExactScoreSpec : ChangeSpec := { name := "fnExactScore", vars := ["loop.example/g00718/impl.errRange", "loop.example/g00718/impl.errNoCap"], fn := fun _ => fun
  | [d1, d2, d3, g1, g2] => { results := [.lit (.bool true)], args := [d1, d2, d3], vars := [g1, g2] }
  | _ => none }
def fnExactScoreRow : OpenClaim := { program := "ytmkpajjnjgnmkaagreatdoor", sum := "0b9afebe0b5e734ef3de424a6ed1c26e30ac68036bddfe4260163d9ccdf70b81", func := "loop.example/g00718/laws.FnExactScore", spec := "fnExactScore", inPlace := ["internal/reflectlite.TypeOf"], unfollowed := true, recurses := true, named := ["loop.example/g00718/impl.errRange", "loop.example/g00718/impl.errNoCap"], ifaces := true, plainKeys := false, apart := false, laid := [("loop.example/g00718/impl.errRange", laid_loop_example_g00718_impl_errRange), ("loop.example/g00718/impl.errNoCap", laid_loop_example_g00718_impl_errNoCap)] }
def FnExactScoreSaid : Prop := fnExactScoreRow.holds Tryz.pinned (OpenSpec.ofChange fnExactScoreSpec)

/-- ITS FALSE NEIGHBOUR: 'it returns false'. Refute it at one input. -/
def fnExactScoreWrong : ChangeSpec := { name := "fnExactScore", vars := ["loop.example/g00718/impl.errRange", "loop.example/g00718/impl.errNoCap"], fn := fun _ => fun
  | [d1, d2, d3, g1, g2] => { results := [.lit (.bool false)], args := [d1, d2, d3], vars := [g1, g2] }
  | _ => none }
def FnExactScoreWrongFalsely : Prop := fnExactScoreRow.holds Tryz.pinned (OpenSpec.ofChange fnExactScoreWrong)

/- THE SECOND FORM. 'bulk': how many values and letters a reading holds, each counted each time it is reached (what is shared counts as often as it is met; a slice's spare places count too). A statement '..UptoSaid' is the law's where the arguments, and the package variables that the reading takes, are together of bulk at most 1048576: NARROWER than '..Said'. Prove '..Said' where nothing that the law and all that it calls make is longer than what came in: it says more and counts as full. Else prove '..UptoSaid'. A law counts once. -/
mutual
def uptoBulk {H : Type} : DataW H → Nat
  | .lit (.string bytes) => bytes.length + 1
  | .lit _ => 1
  | .nil => 1
  | .ptr d => uptoBulk d + 1
  | .slice elems spare => uptoBulkAll elems + uptoBulkAll spare + 1
  | .agg parts => uptoBulkAll parts + 1
  | .iface _ d => uptoBulk d + 1
  | .map entries => uptoBulkEntries entries + 1
  | .held _ => 1
def uptoBulkAll {H : Type} : List (DataW H) → Nat
  | [] => 0
  | d :: r => uptoBulk d + uptoBulkAll r
def uptoBulkEntries {H : Type} : List (Lit × DataW H) → Nat
  | [] => 0
  | x :: r => uptoBulkEntry x + uptoBulkEntries r
def uptoBulkEntry {H : Type} : Lit × DataW H → Nat
  | (.string bytes, d) => bytes.length + uptoBulk d + 1
  | (_, d) => uptoBulk d + 1
 end
def uptoSmall : (H : Type) → List (DataW H) → Bool := fun _ ds => decide (uptoBulkAll ds ≤ 1048576)
def OpenSpec.upto (s : _root_.Go.ChangeSpec) : _root_.Go.OpenSpec := { _root_.Go.OpenSpec.ofChange s with cond := some uptoSmall }

/-- 'laws.FnExactMayHost', WHERE WHAT IT READS IS OF BULK AT MOST 1048576: true; the input reads as it did. -/
def fnExactMayHostUptoRow : OpenClaim := { program := "ytmkpajjnjgnmkaagreatdoor", sum := "0b9afebe0b5e734ef3de424a6ed1c26e30ac68036bddfe4260163d9ccdf70b81", func := "loop.example/g00718/laws.FnExactMayHost", spec := "fnExactMayHost", inPlace := ["internal/reflectlite.TypeOf"], unfollowed := true, recurses := true, named := ["loop.example/g00718/impl.errRange"], ifaces := true, plainKeys := false, apart := false, laid := [("loop.example/g00718/impl.errRange", laid_loop_example_g00718_impl_errRange)], narrowed := true }
def FnExactMayHostUptoSaid : Prop := fnExactMayHostUptoRow.holds Tryz.pinned (OpenSpec.upto fnExactMayHostSpec)

/-- 'laws.FnExactMovesOf', WHERE WHAT IT READS IS OF BULK AT MOST 1048576: true; the input reads as it did. -/
def fnExactMovesOfUptoRow : OpenClaim := { program := "ytmkpajjnjgnmkaagreatdoor", sum := "0b9afebe0b5e734ef3de424a6ed1c26e30ac68036bddfe4260163d9ccdf70b81", func := "loop.example/g00718/laws.FnExactMovesOf", spec := "fnExactMovesOf", inPlace := ["internal/reflectlite.TypeOf"], unfollowed := true, recurses := true, named := ["loop.example/g00718/impl.errRange"], ifaces := true, plainKeys := false, apart := false, laid := [("loop.example/g00718/impl.errRange", laid_loop_example_g00718_impl_errRange)], narrowed := true }
def FnExactMovesOfUptoSaid : Prop := fnExactMovesOfUptoRow.holds Tryz.pinned (OpenSpec.upto fnExactMovesOfSpec)

/-- 'laws.FnExactSpreadOf', WHERE WHAT IT READS IS OF BULK AT MOST 1048576: true; the input reads as it did. -/
def fnExactSpreadOfUptoRow : OpenClaim := { program := "ytmkpajjnjgnmkaagreatdoor", sum := "0b9afebe0b5e734ef3de424a6ed1c26e30ac68036bddfe4260163d9ccdf70b81", func := "loop.example/g00718/laws.FnExactSpreadOf", spec := "fnExactSpreadOf", inPlace := ["internal/reflectlite.TypeOf"], unfollowed := true, recurses := true, named := ["loop.example/g00718/impl.errRange"], ifaces := true, plainKeys := false, apart := false, laid := [("loop.example/g00718/impl.errRange", laid_loop_example_g00718_impl_errRange)], narrowed := true }
def FnExactSpreadOfUptoSaid : Prop := fnExactSpreadOfUptoRow.holds Tryz.pinned (OpenSpec.upto fnExactSpreadOfSpec)

/-- 'laws.FnExactSkew', WHERE WHAT IT READS IS OF BULK AT MOST 1048576: true; the input reads as it did. -/
def fnExactSkewUptoRow : OpenClaim := { program := "ytmkpajjnjgnmkaagreatdoor", sum := "0b9afebe0b5e734ef3de424a6ed1c26e30ac68036bddfe4260163d9ccdf70b81", func := "loop.example/g00718/laws.FnExactSkew", spec := "fnExactSkew", inPlace := ["internal/reflectlite.TypeOf"], unfollowed := true, recurses := true, named := ["loop.example/g00718/impl.errRange"], ifaces := true, plainKeys := false, apart := false, laid := [("loop.example/g00718/impl.errRange", laid_loop_example_g00718_impl_errRange)], narrowed := true }
def FnExactSkewUptoSaid : Prop := fnExactSkewUptoRow.holds Tryz.pinned (OpenSpec.upto fnExactSkewSpec)

/-- 'laws.FnExactClusterOk', WHERE WHAT IT READS IS OF BULK AT MOST 1048576: true; the input reads as it did. -/
def fnExactClusterOkUptoRow : OpenClaim := { program := "ytmkpajjnjgnmkaagreatdoor", sum := "0b9afebe0b5e734ef3de424a6ed1c26e30ac68036bddfe4260163d9ccdf70b81", func := "loop.example/g00718/laws.FnExactClusterOk", spec := "fnExactClusterOk", inPlace := ["internal/reflectlite.TypeOf"], unfollowed := true, recurses := true, named := ["loop.example/g00718/impl.errRange"], ifaces := true, plainKeys := false, apart := false, laid := [("loop.example/g00718/impl.errRange", laid_loop_example_g00718_impl_errRange)], narrowed := true }
def FnExactClusterOkUptoSaid : Prop := fnExactClusterOkUptoRow.holds Tryz.pinned (OpenSpec.upto fnExactClusterOkSpec)

/-- 'laws.FnExactUsed', WHERE WHAT IT READS IS OF BULK AT MOST 1048576: true; the input reads as it did. -/
def fnExactUsedUptoRow : OpenClaim := { program := "ytmkpajjnjgnmkaagreatdoor", sum := "0b9afebe0b5e734ef3de424a6ed1c26e30ac68036bddfe4260163d9ccdf70b81", func := "loop.example/g00718/laws.FnExactUsed", spec := "fnExactUsed", inPlace := ["internal/reflectlite.TypeOf"], unfollowed := true, recurses := true, named := ["loop.example/g00718/impl.errRange"], ifaces := true, plainKeys := false, apart := false, laid := [("loop.example/g00718/impl.errRange", laid_loop_example_g00718_impl_errRange)], narrowed := true }
def FnExactUsedUptoSaid : Prop := fnExactUsedUptoRow.holds Tryz.pinned (OpenSpec.upto fnExactUsedSpec)

/-- 'laws.FnExactFree', WHERE WHAT IT READS IS OF BULK AT MOST 1048576: true; the input reads as it did. -/
def fnExactFreeUptoRow : OpenClaim := { program := "ytmkpajjnjgnmkaagreatdoor", sum := "0b9afebe0b5e734ef3de424a6ed1c26e30ac68036bddfe4260163d9ccdf70b81", func := "loop.example/g00718/laws.FnExactFree", spec := "fnExactFree", inPlace := ["internal/reflectlite.TypeOf"], unfollowed := true, recurses := true, named := ["loop.example/g00718/impl.errRange"], ifaces := true, plainKeys := false, apart := false, laid := [("loop.example/g00718/impl.errRange", laid_loop_example_g00718_impl_errRange)], narrowed := true }
def FnExactFreeUptoSaid : Prop := fnExactFreeUptoRow.holds Tryz.pinned (OpenSpec.upto fnExactFreeSpec)

/-- 'laws.FnExactNodeOf', WHERE WHAT IT READS IS OF BULK AT MOST 1048576: true; the input reads as it did. -/
def fnExactNodeOfUptoRow : OpenClaim := { program := "ytmkpajjnjgnmkaagreatdoor", sum := "0b9afebe0b5e734ef3de424a6ed1c26e30ac68036bddfe4260163d9ccdf70b81", func := "loop.example/g00718/laws.FnExactNodeOf", spec := "fnExactNodeOf", inPlace := ["internal/reflectlite.TypeOf"], unfollowed := true, recurses := true, named := ["loop.example/g00718/impl.errRange"], ifaces := true, plainKeys := false, apart := false, laid := [("loop.example/g00718/impl.errRange", laid_loop_example_g00718_impl_errRange)], narrowed := true }
def FnExactNodeOfUptoSaid : Prop := fnExactNodeOfUptoRow.holds Tryz.pinned (OpenSpec.upto fnExactNodeOfSpec)

/-- 'laws.FnExactPick', WHERE WHAT IT READS IS OF BULK AT MOST 1048576: true; the input reads as it did. -/
def fnExactPickUptoRow : OpenClaim := { program := "ytmkpajjnjgnmkaagreatdoor", sum := "0b9afebe0b5e734ef3de424a6ed1c26e30ac68036bddfe4260163d9ccdf70b81", func := "loop.example/g00718/laws.FnExactPick", spec := "fnExactPick", inPlace := ["internal/reflectlite.TypeOf"], unfollowed := true, recurses := true, named := ["loop.example/g00718/impl.errRange", "loop.example/g00718/impl.errNoCap"], ifaces := true, plainKeys := false, apart := false, laid := [("loop.example/g00718/impl.errRange", laid_loop_example_g00718_impl_errRange), ("loop.example/g00718/impl.errNoCap", laid_loop_example_g00718_impl_errNoCap)], narrowed := true }
def FnExactPickUptoSaid : Prop := fnExactPickUptoRow.holds Tryz.pinned (OpenSpec.upto fnExactPickSpec)

/-- 'laws.FnExactQueue', WHERE WHAT IT READS IS OF BULK AT MOST 1048576: true; the input reads as it did. -/
def fnExactQueueUptoRow : OpenClaim := { program := "ytmkpajjnjgnmkaagreatdoor", sum := "0b9afebe0b5e734ef3de424a6ed1c26e30ac68036bddfe4260163d9ccdf70b81", func := "loop.example/g00718/laws.FnExactQueue", spec := "fnExactQueue", inPlace := ["internal/reflectlite.TypeOf"], unfollowed := true, recurses := true, named := ["loop.example/g00718/impl.errRange"], ifaces := true, plainKeys := false, apart := false, laid := [("loop.example/g00718/impl.errRange", laid_loop_example_g00718_impl_errRange)], narrowed := true }
def FnExactQueueUptoSaid : Prop := fnExactQueueUptoRow.holds Tryz.pinned (OpenSpec.upto fnExactQueueSpec)

/-- 'laws.FnExactScore', WHERE WHAT IT READS IS OF BULK AT MOST 1048576: true; the input reads as it did. -/
def fnExactScoreUptoRow : OpenClaim := { program := "ytmkpajjnjgnmkaagreatdoor", sum := "0b9afebe0b5e734ef3de424a6ed1c26e30ac68036bddfe4260163d9ccdf70b81", func := "loop.example/g00718/laws.FnExactScore", spec := "fnExactScore", inPlace := ["internal/reflectlite.TypeOf"], unfollowed := true, recurses := true, named := ["loop.example/g00718/impl.errRange", "loop.example/g00718/impl.errNoCap"], ifaces := true, plainKeys := false, apart := false, laid := [("loop.example/g00718/impl.errRange", laid_loop_example_g00718_impl_errRange), ("loop.example/g00718/impl.errNoCap", laid_loop_example_g00718_impl_errNoCap)], narrowed := true }
def FnExactScoreUptoSaid : Prop := fnExactScoreUptoRow.holds Tryz.pinned (OpenSpec.upto fnExactScoreSpec)

end Rows
end Go.Proofs.YtmkpajjnjgnmkaaGreatDoor
