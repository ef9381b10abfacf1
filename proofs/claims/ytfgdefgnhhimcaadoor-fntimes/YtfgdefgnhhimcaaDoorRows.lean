/-
  NARROWER THAN 'FOR EVERY INPUT', by the rows' own cells (each row's printed sentence says how): FnRes: ifaces, laid · FnTimes: ifaces, laid · FnShare: ifaces, laid · FnExactResOk: ifaces, laid · FnExactResAdd: ifaces, laid · FnExactResSub: ifaces, laid · FnExactResFits: ifaces, laid · FnExactResSum: ifaces, laid · FnExactResShare: ifaces, laid · FnExactResTimes: ifaces, laid.
  DERIVED. THE GIVEN ROWS OF THIS SEAT. 10 by the template 'for every input the law returns true; each argument reads behind the call as it read before'; 0 by the template 'total and deterministic' (their statements: YtfgdefgnhhimcaaDoorTotals.lean).
  GIVEN WITH THE SEED: the statements are not yours to turn. If you find one false, say at which input.
  Laid BY PROGRAM, IN A SANDBOX (cutbox-rows.mjs): the forced cells as the released guide's own fill.sh prints them over the translation 15e05a1b9a7741be… (all of the seat's roots in one cut). By AI agents, Wed Nov 11 2026. No macro, syntax, notation, axiom, sorry.
-/
import Derived.Test.YtfgdefgnhhimcaaDoorChecked
import GoSem.Claim
import GoSem.ClaimJoined
import GoSem.ClaimMapViews
import Derived.JoinedTies
import Derived.KernelRfl
namespace Go.Proofs.YtfgdefgnhhimcaaDoor
/- THE CELL 'sum', in the pinned program and in every row, IS THE sha256 OF THE DUMP (.gsa) THAT YtfgdefgnhhimcaaDoorProg.lean LOADS. Nothing in Lean hashes anything: it is a label: what it is worth is what the hold of that sum in a sandbox is worth. -/
noncomputable def Tryd.pinned : Pinned := { name := "ytfgdefgnhhimcaadoor", sum := "15e05a1b9a7741bea8c9af9d292c0157e7a723f1415fa0ddf9207035d8ac0d86", checked := Tryd.checked }
namespace Rows
def none {H : Type} : Left H := { results := [], args := [] }

/- WHAT THE LISTED PACKAGE-LEVEL VARIABLES READ AS WHEN THE CALL BEGINS. Each datum BY PROGRAM (the guide's laid-datum.mjs) off the statement by which the dump's own 'gosem.cut.vars' lays the variable. In a bare row this is a premise. The card (YtfgdefgnhhimcaaDoorCards.lean) ties it to the program's text. -/
def laid_loop_example_g00718_impl_errRange {H : Type} : DataW H := .iface "*errors.errorString" (.ptr (.agg [.lit (.string [110, 111, 116, 32, 105, 110, 32, 48, 46, 46, 77, 97, 120, 65, 109, 111, 117, 110, 116])]))
def laid_loop_example_g00718_impl_errNoCap {H : Type} : DataW H := .iface "*errors.errorString" (.ptr (.agg [.lit (.string [117, 115, 101, 100, 32, 119, 105, 116, 104, 111, 117, 116, 32, 99, 97, 112, 97, 99, 105, 116, 121])]))

/-- 'laws.FnRes': WHATEVER THE INPUT: true; the input reads as it did. -/
def fnResSpec : ChangeSpec := { name := "fnRes", vars := ["loop.example/g00718/impl.errRange"], fn := fun _ => fun
  | [d, g1] => { results := [.lit (.bool true)], args := [d], vars := [g1] }
  | _ => none }
def fnResRow : OpenClaim := { program := "ytfgdefgnhhimcaadoor", sum := "15e05a1b9a7741bea8c9af9d292c0157e7a723f1415fa0ddf9207035d8ac0d86", func := "loop.example/g00718/laws.FnRes", spec := "fnRes", inPlace := ["internal/reflectlite.TypeOf"], unfollowed := true, recurses := true, named := ["loop.example/g00718/impl.errRange"], ifaces := true, apart := false, laid := [("loop.example/g00718/impl.errRange", laid_loop_example_g00718_impl_errRange)] }
def FnResSaid : Prop := fnResRow.holds Tryd.pinned (OpenSpec.ofChange fnResSpec)

/-- ITS FALSE NEIGHBOUR: 'it returns false'. Refute it at one input. -/
def fnResWrong : ChangeSpec := { name := "fnRes", vars := ["loop.example/g00718/impl.errRange"], fn := fun _ => fun
  | [d, g1] => { results := [.lit (.bool false)], args := [d], vars := [g1] }
  | _ => none }
def FnResWrongFalsely : Prop := fnResRow.holds Tryd.pinned (OpenSpec.ofChange fnResWrong)

/-- 'laws.FnTimes': WHATEVER THE INPUT: true; the input reads as it did. -/
def fnTimesSpec : ChangeSpec := { name := "fnTimes", vars := ["loop.example/g00718/impl.errRange"], fn := fun _ => fun
  | [d, g1] => { results := [.lit (.bool true)], args := [d], vars := [g1] }
  | _ => none }
def fnTimesRow : OpenClaim := { program := "ytfgdefgnhhimcaadoor", sum := "15e05a1b9a7741bea8c9af9d292c0157e7a723f1415fa0ddf9207035d8ac0d86", func := "loop.example/g00718/laws.FnTimes", spec := "fnTimes", inPlace := ["internal/reflectlite.TypeOf"], unfollowed := true, recurses := true, named := ["loop.example/g00718/impl.errRange"], ifaces := true, apart := false, laid := [("loop.example/g00718/impl.errRange", laid_loop_example_g00718_impl_errRange)] }
def FnTimesSaid : Prop := fnTimesRow.holds Tryd.pinned (OpenSpec.ofChange fnTimesSpec)

/-- ITS FALSE NEIGHBOUR: 'it returns false'. Refute it at one input. -/
def fnTimesWrong : ChangeSpec := { name := "fnTimes", vars := ["loop.example/g00718/impl.errRange"], fn := fun _ => fun
  | [d, g1] => { results := [.lit (.bool false)], args := [d], vars := [g1] }
  | _ => none }
def FnTimesWrongFalsely : Prop := fnTimesRow.holds Tryd.pinned (OpenSpec.ofChange fnTimesWrong)

/-- 'laws.FnShare': WHATEVER THE INPUT: true; the input reads as it did. -/
def fnShareSpec : ChangeSpec := { name := "fnShare", vars := ["loop.example/g00718/impl.errNoCap", "loop.example/g00718/impl.errRange"], fn := fun _ => fun
  | [d, g1, g2] => { results := [.lit (.bool true)], args := [d], vars := [g1, g2] }
  | _ => none }
def fnShareRow : OpenClaim := { program := "ytfgdefgnhhimcaadoor", sum := "15e05a1b9a7741bea8c9af9d292c0157e7a723f1415fa0ddf9207035d8ac0d86", func := "loop.example/g00718/laws.FnShare", spec := "fnShare", inPlace := ["internal/reflectlite.TypeOf"], unfollowed := true, recurses := true, named := ["loop.example/g00718/impl.errNoCap", "loop.example/g00718/impl.errRange"], ifaces := true, apart := false, laid := [("loop.example/g00718/impl.errRange", laid_loop_example_g00718_impl_errRange), ("loop.example/g00718/impl.errNoCap", laid_loop_example_g00718_impl_errNoCap)] }
def FnShareSaid : Prop := fnShareRow.holds Tryd.pinned (OpenSpec.ofChange fnShareSpec)

/-- ITS FALSE NEIGHBOUR: 'it returns false'. Refute it at one input. -/
def fnShareWrong : ChangeSpec := { name := "fnShare", vars := ["loop.example/g00718/impl.errNoCap", "loop.example/g00718/impl.errRange"], fn := fun _ => fun
  | [d, g1, g2] => { results := [.lit (.bool false)], args := [d], vars := [g1, g2] }
  | _ => none }
def FnShareWrongFalsely : Prop := fnShareRow.holds Tryd.pinned (OpenSpec.ofChange fnShareWrong)

/-- 'laws.FnExactResOk': WHATEVER THE INPUT: true; the input reads as it did. -/
def fnExactResOkSpec : ChangeSpec := { name := "fnExactResOk", vars := ["loop.example/g00718/impl.errRange"], fn := fun _ => fun
  | [d, g1] => { results := [.lit (.bool true)], args := [d], vars := [g1] }
  | _ => none }
def fnExactResOkRow : OpenClaim := { program := "ytfgdefgnhhimcaadoor", sum := "15e05a1b9a7741bea8c9af9d292c0157e7a723f1415fa0ddf9207035d8ac0d86", func := "loop.example/g00718/laws.FnExactResOk", spec := "fnExactResOk", inPlace := ["internal/reflectlite.TypeOf"], unfollowed := true, recurses := true, named := ["loop.example/g00718/impl.errRange"], ifaces := true, apart := false, laid := [("loop.example/g00718/impl.errRange", laid_loop_example_g00718_impl_errRange)] }
def FnExactResOkSaid : Prop := fnExactResOkRow.holds Tryd.pinned (OpenSpec.ofChange fnExactResOkSpec)

/-- ITS FALSE NEIGHBOUR: 'it returns false'. Refute it at one input. -/
def fnExactResOkWrong : ChangeSpec := { name := "fnExactResOk", vars := ["loop.example/g00718/impl.errRange"], fn := fun _ => fun
  | [d, g1] => { results := [.lit (.bool false)], args := [d], vars := [g1] }
  | _ => none }
def FnExactResOkWrongFalsely : Prop := fnExactResOkRow.holds Tryd.pinned (OpenSpec.ofChange fnExactResOkWrong)

/-- 'laws.FnExactResAdd': WHATEVER THE INPUT: true; the input reads as it did. -/
def fnExactResAddSpec : ChangeSpec := { name := "fnExactResAdd", vars := ["loop.example/g00718/impl.errRange"], fn := fun _ => fun
  | [d1, d2, g1] => { results := [.lit (.bool true)], args := [d1, d2], vars := [g1] }
  | _ => none }
def fnExactResAddRow : OpenClaim := { program := "ytfgdefgnhhimcaadoor", sum := "15e05a1b9a7741bea8c9af9d292c0157e7a723f1415fa0ddf9207035d8ac0d86", func := "loop.example/g00718/laws.FnExactResAdd", spec := "fnExactResAdd", inPlace := ["internal/reflectlite.TypeOf"], unfollowed := true, recurses := true, named := ["loop.example/g00718/impl.errRange"], ifaces := true, apart := false, laid := [("loop.example/g00718/impl.errRange", laid_loop_example_g00718_impl_errRange)] }
def FnExactResAddSaid : Prop := fnExactResAddRow.holds Tryd.pinned (OpenSpec.ofChange fnExactResAddSpec)

/-- ITS FALSE NEIGHBOUR: 'it returns false'. Refute it at one input. -/
def fnExactResAddWrong : ChangeSpec := { name := "fnExactResAdd", vars := ["loop.example/g00718/impl.errRange"], fn := fun _ => fun
  | [d1, d2, g1] => { results := [.lit (.bool false)], args := [d1, d2], vars := [g1] }
  | _ => none }
def FnExactResAddWrongFalsely : Prop := fnExactResAddRow.holds Tryd.pinned (OpenSpec.ofChange fnExactResAddWrong)

/-- 'laws.FnExactResSub': WHATEVER THE INPUT: true; the input reads as it did. -/
def fnExactResSubSpec : ChangeSpec := { name := "fnExactResSub", vars := ["loop.example/g00718/impl.errRange"], fn := fun _ => fun
  | [d1, d2, g1] => { results := [.lit (.bool true)], args := [d1, d2], vars := [g1] }
  | _ => none }
def fnExactResSubRow : OpenClaim := { program := "ytfgdefgnhhimcaadoor", sum := "15e05a1b9a7741bea8c9af9d292c0157e7a723f1415fa0ddf9207035d8ac0d86", func := "loop.example/g00718/laws.FnExactResSub", spec := "fnExactResSub", inPlace := ["internal/reflectlite.TypeOf"], unfollowed := true, recurses := true, named := ["loop.example/g00718/impl.errRange"], ifaces := true, apart := false, laid := [("loop.example/g00718/impl.errRange", laid_loop_example_g00718_impl_errRange)] }
def FnExactResSubSaid : Prop := fnExactResSubRow.holds Tryd.pinned (OpenSpec.ofChange fnExactResSubSpec)

/-- ITS FALSE NEIGHBOUR: 'it returns false'. Refute it at one input. -/
def fnExactResSubWrong : ChangeSpec := { name := "fnExactResSub", vars := ["loop.example/g00718/impl.errRange"], fn := fun _ => fun
  | [d1, d2, g1] => { results := [.lit (.bool false)], args := [d1, d2], vars := [g1] }
  | _ => none }
def FnExactResSubWrongFalsely : Prop := fnExactResSubRow.holds Tryd.pinned (OpenSpec.ofChange fnExactResSubWrong)

/-- 'laws.FnExactResFits': WHATEVER THE INPUT: true; the input reads as it did. -/
def fnExactResFitsSpec : ChangeSpec := { name := "fnExactResFits", vars := ["loop.example/g00718/impl.errRange"], fn := fun _ => fun
  | [d1, d2, g1] => { results := [.lit (.bool true)], args := [d1, d2], vars := [g1] }
  | _ => none }
def fnExactResFitsRow : OpenClaim := { program := "ytfgdefgnhhimcaadoor", sum := "15e05a1b9a7741bea8c9af9d292c0157e7a723f1415fa0ddf9207035d8ac0d86", func := "loop.example/g00718/laws.FnExactResFits", spec := "fnExactResFits", inPlace := ["internal/reflectlite.TypeOf"], unfollowed := true, recurses := true, named := ["loop.example/g00718/impl.errRange"], ifaces := true, apart := false, laid := [("loop.example/g00718/impl.errRange", laid_loop_example_g00718_impl_errRange)] }
def FnExactResFitsSaid : Prop := fnExactResFitsRow.holds Tryd.pinned (OpenSpec.ofChange fnExactResFitsSpec)

/-- ITS FALSE NEIGHBOUR: 'it returns false'. Refute it at one input. -/
def fnExactResFitsWrong : ChangeSpec := { name := "fnExactResFits", vars := ["loop.example/g00718/impl.errRange"], fn := fun _ => fun
  | [d1, d2, g1] => { results := [.lit (.bool false)], args := [d1, d2], vars := [g1] }
  | _ => none }
def FnExactResFitsWrongFalsely : Prop := fnExactResFitsRow.holds Tryd.pinned (OpenSpec.ofChange fnExactResFitsWrong)

/-- 'laws.FnExactResSum': WHATEVER THE INPUT: true; the input reads as it did. -/
def fnExactResSumSpec : ChangeSpec := { name := "fnExactResSum", vars := ["loop.example/g00718/impl.errRange"], fn := fun _ => fun
  | [d, g1] => { results := [.lit (.bool true)], args := [d], vars := [g1] }
  | _ => none }
def fnExactResSumRow : OpenClaim := { program := "ytfgdefgnhhimcaadoor", sum := "15e05a1b9a7741bea8c9af9d292c0157e7a723f1415fa0ddf9207035d8ac0d86", func := "loop.example/g00718/laws.FnExactResSum", spec := "fnExactResSum", inPlace := ["internal/reflectlite.TypeOf"], unfollowed := true, recurses := true, named := ["loop.example/g00718/impl.errRange"], ifaces := true, apart := false, laid := [("loop.example/g00718/impl.errRange", laid_loop_example_g00718_impl_errRange)] }
def FnExactResSumSaid : Prop := fnExactResSumRow.holds Tryd.pinned (OpenSpec.ofChange fnExactResSumSpec)

/-- ITS FALSE NEIGHBOUR: 'it returns false'. Refute it at one input. -/
def fnExactResSumWrong : ChangeSpec := { name := "fnExactResSum", vars := ["loop.example/g00718/impl.errRange"], fn := fun _ => fun
  | [d, g1] => { results := [.lit (.bool false)], args := [d], vars := [g1] }
  | _ => none }
def FnExactResSumWrongFalsely : Prop := fnExactResSumRow.holds Tryd.pinned (OpenSpec.ofChange fnExactResSumWrong)

/-- 'laws.FnExactResShare': WHATEVER THE INPUT: true; the input reads as it did. -/
def fnExactResShareSpec : ChangeSpec := { name := "fnExactResShare", vars := ["loop.example/g00718/impl.errNoCap", "loop.example/g00718/impl.errRange"], fn := fun _ => fun
  | [d1, d2, g1, g2] => { results := [.lit (.bool true)], args := [d1, d2], vars := [g1, g2] }
  | _ => none }
def fnExactResShareRow : OpenClaim := { program := "ytfgdefgnhhimcaadoor", sum := "15e05a1b9a7741bea8c9af9d292c0157e7a723f1415fa0ddf9207035d8ac0d86", func := "loop.example/g00718/laws.FnExactResShare", spec := "fnExactResShare", inPlace := ["internal/reflectlite.TypeOf"], unfollowed := true, recurses := true, named := ["loop.example/g00718/impl.errNoCap", "loop.example/g00718/impl.errRange"], ifaces := true, apart := false, laid := [("loop.example/g00718/impl.errRange", laid_loop_example_g00718_impl_errRange), ("loop.example/g00718/impl.errNoCap", laid_loop_example_g00718_impl_errNoCap)] }
def FnExactResShareSaid : Prop := fnExactResShareRow.holds Tryd.pinned (OpenSpec.ofChange fnExactResShareSpec)

/-- ITS FALSE NEIGHBOUR: 'it returns false'. Refute it at one input. -/
def fnExactResShareWrong : ChangeSpec := { name := "fnExactResShare", vars := ["loop.example/g00718/impl.errNoCap", "loop.example/g00718/impl.errRange"], fn := fun _ => fun
  | [d1, d2, g1, g2] => { results := [.lit (.bool false)], args := [d1, d2], vars := [g1, g2] }
  | _ => none }
def FnExactResShareWrongFalsely : Prop := fnExactResShareRow.holds Tryd.pinned (OpenSpec.ofChange fnExactResShareWrong)

/-- 'laws.FnExactResTimes': WHATEVER THE INPUT: true; the input reads as it did. -/
def fnExactResTimesSpec : ChangeSpec := { name := "fnExactResTimes", vars := ["loop.example/g00718/impl.errRange"], fn := fun _ => fun
  | [d1, d2, g1] => { results := [.lit (.bool true)], args := [d1, d2], vars := [g1] }
  | _ => none }
def fnExactResTimesRow : OpenClaim := { program := "ytfgdefgnhhimcaadoor", sum := "15e05a1b9a7741bea8c9af9d292c0157e7a723f1415fa0ddf9207035d8ac0d86", func := "loop.example/g00718/laws.FnExactResTimes", spec := "fnExactResTimes", inPlace := ["internal/reflectlite.TypeOf"], unfollowed := true, recurses := true, named := ["loop.example/g00718/impl.errRange"], ifaces := true, apart := false, laid := [("loop.example/g00718/impl.errRange", laid_loop_example_g00718_impl_errRange)] }
def FnExactResTimesSaid : Prop := fnExactResTimesRow.holds Tryd.pinned (OpenSpec.ofChange fnExactResTimesSpec)

/-- ITS FALSE NEIGHBOUR: 'it returns false'. Refute it at one input. -/
def fnExactResTimesWrong : ChangeSpec := { name := "fnExactResTimes", vars := ["loop.example/g00718/impl.errRange"], fn := fun _ => fun
  | [d1, d2, g1] => { results := [.lit (.bool false)], args := [d1, d2], vars := [g1] }
  | _ => none }
def FnExactResTimesWrongFalsely : Prop := fnExactResTimesRow.holds Tryd.pinned (OpenSpec.ofChange fnExactResTimesWrong)

/- THE SECOND FORM. 'bulk': how many values and letters a reading holds, each counted each time it is reached (what is shared counts as often as it is met; a slice's spare places count too). A statement '..UptoSaid' is the law's where the arguments, and the package variables that the reading takes, are together of bulk at most 1048576: NARROWER than '..Said'. Prove '..Said' where nothing that the law and all that it calls make is longer than what came in: it says more and counts as full. Else prove '..UptoSaid'. A law counts once. -/
mutual
def uptoBulk {H : Type} : DataW H → Nat
  | .lit (.string bytes) => bytes.length + 1
  | .lit _ => 1
  | .nil => 1
  | .ptr d => uptoBulk d + 1
  | .slice elems spare => uptoBulkAll elems + uptoBulkAll spare + 1
  | .agg parts => uptoBulkAll parts + 1
  | .iface _ d => uptoBulk d + 1
  | .map entries => uptoBulkEntries entries + 1
  | .held _ => 1
def uptoBulkAll {H : Type} : List (DataW H) → Nat
  | [] => 0
  | d :: r => uptoBulk d + uptoBulkAll r
def uptoBulkEntries {H : Type} : List (Lit × DataW H) → Nat
  | [] => 0
  | x :: r => uptoBulkEntry x + uptoBulkEntries r
def uptoBulkEntry {H : Type} : Lit × DataW H → Nat
  | (.string bytes, d) => bytes.length + uptoBulk d + 1
  | (_, d) => uptoBulk d + 1
 end
def uptoSmall : (H : Type) → List (DataW H) → Bool := fun _ ds => decide (uptoBulkAll ds ≤ 1048576)
def OpenSpec.upto (s : _root_.Go.ChangeSpec) : _root_.Go.OpenSpec := { _root_.Go.OpenSpec.ofChange s with cond := some uptoSmall }

/-- 'laws.FnRes', WHERE WHAT IT READS IS OF BULK AT MOST 1048576: true; the input reads as it did. -/
def fnResUptoRow : OpenClaim := { program := "ytfgdefgnhhimcaadoor", sum := "15e05a1b9a7741bea8c9af9d292c0157e7a723f1415fa0ddf9207035d8ac0d86", func := "loop.example/g00718/laws.FnRes", spec := "fnRes", inPlace := ["internal/reflectlite.TypeOf"], unfollowed := true, recurses := true, named := ["loop.example/g00718/impl.errRange"], ifaces := true, apart := false, laid := [("loop.example/g00718/impl.errRange", laid_loop_example_g00718_impl_errRange)], narrowed := true }
def FnResUptoSaid : Prop := fnResUptoRow.holds Tryd.pinned (OpenSpec.upto fnResSpec)

/-- 'laws.FnTimes', WHERE WHAT IT READS IS OF BULK AT MOST 1048576: true; the input reads as it did. -/
def fnTimesUptoRow : OpenClaim := { program := "ytfgdefgnhhimcaadoor", sum := "15e05a1b9a7741bea8c9af9d292c0157e7a723f1415fa0ddf9207035d8ac0d86", func := "loop.example/g00718/laws.FnTimes", spec := "fnTimes", inPlace := ["internal/reflectlite.TypeOf"], unfollowed := true, recurses := true, named := ["loop.example/g00718/impl.errRange"], ifaces := true, apart := false, laid := [("loop.example/g00718/impl.errRange", laid_loop_example_g00718_impl_errRange)], narrowed := true }
def FnTimesUptoSaid : Prop := fnTimesUptoRow.holds Tryd.pinned (OpenSpec.upto fnTimesSpec)

/-- 'laws.FnShare', WHERE WHAT IT READS IS OF BULK AT MOST 1048576: true; the input reads as it did. -/
def fnShareUptoRow : OpenClaim := { program := "ytfgdefgnhhimcaadoor", sum := "15e05a1b9a7741bea8c9af9d292c0157e7a723f1415fa0ddf9207035d8ac0d86", func := "loop.example/g00718/laws.FnShare", spec := "fnShare", inPlace := ["internal/reflectlite.TypeOf"], unfollowed := true, recurses := true, named := ["loop.example/g00718/impl.errNoCap", "loop.example/g00718/impl.errRange"], ifaces := true, apart := false, laid := [("loop.example/g00718/impl.errRange", laid_loop_example_g00718_impl_errRange), ("loop.example/g00718/impl.errNoCap", laid_loop_example_g00718_impl_errNoCap)], narrowed := true }
def FnShareUptoSaid : Prop := fnShareUptoRow.holds Tryd.pinned (OpenSpec.upto fnShareSpec)

/-- 'laws.FnExactResOk', WHERE WHAT IT READS IS OF BULK AT MOST 1048576: true; the input reads as it did. -/
def fnExactResOkUptoRow : OpenClaim := { program := "ytfgdefgnhhimcaadoor", sum := "15e05a1b9a7741bea8c9af9d292c0157e7a723f1415fa0ddf9207035d8ac0d86", func := "loop.example/g00718/laws.FnExactResOk", spec := "fnExactResOk", inPlace := ["internal/reflectlite.TypeOf"], unfollowed := true, recurses := true, named := ["loop.example/g00718/impl.errRange"], ifaces := true, apart := false, laid := [("loop.example/g00718/impl.errRange", laid_loop_example_g00718_impl_errRange)], narrowed := true }
def FnExactResOkUptoSaid : Prop := fnExactResOkUptoRow.holds Tryd.pinned (OpenSpec.upto fnExactResOkSpec)

/-- 'laws.FnExactResAdd', WHERE WHAT IT READS IS OF BULK AT MOST 1048576: true; the input reads as it did. -/
def fnExactResAddUptoRow : OpenClaim := { program := "ytfgdefgnhhimcaadoor", sum := "15e05a1b9a7741bea8c9af9d292c0157e7a723f1415fa0ddf9207035d8ac0d86", func := "loop.example/g00718/laws.FnExactResAdd", spec := "fnExactResAdd", inPlace := ["internal/reflectlite.TypeOf"], unfollowed := true, recurses := true, named := ["loop.example/g00718/impl.errRange"], ifaces := true, apart := false, laid := [("loop.example/g00718/impl.errRange", laid_loop_example_g00718_impl_errRange)], narrowed := true }
def FnExactResAddUptoSaid : Prop := fnExactResAddUptoRow.holds Tryd.pinned (OpenSpec.upto fnExactResAddSpec)

/-- 'laws.FnExactResSub', WHERE WHAT IT READS IS OF BULK AT MOST 1048576: true; the input reads as it did. -/
def fnExactResSubUptoRow : OpenClaim := { program := "ytfgdefgnhhimcaadoor", sum := "15e05a1b9a7741bea8c9af9d292c0157e7a723f1415fa0ddf9207035d8ac0d86", func := "loop.example/g00718/laws.FnExactResSub", spec := "fnExactResSub", inPlace := ["internal/reflectlite.TypeOf"], unfollowed := true, recurses := true, named := ["loop.example/g00718/impl.errRange"], ifaces := true, apart := false, laid := [("loop.example/g00718/impl.errRange", laid_loop_example_g00718_impl_errRange)], narrowed := true }
def FnExactResSubUptoSaid : Prop := fnExactResSubUptoRow.holds Tryd.pinned (OpenSpec.upto fnExactResSubSpec)

/-- 'laws.FnExactResFits', WHERE WHAT IT READS IS OF BULK AT MOST 1048576: true; the input reads as it did. -/
def fnExactResFitsUptoRow : OpenClaim := { program := "ytfgdefgnhhimcaadoor", sum := "15e05a1b9a7741bea8c9af9d292c0157e7a723f1415fa0ddf9207035d8ac0d86", func := "loop.example/g00718/laws.FnExactResFits", spec := "fnExactResFits", inPlace := ["internal/reflectlite.TypeOf"], unfollowed := true, recurses := true, named := ["loop.example/g00718/impl.errRange"], ifaces := true, apart := false, laid := [("loop.example/g00718/impl.errRange", laid_loop_example_g00718_impl_errRange)], narrowed := true }
def FnExactResFitsUptoSaid : Prop := fnExactResFitsUptoRow.holds Tryd.pinned (OpenSpec.upto fnExactResFitsSpec)

/-- 'laws.FnExactResSum', WHERE WHAT IT READS IS OF BULK AT MOST 1048576: true; the input reads as it did. -/
def fnExactResSumUptoRow : OpenClaim := { program := "ytfgdefgnhhimcaadoor", sum := "15e05a1b9a7741bea8c9af9d292c0157e7a723f1415fa0ddf9207035d8ac0d86", func := "loop.example/g00718/laws.FnExactResSum", spec := "fnExactResSum", inPlace := ["internal/reflectlite.TypeOf"], unfollowed := true, recurses := true, named := ["loop.example/g00718/impl.errRange"], ifaces := true, apart := false, laid := [("loop.example/g00718/impl.errRange", laid_loop_example_g00718_impl_errRange)], narrowed := true }
def FnExactResSumUptoSaid : Prop := fnExactResSumUptoRow.holds Tryd.pinned (OpenSpec.upto fnExactResSumSpec)

/-- 'laws.FnExactResShare', WHERE WHAT IT READS IS OF BULK AT MOST 1048576: true; the input reads as it did. -/
def fnExactResShareUptoRow : OpenClaim := { program := "ytfgdefgnhhimcaadoor", sum := "15e05a1b9a7741bea8c9af9d292c0157e7a723f1415fa0ddf9207035d8ac0d86", func := "loop.example/g00718/laws.FnExactResShare", spec := "fnExactResShare", inPlace := ["internal/reflectlite.TypeOf"], unfollowed := true, recurses := true, named := ["loop.example/g00718/impl.errNoCap", "loop.example/g00718/impl.errRange"], ifaces := true, apart := false, laid := [("loop.example/g00718/impl.errRange", laid_loop_example_g00718_impl_errRange), ("loop.example/g00718/impl.errNoCap", laid_loop_example_g00718_impl_errNoCap)], narrowed := true }
def FnExactResShareUptoSaid : Prop := fnExactResShareUptoRow.holds Tryd.pinned (OpenSpec.upto fnExactResShareSpec)

/-- 'laws.FnExactResTimes', WHERE WHAT IT READS IS OF BULK AT MOST 1048576: true; the input reads as it did. -/
def fnExactResTimesUptoRow : OpenClaim := { program := "ytfgdefgnhhimcaadoor", sum := "15e05a1b9a7741bea8c9af9d292c0157e7a723f1415fa0ddf9207035d8ac0d86", func := "loop.example/g00718/laws.FnExactResTimes", spec := "fnExactResTimes", inPlace := ["internal/reflectlite.TypeOf"], unfollowed := true, recurses := true, named := ["loop.example/g00718/impl.errRange"], ifaces := true, apart := false, laid := [("loop.example/g00718/impl.errRange", laid_loop_example_g00718_impl_errRange)], narrowed := true }
def FnExactResTimesUptoSaid : Prop := fnExactResTimesUptoRow.holds Tryd.pinned (OpenSpec.upto fnExactResTimesSpec)

end Rows
end Go.Proofs.YtfgdefgnhhimcaaDoor
