/-
  NARROWER THAN 'FOR EVERY INPUT', by the rows' own cells (each row's printed sentence says how): FnExactTaskAdd: ifaces, laid · FnExactTaskDrop: ifaces, laid · FnExactNodeAdd: ifaces, laid · FnExactNodeDrop: ifaces, laid · FnExactCordon: ifaces, laid · FnExactBindAdd: ifaces, laid · FnExactBindDrop: ifaces, laid · FnExactPoolCount: ifaces, laid.
  DERIVED. THE GIVEN ROWS OF THIS SEAT. 8 by the template 'for every input the law returns true; each argument reads behind the call as it read before'; 0 by the template 'total and deterministic' (their statements: YtocfgejceoenmaaGreatDoorTotals.lean).
  GIVEN WITH THE SEED: the statements are not yours to turn. If you find one false, say at which input.
  Laid BY PROGRAM, IN A SANDBOX (cutbox-rows.mjs): the forced cells as the released guide's own fill.sh prints them over the translation 9fc233c2b475c912… (all of the seat's roots in one cut). By AI agents, Wed Nov 11 2026. No macro, syntax, notation, axiom, sorry.
-/
import Derived.Test.YtocfgejceoenmaaGreatDoorChecked
import GoSem.Claim
import GoSem.ClaimJoined
import GoSem.ClaimMapViews
import Derived.JoinedTies
import Derived.KernelRfl
namespace Go.Proofs.YtocfgejceoenmaaGreatDoor
/- THE CELL 'sum', in the pinned program and in every row, IS THE sha256 OF THE DUMP (.gsa) THAT YtocfgejceoenmaaGreatDoorProg.lean LOADS. Nothing in Lean hashes anything: it is a label: what it is worth is what the hold of that sum in a sandbox is worth. -/
noncomputable def Tryz.pinned : Pinned := { name := "ytocfgejceoenmaagreatdoor", sum := "9fc233c2b475c91252025b85e32098d3c155934d5e0693b97b4b3b212d27d6af", checked := Tryz.checked }
namespace Rows
def none {H : Type} : Left H := { results := [], args := [] }

/- WHAT THE LISTED PACKAGE-LEVEL VARIABLES READ AS WHEN THE CALL BEGINS. Each datum BY PROGRAM (the guide's laid-datum.mjs) off the statement by which the dump's own 'gosem.cut.vars' lays the variable. In a bare row this is a premise. The card (YtocfgejceoenmaaGreatDoorCards.lean) ties it to the program's text. -/
def laid_errors_errorType {H : Type} : DataW H := .iface "internal/reflectlite.rtype" (.agg [.ptr (.lit (.string [101, 114, 114, 111, 114]))])
def laid_loop_example_g00718_impl_errRange {H : Type} : DataW H := .iface "*errors.errorString" (.ptr (.agg [.lit (.string [110, 111, 116, 32, 105, 110, 32, 48, 46, 46, 77, 97, 120, 65, 109, 111, 117, 110, 116])]))

/-- 'laws.FnExactTaskAdd': WHATEVER THE INPUT: true; the input reads as it did. -/
def fnExactTaskAddSpec : ChangeSpec := { name := "fnExactTaskAdd", vars := ["loop.example/g00718/impl.errRange"], fn := fun _ => fun
  | [d1, d2, g1] => { results := [.lit (.bool true)], args := [d1, d2], vars := [g1] }
  | _ => none }
def fnExactTaskAddRow : OpenClaim := { program := "ytocfgejceoenmaagreatdoor", sum := "9fc233c2b475c91252025b85e32098d3c155934d5e0693b97b4b3b212d27d6af", func := "loop.example/g00718/laws.FnExactTaskAdd", spec := "fnExactTaskAdd", inPlace := ["internal/reflectlite.TypeOf", "internal/reflectlite.ValueOf", "(internal/reflectlite.Value).Type", "(internal/reflectlite.Value).IsNil", "(internal/reflectlite.Value).Elem", "(internal/reflectlite.Value).Set"], unfollowed := true, recurses := true, named := ["loop.example/g00718/impl.errRange", "errors.errorType"], ifaces := true, apart := false, laid := [("errors.errorType", laid_errors_errorType), ("loop.example/g00718/impl.errRange", laid_loop_example_g00718_impl_errRange)] }
def FnExactTaskAddSaid : Prop := fnExactTaskAddRow.holds Tryz.pinned (OpenSpec.ofChange fnExactTaskAddSpec)

/-- ITS FALSE NEIGHBOUR: 'it returns false'. Refute it at one input. -/
def fnExactTaskAddWrong : ChangeSpec := { name := "fnExactTaskAdd", vars := ["loop.example/g00718/impl.errRange"], fn := fun _ => fun
  | [d1, d2, g1] => { results := [.lit (.bool false)], args := [d1, d2], vars := [g1] }
  | _ => none }
def FnExactTaskAddWrongFalsely : Prop := fnExactTaskAddRow.holds Tryz.pinned (OpenSpec.ofChange fnExactTaskAddWrong)

/-- 'laws.FnExactTaskDrop': WHATEVER THE INPUT: true; the input reads as it did. -/
def fnExactTaskDropSpec : ChangeSpec := { name := "fnExactTaskDrop", vars := ["loop.example/g00718/impl.errRange"], fn := fun _ => fun
  | [d1, d2, g1] => { results := [.lit (.bool true)], args := [d1, d2], vars := [g1] }
  | _ => none }
def fnExactTaskDropRow : OpenClaim := { program := "ytocfgejceoenmaagreatdoor", sum := "9fc233c2b475c91252025b85e32098d3c155934d5e0693b97b4b3b212d27d6af", func := "loop.example/g00718/laws.FnExactTaskDrop", spec := "fnExactTaskDrop", inPlace := ["internal/reflectlite.TypeOf", "internal/reflectlite.ValueOf", "(internal/reflectlite.Value).Type", "(internal/reflectlite.Value).IsNil", "(internal/reflectlite.Value).Elem", "(internal/reflectlite.Value).Set"], unfollowed := true, recurses := true, named := ["loop.example/g00718/impl.errRange", "errors.errorType"], ifaces := true, apart := false, laid := [("errors.errorType", laid_errors_errorType), ("loop.example/g00718/impl.errRange", laid_loop_example_g00718_impl_errRange)] }
def FnExactTaskDropSaid : Prop := fnExactTaskDropRow.holds Tryz.pinned (OpenSpec.ofChange fnExactTaskDropSpec)

/-- ITS FALSE NEIGHBOUR: 'it returns false'. Refute it at one input. -/
def fnExactTaskDropWrong : ChangeSpec := { name := "fnExactTaskDrop", vars := ["loop.example/g00718/impl.errRange"], fn := fun _ => fun
  | [d1, d2, g1] => { results := [.lit (.bool false)], args := [d1, d2], vars := [g1] }
  | _ => none }
def FnExactTaskDropWrongFalsely : Prop := fnExactTaskDropRow.holds Tryz.pinned (OpenSpec.ofChange fnExactTaskDropWrong)

/-- 'laws.FnExactNodeAdd': WHATEVER THE INPUT: true; the input reads as it did. -/
def fnExactNodeAddSpec : ChangeSpec := { name := "fnExactNodeAdd", vars := ["loop.example/g00718/impl.errRange"], fn := fun _ => fun
  | [d1, d2, g1] => { results := [.lit (.bool true)], args := [d1, d2], vars := [g1] }
  | _ => none }
def fnExactNodeAddRow : OpenClaim := { program := "ytocfgejceoenmaagreatdoor", sum := "9fc233c2b475c91252025b85e32098d3c155934d5e0693b97b4b3b212d27d6af", func := "loop.example/g00718/laws.FnExactNodeAdd", spec := "fnExactNodeAdd", inPlace := ["internal/reflectlite.TypeOf", "slices.overlaps[loop.example/g00718/impl.Node]", "internal/reflectlite.ValueOf", "(internal/reflectlite.Value).Type", "(internal/reflectlite.Value).IsNil", "(internal/reflectlite.Value).Elem", "(internal/reflectlite.Value).Set"], unfollowed := true, recurses := true, named := ["loop.example/g00718/impl.errRange", "errors.errorType"], ifaces := true, apart := false, laid := [("errors.errorType", laid_errors_errorType), ("loop.example/g00718/impl.errRange", laid_loop_example_g00718_impl_errRange)] }
def FnExactNodeAddSaid : Prop := fnExactNodeAddRow.holds Tryz.pinned (OpenSpec.ofChange fnExactNodeAddSpec)

/-- ITS FALSE NEIGHBOUR: 'it returns false'. Refute it at one input. -/
def fnExactNodeAddWrong : ChangeSpec := { name := "fnExactNodeAdd", vars := ["loop.example/g00718/impl.errRange"], fn := fun _ => fun
  | [d1, d2, g1] => { results := [.lit (.bool false)], args := [d1, d2], vars := [g1] }
  | _ => none }
def FnExactNodeAddWrongFalsely : Prop := fnExactNodeAddRow.holds Tryz.pinned (OpenSpec.ofChange fnExactNodeAddWrong)

/-- 'laws.FnExactNodeDrop': WHATEVER THE INPUT: true; the input reads as it did. -/
def fnExactNodeDropSpec : ChangeSpec := { name := "fnExactNodeDrop", vars := ["loop.example/g00718/impl.errRange"], fn := fun _ => fun
  | [d1, d2, g1] => { results := [.lit (.bool true)], args := [d1, d2], vars := [g1] }
  | _ => none }
def fnExactNodeDropRow : OpenClaim := { program := "ytocfgejceoenmaagreatdoor", sum := "9fc233c2b475c91252025b85e32098d3c155934d5e0693b97b4b3b212d27d6af", func := "loop.example/g00718/laws.FnExactNodeDrop", spec := "fnExactNodeDrop", inPlace := ["internal/reflectlite.TypeOf", "internal/reflectlite.ValueOf", "(internal/reflectlite.Value).Type", "(internal/reflectlite.Value).IsNil", "(internal/reflectlite.Value).Elem", "(internal/reflectlite.Value).Set"], unfollowed := true, recurses := true, named := ["loop.example/g00718/impl.errRange", "errors.errorType"], ifaces := true, apart := false, laid := [("errors.errorType", laid_errors_errorType), ("loop.example/g00718/impl.errRange", laid_loop_example_g00718_impl_errRange)] }
def FnExactNodeDropSaid : Prop := fnExactNodeDropRow.holds Tryz.pinned (OpenSpec.ofChange fnExactNodeDropSpec)

/-- ITS FALSE NEIGHBOUR: 'it returns false'. Refute it at one input. -/
def fnExactNodeDropWrong : ChangeSpec := { name := "fnExactNodeDrop", vars := ["loop.example/g00718/impl.errRange"], fn := fun _ => fun
  | [d1, d2, g1] => { results := [.lit (.bool false)], args := [d1, d2], vars := [g1] }
  | _ => none }
def FnExactNodeDropWrongFalsely : Prop := fnExactNodeDropRow.holds Tryz.pinned (OpenSpec.ofChange fnExactNodeDropWrong)

/-- 'laws.FnExactCordon': WHATEVER THE INPUT: true; the input reads as it did. -/
def fnExactCordonSpec : ChangeSpec := { name := "fnExactCordon", vars := ["loop.example/g00718/impl.errRange"], fn := fun _ => fun
  | [d1, d2, d3, g1] => { results := [.lit (.bool true)], args := [d1, d2, d3], vars := [g1] }
  | _ => none }
def fnExactCordonRow : OpenClaim := { program := "ytocfgejceoenmaagreatdoor", sum := "9fc233c2b475c91252025b85e32098d3c155934d5e0693b97b4b3b212d27d6af", func := "loop.example/g00718/laws.FnExactCordon", spec := "fnExactCordon", inPlace := ["internal/reflectlite.TypeOf", "internal/reflectlite.ValueOf", "(internal/reflectlite.Value).Type", "(internal/reflectlite.Value).IsNil", "(internal/reflectlite.Value).Elem", "(internal/reflectlite.Value).Set"], unfollowed := true, recurses := true, named := ["loop.example/g00718/impl.errRange", "errors.errorType"], ifaces := true, apart := false, laid := [("errors.errorType", laid_errors_errorType), ("loop.example/g00718/impl.errRange", laid_loop_example_g00718_impl_errRange)] }
def FnExactCordonSaid : Prop := fnExactCordonRow.holds Tryz.pinned (OpenSpec.ofChange fnExactCordonSpec)

/-- ITS FALSE NEIGHBOUR: 'it returns false'. Refute it at one input. -/
def fnExactCordonWrong : ChangeSpec := { name := "fnExactCordon", vars := ["loop.example/g00718/impl.errRange"], fn := fun _ => fun
  | [d1, d2, d3, g1] => { results := [.lit (.bool false)], args := [d1, d2, d3], vars := [g1] }
  | _ => none }
def FnExactCordonWrongFalsely : Prop := fnExactCordonRow.holds Tryz.pinned (OpenSpec.ofChange fnExactCordonWrong)

/-- 'laws.FnExactBindAdd': WHATEVER THE INPUT: true; the input reads as it did. -/
def fnExactBindAddSpec : ChangeSpec := { name := "fnExactBindAdd", vars := ["loop.example/g00718/impl.errRange"], fn := fun _ => fun
  | [d1, d2, g1] => { results := [.lit (.bool true)], args := [d1, d2], vars := [g1] }
  | _ => none }
def fnExactBindAddRow : OpenClaim := { program := "ytocfgejceoenmaagreatdoor", sum := "9fc233c2b475c91252025b85e32098d3c155934d5e0693b97b4b3b212d27d6af", func := "loop.example/g00718/laws.FnExactBindAdd", spec := "fnExactBindAdd", inPlace := ["internal/reflectlite.TypeOf", "slices.overlaps[loop.example/g00718/impl.Bind]", "internal/reflectlite.ValueOf", "(internal/reflectlite.Value).Type", "(internal/reflectlite.Value).IsNil", "(internal/reflectlite.Value).Elem", "(internal/reflectlite.Value).Set"], unfollowed := true, recurses := true, named := ["loop.example/g00718/impl.errRange", "errors.errorType"], ifaces := true, apart := false, laid := [("errors.errorType", laid_errors_errorType), ("loop.example/g00718/impl.errRange", laid_loop_example_g00718_impl_errRange)] }
def FnExactBindAddSaid : Prop := fnExactBindAddRow.holds Tryz.pinned (OpenSpec.ofChange fnExactBindAddSpec)

/-- ITS FALSE NEIGHBOUR: 'it returns false'. Refute it at one input. -/
def fnExactBindAddWrong : ChangeSpec := { name := "fnExactBindAdd", vars := ["loop.example/g00718/impl.errRange"], fn := fun _ => fun
  | [d1, d2, g1] => { results := [.lit (.bool false)], args := [d1, d2], vars := [g1] }
  | _ => none }
def FnExactBindAddWrongFalsely : Prop := fnExactBindAddRow.holds Tryz.pinned (OpenSpec.ofChange fnExactBindAddWrong)

/-- 'laws.FnExactBindDrop': WHATEVER THE INPUT: true; the input reads as it did. -/
def fnExactBindDropSpec : ChangeSpec := { name := "fnExactBindDrop", vars := ["loop.example/g00718/impl.errRange"], fn := fun _ => fun
  | [d1, d2, g1] => { results := [.lit (.bool true)], args := [d1, d2], vars := [g1] }
  | _ => none }
def fnExactBindDropRow : OpenClaim := { program := "ytocfgejceoenmaagreatdoor", sum := "9fc233c2b475c91252025b85e32098d3c155934d5e0693b97b4b3b212d27d6af", func := "loop.example/g00718/laws.FnExactBindDrop", spec := "fnExactBindDrop", inPlace := ["internal/reflectlite.TypeOf", "internal/reflectlite.ValueOf", "(internal/reflectlite.Value).Type", "(internal/reflectlite.Value).IsNil", "(internal/reflectlite.Value).Elem", "(internal/reflectlite.Value).Set"], unfollowed := true, recurses := true, named := ["loop.example/g00718/impl.errRange", "errors.errorType"], ifaces := true, apart := false, laid := [("errors.errorType", laid_errors_errorType), ("loop.example/g00718/impl.errRange", laid_loop_example_g00718_impl_errRange)] }
def FnExactBindDropSaid : Prop := fnExactBindDropRow.holds Tryz.pinned (OpenSpec.ofChange fnExactBindDropSpec)

/-- ITS FALSE NEIGHBOUR: 'it returns false'. Refute it at one input. -/
def fnExactBindDropWrong : ChangeSpec := { name := "fnExactBindDrop", vars := ["loop.example/g00718/impl.errRange"], fn := fun _ => fun
  | [d1, d2, g1] => { results := [.lit (.bool false)], args := [d1, d2], vars := [g1] }
  | _ => none }
def FnExactBindDropWrongFalsely : Prop := fnExactBindDropRow.holds Tryz.pinned (OpenSpec.ofChange fnExactBindDropWrong)

/-- 'laws.FnExactPoolCount': WHATEVER THE INPUT: true; the input reads as it did. -/
def fnExactPoolCountSpec : ChangeSpec := { name := "fnExactPoolCount", vars := ["loop.example/g00718/impl.errRange"], fn := fun _ => fun
  | [d1, d2, g1] => { results := [.lit (.bool true)], args := [d1, d2], vars := [g1] }
  | _ => none }
def fnExactPoolCountRow : OpenClaim := { program := "ytocfgejceoenmaagreatdoor", sum := "9fc233c2b475c91252025b85e32098d3c155934d5e0693b97b4b3b212d27d6af", func := "loop.example/g00718/laws.FnExactPoolCount", spec := "fnExactPoolCount", inPlace := ["internal/reflectlite.TypeOf"], unfollowed := true, recurses := true, named := ["loop.example/g00718/impl.errRange"], ifaces := true, apart := false, laid := [("loop.example/g00718/impl.errRange", laid_loop_example_g00718_impl_errRange)] }
def FnExactPoolCountSaid : Prop := fnExactPoolCountRow.holds Tryz.pinned (OpenSpec.ofChange fnExactPoolCountSpec)

/-- ITS FALSE NEIGHBOUR: 'it returns false'. Refute it at one input. -/
def fnExactPoolCountWrong : ChangeSpec := { name := "fnExactPoolCount", vars := ["loop.example/g00718/impl.errRange"], fn := fun _ => fun
  | [d1, d2, g1] => { results := [.lit (.bool false)], args := [d1, d2], vars := [g1] }
  | _ => none }
def FnExactPoolCountWrongFalsely : Prop := fnExactPoolCountRow.holds Tryz.pinned (OpenSpec.ofChange fnExactPoolCountWrong)

/- THE SECOND FORM. 'bulk': how many values and letters a reading holds, each counted each time it is reached (what is shared counts as often as it is met; a slice's spare places count too). A statement '..UptoSaid' is the law's where the arguments, and the package variables that the reading takes, are together of bulk at most 1048576: NARROWER than '..Said'. Prove '..Said' where nothing that the law and all that it calls make is longer than what came in: it says more and counts as full. Else prove '..UptoSaid'. A law counts once. -/
mutual
def uptoBulk {H : Type} : DataW H → Nat
  | .lit (.string bytes) => bytes.length + 1
  | .lit _ => 1
  | .nil => 1
  | .ptr d => uptoBulk d + 1
  | .slice elems spare => uptoBulkAll elems + uptoBulkAll spare + 1
  | .agg parts => uptoBulkAll parts + 1
  | .iface _ d => uptoBulk d + 1
  | .map entries => uptoBulkEntries entries + 1
  | .held _ => 1
def uptoBulkAll {H : Type} : List (DataW H) → Nat
  | [] => 0
  | d :: r => uptoBulk d + uptoBulkAll r
def uptoBulkEntries {H : Type} : List (Lit × DataW H) → Nat
  | [] => 0
  | x :: r => uptoBulkEntry x + uptoBulkEntries r
def uptoBulkEntry {H : Type} : Lit × DataW H → Nat
  | (.string bytes, d) => bytes.length + uptoBulk d + 1
  | (_, d) => uptoBulk d + 1
 end
def uptoSmall : (H : Type) → List (DataW H) → Bool := fun _ ds => decide (uptoBulkAll ds ≤ 1048576)
def OpenSpec.upto (s : _root_.Go.ChangeSpec) : _root_.Go.OpenSpec := { _root_.Go.OpenSpec.ofChange s with cond := some uptoSmall }

/-- 'laws.FnExactTaskAdd', WHERE WHAT IT READS IS OF BULK AT MOST 1048576: true; the input reads as it did. -/
def fnExactTaskAddUptoRow : OpenClaim := { program := "ytocfgejceoenmaagreatdoor", sum := "9fc233c2b475c91252025b85e32098d3c155934d5e0693b97b4b3b212d27d6af", func := "loop.example/g00718/laws.FnExactTaskAdd", spec := "fnExactTaskAdd", inPlace := ["internal/reflectlite.TypeOf", "internal/reflectlite.ValueOf", "(internal/reflectlite.Value).Type", "(internal/reflectlite.Value).IsNil", "(internal/reflectlite.Value).Elem", "(internal/reflectlite.Value).Set"], unfollowed := true, recurses := true, named := ["loop.example/g00718/impl.errRange", "errors.errorType"], ifaces := true, apart := false, laid := [("errors.errorType", laid_errors_errorType), ("loop.example/g00718/impl.errRange", laid_loop_example_g00718_impl_errRange)], narrowed := true }
def FnExactTaskAddUptoSaid : Prop := fnExactTaskAddUptoRow.holds Tryz.pinned (OpenSpec.upto fnExactTaskAddSpec)

/-- 'laws.FnExactTaskDrop', WHERE WHAT IT READS IS OF BULK AT MOST 1048576: true; the input reads as it did. -/
def fnExactTaskDropUptoRow : OpenClaim := { program := "ytocfgejceoenmaagreatdoor", sum := "9fc233c2b475c91252025b85e32098d3c155934d5e0693b97b4b3b212d27d6af", func := "loop.example/g00718/laws.FnExactTaskDrop", spec := "fnExactTaskDrop", inPlace := ["internal/reflectlite.TypeOf", "internal/reflectlite.ValueOf", "(internal/reflectlite.Value).Type", "(internal/reflectlite.Value).IsNil", "(internal/reflectlite.Value).Elem", "(internal/reflectlite.Value).Set"], unfollowed := true, recurses := true, named := ["loop.example/g00718/impl.errRange", "errors.errorType"], ifaces := true, apart := false, laid := [("errors.errorType", laid_errors_errorType), ("loop.example/g00718/impl.errRange", laid_loop_example_g00718_impl_errRange)], narrowed := true }
def FnExactTaskDropUptoSaid : Prop := fnExactTaskDropUptoRow.holds Tryz.pinned (OpenSpec.upto fnExactTaskDropSpec)

/-- 'laws.FnExactNodeAdd', WHERE WHAT IT READS IS OF BULK AT MOST 1048576: true; the input reads as it did. -/
def fnExactNodeAddUptoRow : OpenClaim := { program := "ytocfgejceoenmaagreatdoor", sum := "9fc233c2b475c91252025b85e32098d3c155934d5e0693b97b4b3b212d27d6af", func := "loop.example/g00718/laws.FnExactNodeAdd", spec := "fnExactNodeAdd", inPlace := ["internal/reflectlite.TypeOf", "slices.overlaps[loop.example/g00718/impl.Node]", "internal/reflectlite.ValueOf", "(internal/reflectlite.Value).Type", "(internal/reflectlite.Value).IsNil", "(internal/reflectlite.Value).Elem", "(internal/reflectlite.Value).Set"], unfollowed := true, recurses := true, named := ["loop.example/g00718/impl.errRange", "errors.errorType"], ifaces := true, apart := false, laid := [("errors.errorType", laid_errors_errorType), ("loop.example/g00718/impl.errRange", laid_loop_example_g00718_impl_errRange)], narrowed := true }
def FnExactNodeAddUptoSaid : Prop := fnExactNodeAddUptoRow.holds Tryz.pinned (OpenSpec.upto fnExactNodeAddSpec)

/-- 'laws.FnExactNodeDrop', WHERE WHAT IT READS IS OF BULK AT MOST 1048576: true; the input reads as it did. -/
def fnExactNodeDropUptoRow : OpenClaim := { program := "ytocfgejceoenmaagreatdoor", sum := "9fc233c2b475c91252025b85e32098d3c155934d5e0693b97b4b3b212d27d6af", func := "loop.example/g00718/laws.FnExactNodeDrop", spec := "fnExactNodeDrop", inPlace := ["internal/reflectlite.TypeOf", "internal/reflectlite.ValueOf", "(internal/reflectlite.Value).Type", "(internal/reflectlite.Value).IsNil", "(internal/reflectlite.Value).Elem", "(internal/reflectlite.Value).Set"], unfollowed := true, recurses := true, named := ["loop.example/g00718/impl.errRange", "errors.errorType"], ifaces := true, apart := false, laid := [("errors.errorType", laid_errors_errorType), ("loop.example/g00718/impl.errRange", laid_loop_example_g00718_impl_errRange)], narrowed := true }
def FnExactNodeDropUptoSaid : Prop := fnExactNodeDropUptoRow.holds Tryz.pinned (OpenSpec.upto fnExactNodeDropSpec)

/-- 'laws.FnExactCordon', WHERE WHAT IT READS IS OF BULK AT MOST 1048576: true; the input reads as it did. -/
def fnExactCordonUptoRow : OpenClaim := { program := "ytocfgejceoenmaagreatdoor", sum := "9fc233c2b475c91252025b85e32098d3c155934d5e0693b97b4b3b212d27d6af", func := "loop.example/g00718/laws.FnExactCordon", spec := "fnExactCordon", inPlace := ["internal/reflectlite.TypeOf", "internal/reflectlite.ValueOf", "(internal/reflectlite.Value).Type", "(internal/reflectlite.Value).IsNil", "(internal/reflectlite.Value).Elem", "(internal/reflectlite.Value).Set"], unfollowed := true, recurses := true, named := ["loop.example/g00718/impl.errRange", "errors.errorType"], ifaces := true, apart := false, laid := [("errors.errorType", laid_errors_errorType), ("loop.example/g00718/impl.errRange", laid_loop_example_g00718_impl_errRange)], narrowed := true }
def FnExactCordonUptoSaid : Prop := fnExactCordonUptoRow.holds Tryz.pinned (OpenSpec.upto fnExactCordonSpec)

/-- 'laws.FnExactBindAdd', WHERE WHAT IT READS IS OF BULK AT MOST 1048576: true; the input reads as it did. -/
def fnExactBindAddUptoRow : OpenClaim := { program := "ytocfgejceoenmaagreatdoor", sum := "9fc233c2b475c91252025b85e32098d3c155934d5e0693b97b4b3b212d27d6af", func := "loop.example/g00718/laws.FnExactBindAdd", spec := "fnExactBindAdd", inPlace := ["internal/reflectlite.TypeOf", "slices.overlaps[loop.example/g00718/impl.Bind]", "internal/reflectlite.ValueOf", "(internal/reflectlite.Value).Type", "(internal/reflectlite.Value).IsNil", "(internal/reflectlite.Value).Elem", "(internal/reflectlite.Value).Set"], unfollowed := true, recurses := true, named := ["loop.example/g00718/impl.errRange", "errors.errorType"], ifaces := true, apart := false, laid := [("errors.errorType", laid_errors_errorType), ("loop.example/g00718/impl.errRange", laid_loop_example_g00718_impl_errRange)], narrowed := true }
def FnExactBindAddUptoSaid : Prop := fnExactBindAddUptoRow.holds Tryz.pinned (OpenSpec.upto fnExactBindAddSpec)

/-- 'laws.FnExactBindDrop', WHERE WHAT IT READS IS OF BULK AT MOST 1048576: true; the input reads as it did. -/
def fnExactBindDropUptoRow : OpenClaim := { program := "ytocfgejceoenmaagreatdoor", sum := "9fc233c2b475c91252025b85e32098d3c155934d5e0693b97b4b3b212d27d6af", func := "loop.example/g00718/laws.FnExactBindDrop", spec := "fnExactBindDrop", inPlace := ["internal/reflectlite.TypeOf", "internal/reflectlite.ValueOf", "(internal/reflectlite.Value).Type", "(internal/reflectlite.Value).IsNil", "(internal/reflectlite.Value).Elem", "(internal/reflectlite.Value).Set"], unfollowed := true, recurses := true, named := ["loop.example/g00718/impl.errRange", "errors.errorType"], ifaces := true, apart := false, laid := [("errors.errorType", laid_errors_errorType), ("loop.example/g00718/impl.errRange", laid_loop_example_g00718_impl_errRange)], narrowed := true }
def FnExactBindDropUptoSaid : Prop := fnExactBindDropUptoRow.holds Tryz.pinned (OpenSpec.upto fnExactBindDropSpec)

/-- 'laws.FnExactPoolCount', WHERE WHAT IT READS IS OF BULK AT MOST 1048576: true; the input reads as it did. -/
def fnExactPoolCountUptoRow : OpenClaim := { program := "ytocfgejceoenmaagreatdoor", sum := "9fc233c2b475c91252025b85e32098d3c155934d5e0693b97b4b3b212d27d6af", func := "loop.example/g00718/laws.FnExactPoolCount", spec := "fnExactPoolCount", inPlace := ["internal/reflectlite.TypeOf"], unfollowed := true, recurses := true, named := ["loop.example/g00718/impl.errRange"], ifaces := true, apart := false, laid := [("loop.example/g00718/impl.errRange", laid_loop_example_g00718_impl_errRange)], narrowed := true }
def FnExactPoolCountUptoSaid : Prop := fnExactPoolCountUptoRow.holds Tryz.pinned (OpenSpec.upto fnExactPoolCountSpec)

end Rows
end Go.Proofs.YtocfgejceoenmaaGreatDoor
