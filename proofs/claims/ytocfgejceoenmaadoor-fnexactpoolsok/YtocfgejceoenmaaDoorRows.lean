/-
  NARROWER THAN 'FOR EVERY INPUT', by the rows' own cells (each row's printed sentence says how): FnExactPoolOk: ifaces, laid · FnExactPoolsOk: ifaces, laid · FnExactPoolNode: ifaces, laid.
  DERIVED. THE GIVEN ROWS OF THIS SEAT. 3 by the template 'for every input the law returns true; each argument reads behind the call as it read before'; 0 by the template 'total and deterministic' (their statements: YtocfgejceoenmaaDoorTotals.lean).
  GIVEN WITH THE SEED: the statements are not yours to turn. If you find one false, say at which input.
  Laid BY PROGRAM, IN A SANDBOX (cutbox-rows.mjs): the forced cells as the released guide's own fill.sh prints them over the translation e5e9ff6b5fc07355… (all of the seat's roots in one cut). By AI agents, Wed Nov 11 2026. No macro, syntax, notation, axiom, sorry.
-/
import Derived.Test.YtocfgejceoenmaaDoorChecked
import GoSem.Claim
import GoSem.ClaimJoined
import GoSem.ClaimMapViews
import Derived.JoinedTies
import Derived.KernelRfl
namespace Go.Proofs.YtocfgejceoenmaaDoor
/- THE CELL 'sum', in the pinned program and in every row, IS THE sha256 OF THE DUMP (.gsa) THAT YtocfgejceoenmaaDoorProg.lean LOADS. Nothing in Lean hashes anything: it is a label: what it is worth is what the hold of that sum in a sandbox is worth. -/
noncomputable def Tryd.pinned : Pinned := { name := "ytocfgejceoenmaadoor", sum := "e5e9ff6b5fc07355d93abdd1a0fde6a1958ca62529b60ecb7864b877dc0ded0b", checked := Tryd.checked }
namespace Rows
def none {H : Type} : Left H := { results := [], args := [] }

/- WHAT THE LISTED PACKAGE-LEVEL VARIABLES READ AS WHEN THE CALL BEGINS. Each datum BY PROGRAM (the guide's laid-datum.mjs) off the statement by which the dump's own 'gosem.cut.vars' lays the variable. In a bare row this is a premise. The card (YtocfgejceoenmaaDoorCards.lean) ties it to the program's text. -/
def laid_loop_example_g00718_impl_errRange {H : Type} : DataW H := .iface "*errors.errorString" (.ptr (.agg [.lit (.string [110, 111, 116, 32, 105, 110, 32, 48, 46, 46, 77, 97, 120, 65, 109, 111, 117, 110, 116])]))

/-- 'laws.FnExactPoolOk': WHATEVER THE INPUT: true; the input reads as it did. -/
def fnExactPoolOkSpec : ChangeSpec := { name := "fnExactPoolOk", vars := ["loop.example/g00718/impl.errRange"], fn := fun _ => fun
  | [d, g1] => { results := [.lit (.bool true)], args := [d], vars := [g1] }
  | _ => none }
def fnExactPoolOkRow : OpenClaim := { program := "ytocfgejceoenmaadoor", sum := "e5e9ff6b5fc07355d93abdd1a0fde6a1958ca62529b60ecb7864b877dc0ded0b", func := "loop.example/g00718/laws.FnExactPoolOk", spec := "fnExactPoolOk", inPlace := ["internal/reflectlite.TypeOf"], unfollowed := true, recurses := true, named := ["loop.example/g00718/impl.errRange"], ifaces := true, apart := false, laid := [("loop.example/g00718/impl.errRange", laid_loop_example_g00718_impl_errRange)] }
def FnExactPoolOkSaid : Prop := fnExactPoolOkRow.holds Tryd.pinned (OpenSpec.ofChange fnExactPoolOkSpec)

/-- ITS FALSE NEIGHBOUR: 'it returns false'. Refute it at one input. -/
def fnExactPoolOkWrong : ChangeSpec := { name := "fnExactPoolOk", vars := ["loop.example/g00718/impl.errRange"], fn := fun _ => fun
  | [d, g1] => { results := [.lit (.bool false)], args := [d], vars := [g1] }
  | _ => none }
def FnExactPoolOkWrongFalsely : Prop := fnExactPoolOkRow.holds Tryd.pinned (OpenSpec.ofChange fnExactPoolOkWrong)

/-- 'laws.FnExactPoolsOk': WHATEVER THE INPUT: true; the input reads as it did. -/
def fnExactPoolsOkSpec : ChangeSpec := { name := "fnExactPoolsOk", vars := ["loop.example/g00718/impl.errRange"], fn := fun _ => fun
  | [d, g1] => { results := [.lit (.bool true)], args := [d], vars := [g1] }
  | _ => none }
def fnExactPoolsOkRow : OpenClaim := { program := "ytocfgejceoenmaadoor", sum := "e5e9ff6b5fc07355d93abdd1a0fde6a1958ca62529b60ecb7864b877dc0ded0b", func := "loop.example/g00718/laws.FnExactPoolsOk", spec := "fnExactPoolsOk", inPlace := ["internal/reflectlite.TypeOf"], unfollowed := true, recurses := true, named := ["loop.example/g00718/impl.errRange"], ifaces := true, apart := false, laid := [("loop.example/g00718/impl.errRange", laid_loop_example_g00718_impl_errRange)] }
def FnExactPoolsOkSaid : Prop := fnExactPoolsOkRow.holds Tryd.pinned (OpenSpec.ofChange fnExactPoolsOkSpec)

/-- ITS FALSE NEIGHBOUR: 'it returns false'. Refute it at one input. -/
def fnExactPoolsOkWrong : ChangeSpec := { name := "fnExactPoolsOk", vars := ["loop.example/g00718/impl.errRange"], fn := fun _ => fun
  | [d, g1] => { results := [.lit (.bool false)], args := [d], vars := [g1] }
  | _ => none }
def FnExactPoolsOkWrongFalsely : Prop := fnExactPoolsOkRow.holds Tryd.pinned (OpenSpec.ofChange fnExactPoolsOkWrong)

/-- 'laws.FnExactPoolNode': WHATEVER THE INPUT: true; the input reads as it did. -/
def fnExactPoolNodeSpec : ChangeSpec := { name := "fnExactPoolNode", vars := ["loop.example/g00718/impl.errRange"], fn := fun _ => fun
  | [d1, d2, g1] => { results := [.lit (.bool true)], args := [d1, d2], vars := [g1] }
  | _ => none }
def fnExactPoolNodeRow : OpenClaim := { program := "ytocfgejceoenmaadoor", sum := "e5e9ff6b5fc07355d93abdd1a0fde6a1958ca62529b60ecb7864b877dc0ded0b", func := "loop.example/g00718/laws.FnExactPoolNode", spec := "fnExactPoolNode", inPlace := ["internal/reflectlite.TypeOf"], unfollowed := true, recurses := true, named := ["loop.example/g00718/impl.errRange"], ifaces := true, apart := false, laid := [("loop.example/g00718/impl.errRange", laid_loop_example_g00718_impl_errRange)] }
def FnExactPoolNodeSaid : Prop := fnExactPoolNodeRow.holds Tryd.pinned (OpenSpec.ofChange fnExactPoolNodeSpec)

/-- ITS FALSE NEIGHBOUR: 'it returns false'. Refute it at one input. -/
def fnExactPoolNodeWrong : ChangeSpec := { name := "fnExactPoolNode", vars := ["loop.example/g00718/impl.errRange"], fn := fun _ => fun
  | [d1, d2, g1] => { results := [.lit (.bool false)], args := [d1, d2], vars := [g1] }
  | _ => none }
def FnExactPoolNodeWrongFalsely : Prop := fnExactPoolNodeRow.holds Tryd.pinned (OpenSpec.ofChange fnExactPoolNodeWrong)

/- THE SECOND FORM. 'bulk': how many values and letters a reading holds, each counted each time it is reached (what is shared counts as often as it is met; a slice's spare places count too). A statement '..UptoSaid' is the law's where the arguments, and the package variables that the reading takes, are together of bulk at most 1048576: NARROWER than '..Said'. Prove '..Said' where nothing that the law and all that it calls make is longer than what came in: it says more and counts as full. Else prove '..UptoSaid'. A law counts once. -/
mutual
def uptoBulk {H : Type} : DataW H → Nat
  | .lit (.string bytes) => bytes.length + 1
  | .lit _ => 1
  | .nil => 1
  | .ptr d => uptoBulk d + 1
  | .slice elems spare => uptoBulkAll elems + uptoBulkAll spare + 1
  | .agg parts => uptoBulkAll parts + 1
  | .iface _ d => uptoBulk d + 1
  | .map entries => uptoBulkEntries entries + 1
  | .held _ => 1
def uptoBulkAll {H : Type} : List (DataW H) → Nat
  | [] => 0
  | d :: r => uptoBulk d + uptoBulkAll r
def uptoBulkEntries {H : Type} : List (Lit × DataW H) → Nat
  | [] => 0
  | x :: r => uptoBulkEntry x + uptoBulkEntries r
def uptoBulkEntry {H : Type} : Lit × DataW H → Nat
  | (.string bytes, d) => bytes.length + uptoBulk d + 1
  | (_, d) => uptoBulk d + 1
 end
def uptoSmall : (H : Type) → List (DataW H) → Bool := fun _ ds => decide (uptoBulkAll ds ≤ 1048576)
def OpenSpec.upto (s : _root_.Go.ChangeSpec) : _root_.Go.OpenSpec := { _root_.Go.OpenSpec.ofChange s with cond := some uptoSmall }

/-- 'laws.FnExactPoolOk', WHERE WHAT IT READS IS OF BULK AT MOST 1048576: true; the input reads as it did. -/
def fnExactPoolOkUptoRow : OpenClaim := { program := "ytocfgejceoenmaadoor", sum := "e5e9ff6b5fc07355d93abdd1a0fde6a1958ca62529b60ecb7864b877dc0ded0b", func := "loop.example/g00718/laws.FnExactPoolOk", spec := "fnExactPoolOk", inPlace := ["internal/reflectlite.TypeOf"], unfollowed := true, recurses := true, named := ["loop.example/g00718/impl.errRange"], ifaces := true, apart := false, laid := [("loop.example/g00718/impl.errRange", laid_loop_example_g00718_impl_errRange)], narrowed := true }
def FnExactPoolOkUptoSaid : Prop := fnExactPoolOkUptoRow.holds Tryd.pinned (OpenSpec.upto fnExactPoolOkSpec)

/-- 'laws.FnExactPoolsOk', WHERE WHAT IT READS IS OF BULK AT MOST 1048576: true; the input reads as it did. -/
def fnExactPoolsOkUptoRow : OpenClaim := { program := "ytocfgejceoenmaadoor", sum := "e5e9ff6b5fc07355d93abdd1a0fde6a1958ca62529b60ecb7864b877dc0ded0b", func := "loop.example/g00718/laws.FnExactPoolsOk", spec := "fnExactPoolsOk", inPlace := ["internal/reflectlite.TypeOf"], unfollowed := true, recurses := true, named := ["loop.example/g00718/impl.errRange"], ifaces := true, apart := false, laid := [("loop.example/g00718/impl.errRange", laid_loop_example_g00718_impl_errRange)], narrowed := true }
def FnExactPoolsOkUptoSaid : Prop := fnExactPoolsOkUptoRow.holds Tryd.pinned (OpenSpec.upto fnExactPoolsOkSpec)

/-- 'laws.FnExactPoolNode', WHERE WHAT IT READS IS OF BULK AT MOST 1048576: true; the input reads as it did. -/
def fnExactPoolNodeUptoRow : OpenClaim := { program := "ytocfgejceoenmaadoor", sum := "e5e9ff6b5fc07355d93abdd1a0fde6a1958ca62529b60ecb7864b877dc0ded0b", func := "loop.example/g00718/laws.FnExactPoolNode", spec := "fnExactPoolNode", inPlace := ["internal/reflectlite.TypeOf"], unfollowed := true, recurses := true, named := ["loop.example/g00718/impl.errRange"], ifaces := true, apart := false, laid := [("loop.example/g00718/impl.errRange", laid_loop_example_g00718_impl_errRange)], narrowed := true }
def FnExactPoolNodeUptoSaid : Prop := fnExactPoolNodeUptoRow.holds Tryd.pinned (OpenSpec.upto fnExactPoolNodeSpec)

end Rows
end Go.Proofs.YtocfgejceoenmaaDoor
