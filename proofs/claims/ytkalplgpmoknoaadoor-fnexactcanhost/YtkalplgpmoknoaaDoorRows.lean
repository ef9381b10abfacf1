/-
  NARROWER THAN 'FOR EVERY INPUT', by the rows' own cells (each row's printed sentence says how): FnExactTaskOk: ifaces, laid · FnExactNodeOk: ifaces, laid · FnExactCanHost: ifaces, laid.
  DERIVED. THE GIVEN ROWS OF THIS SEAT. 3 by the template 'for every input the law returns true; each argument reads behind the call as it read before'; 0 by the template 'total and deterministic' (their statements: YtkalplgpmoknoaaDoorTotals.lean).
  GIVEN WITH THE SEED: the statements are not yours to turn. If you find one false, say at which input.
  Laid BY PROGRAM, IN A SANDBOX (cutbox-rows.mjs): the forced cells as the released guide's own fill.sh prints them over the translation d1db1e48dd2cebdb… (all of the seat's roots in one cut). By AI agents, Wed Nov 11 2026. No macro, syntax, notation, axiom, sorry.
-/
import Derived.Test.YtkalplgpmoknoaaDoorChecked
import GoSem.Claim
import GoSem.ClaimJoined
import GoSem.ClaimMapViews
import Derived.JoinedTies
import Derived.KernelRfl
namespace Go.Proofs.YtkalplgpmoknoaaDoor
/- THE CELL 'sum', in the pinned program and in every row, IS THE sha256 OF THE DUMP (.gsa) THAT YtkalplgpmoknoaaDoorProg.lean LOADS. Nothing in Lean hashes anything: it is a label: what it is worth is what the hold of that sum in a sandbox is worth. -/
noncomputable def Tryd.pinned : Pinned := { name := "ytkalplgpmoknoaadoor", sum := "d1db1e48dd2cebdb2127a53805d7e2957cb63c2209c796c76e6584f7aa7d16d4", checked := Tryd.checked }
namespace Rows
def none {H : Type} : Left H := { results := [], args := [] }

/- WHAT THE LISTED PACKAGE-LEVEL VARIABLES READ AS WHEN THE CALL BEGINS. Each datum BY PROGRAM (the guide's laid-datum.mjs) off the statement by which the dump's own 'gosem.cut.vars' lays the variable. In a bare row this is a premise. The card (YtkalplgpmoknoaaDoorCards.lean) ties it to the program's text. -/
def laid_loop_example_g00718_impl_errRange {H : Type} : DataW H := .iface "*errors.errorString" (.ptr (.agg [.lit (.string [110, 111, 116, 32, 105, 110, 32, 48, 46, 46, 77, 97, 120, 65, 109, 111, 117, 110, 116])]))

/-- 'laws.FnExactTaskOk': WHATEVER THE INPUT: true; the input reads as it did. -/
def fnExactTaskOkSpec : ChangeSpec := { name := "fnExactTaskOk", vars := ["loop.example/g00718/impl.errRange"], fn := fun _ => fun
  | [d, g1] => { results := [.lit (.bool true)], args := [d], vars := [g1] }
  | _ => none }
def fnExactTaskOkRow : OpenClaim := { program := "ytkalplgpmoknoaadoor", sum := "d1db1e48dd2cebdb2127a53805d7e2957cb63c2209c796c76e6584f7aa7d16d4", func := "loop.example/g00718/laws.FnExactTaskOk", spec := "fnExactTaskOk", inPlace := ["internal/reflectlite.TypeOf"], unfollowed := true, recurses := true, named := ["loop.example/g00718/impl.errRange"], ifaces := true, apart := false, laid := [("loop.example/g00718/impl.errRange", laid_loop_example_g00718_impl_errRange)] }
def FnExactTaskOkSaid : Prop := fnExactTaskOkRow.holds Tryd.pinned (OpenSpec.ofChange fnExactTaskOkSpec)

/-- ITS FALSE NEIGHBOUR: 'it returns false'. Refute it at one input. -/
def fnExactTaskOkWrong : ChangeSpec := { name := "fnExactTaskOk", vars := ["loop.example/g00718/impl.errRange"], fn := fun _ => fun
  | [d, g1] => { results := [.lit (.bool false)], args := [d], vars := [g1] }
  | _ => none }
def FnExactTaskOkWrongFalsely : Prop := fnExactTaskOkRow.holds Tryd.pinned (OpenSpec.ofChange fnExactTaskOkWrong)

/-- 'laws.FnExactNodeOk': WHATEVER THE INPUT: true; the input reads as it did. -/
def fnExactNodeOkSpec : ChangeSpec := { name := "fnExactNodeOk", vars := ["loop.example/g00718/impl.errRange"], fn := fun _ => fun
  | [d, g1] => { results := [.lit (.bool true)], args := [d], vars := [g1] }
  | _ => none }
def fnExactNodeOkRow : OpenClaim := { program := "ytkalplgpmoknoaadoor", sum := "d1db1e48dd2cebdb2127a53805d7e2957cb63c2209c796c76e6584f7aa7d16d4", func := "loop.example/g00718/laws.FnExactNodeOk", spec := "fnExactNodeOk", inPlace := ["internal/reflectlite.TypeOf"], unfollowed := true, recurses := true, named := ["loop.example/g00718/impl.errRange"], ifaces := true, apart := false, laid := [("loop.example/g00718/impl.errRange", laid_loop_example_g00718_impl_errRange)] }
def FnExactNodeOkSaid : Prop := fnExactNodeOkRow.holds Tryd.pinned (OpenSpec.ofChange fnExactNodeOkSpec)

/-- ITS FALSE NEIGHBOUR: 'it returns false'. Refute it at one input. -/
def fnExactNodeOkWrong : ChangeSpec := { name := "fnExactNodeOk", vars := ["loop.example/g00718/impl.errRange"], fn := fun _ => fun
  | [d, g1] => { results := [.lit (.bool false)], args := [d], vars := [g1] }
  | _ => none }
def FnExactNodeOkWrongFalsely : Prop := fnExactNodeOkRow.holds Tryd.pinned (OpenSpec.ofChange fnExactNodeOkWrong)

/-- 'laws.FnExactCanHost': WHATEVER THE INPUT: true; the input reads as it did. -/
def fnExactCanHostSpec : ChangeSpec := { name := "fnExactCanHost", vars := ["loop.example/g00718/impl.errRange"], fn := fun _ => fun
  | [d1, d2, g1] => { results := [.lit (.bool true)], args := [d1, d2], vars := [g1] }
  | _ => none }
def fnExactCanHostRow : OpenClaim := { program := "ytkalplgpmoknoaadoor", sum := "d1db1e48dd2cebdb2127a53805d7e2957cb63c2209c796c76e6584f7aa7d16d4", func := "loop.example/g00718/laws.FnExactCanHost", spec := "fnExactCanHost", inPlace := ["internal/reflectlite.TypeOf"], unfollowed := true, recurses := true, named := ["loop.example/g00718/impl.errRange"], ifaces := true, apart := false, laid := [("loop.example/g00718/impl.errRange", laid_loop_example_g00718_impl_errRange)] }
def FnExactCanHostSaid : Prop := fnExactCanHostRow.holds Tryd.pinned (OpenSpec.ofChange fnExactCanHostSpec)

/-- ITS FALSE NEIGHBOUR: 'it returns false'. Refute it at one input. -/
def fnExactCanHostWrong : ChangeSpec := { name := "fnExactCanHost", vars := ["loop.example/g00718/impl.errRange"], fn := fun _ => fun
  | [d1, d2, g1] => { results := [.lit (.bool false)], args := [d1, d2], vars := [g1] }
  | _ => none }
def FnExactCanHostWrongFalsely : Prop := fnExactCanHostRow.holds Tryd.pinned (OpenSpec.ofChange fnExactCanHostWrong)

/- THE SECOND FORM. 'bulk': how many values and letters a reading holds, each counted each time it is reached (what is shared counts as often as it is met; a slice's spare places count too). A statement '..UptoSaid' is the law's where the arguments, and the package variables that the reading takes, are together of bulk at most 1048576: NARROWER than '..Said'. Prove '..Said' where nothing that the law and all that it calls make is longer than what came in: it says more and counts as full. Else prove '..UptoSaid'. A law counts once. -/
mutual
def uptoBulk {H : Type} : DataW H → Nat
  | .lit (.string bytes) => bytes.length + 1
  | .lit _ => 1
  | .nil => 1
  | .ptr d => uptoBulk d + 1
  | .slice elems spare => uptoBulkAll elems + uptoBulkAll spare + 1
  | .agg parts => uptoBulkAll parts + 1
  | .iface _ d => uptoBulk d + 1
  | .map entries => uptoBulkEntries entries + 1
  | .held _ => 1
def uptoBulkAll {H : Type} : List (DataW H) → Nat
  | [] => 0
  | d :: r => uptoBulk d + uptoBulkAll r
def uptoBulkEntries {H : Type} : List (Lit × DataW H) → Nat
  | [] => 0
  | x :: r => uptoBulkEntry x + uptoBulkEntries r
def uptoBulkEntry {H : Type} : Lit × DataW H → Nat
  | (.string bytes, d) => bytes.length + uptoBulk d + 1
  | (_, d) => uptoBulk d + 1
 end
def uptoSmall : (H : Type) → List (DataW H) → Bool := fun _ ds => decide (uptoBulkAll ds ≤ 1048576)
def OpenSpec.upto (s : _root_.Go.ChangeSpec) : _root_.Go.OpenSpec := { _root_.Go.OpenSpec.ofChange s with cond := some uptoSmall }

/-- 'laws.FnExactTaskOk', WHERE WHAT IT READS IS OF BULK AT MOST 1048576: true; the input reads as it did. -/
def fnExactTaskOkUptoRow : OpenClaim := { program := "ytkalplgpmoknoaadoor", sum := "d1db1e48dd2cebdb2127a53805d7e2957cb63c2209c796c76e6584f7aa7d16d4", func := "loop.example/g00718/laws.FnExactTaskOk", spec := "fnExactTaskOk", inPlace := ["internal/reflectlite.TypeOf"], unfollowed := true, recurses := true, named := ["loop.example/g00718/impl.errRange"], ifaces := true, apart := false, laid := [("loop.example/g00718/impl.errRange", laid_loop_example_g00718_impl_errRange)], narrowed := true }
def FnExactTaskOkUptoSaid : Prop := fnExactTaskOkUptoRow.holds Tryd.pinned (OpenSpec.upto fnExactTaskOkSpec)

/-- 'laws.FnExactNodeOk', WHERE WHAT IT READS IS OF BULK AT MOST 1048576: true; the input reads as it did. -/
def fnExactNodeOkUptoRow : OpenClaim := { program := "ytkalplgpmoknoaadoor", sum := "d1db1e48dd2cebdb2127a53805d7e2957cb63c2209c796c76e6584f7aa7d16d4", func := "loop.example/g00718/laws.FnExactNodeOk", spec := "fnExactNodeOk", inPlace := ["internal/reflectlite.TypeOf"], unfollowed := true, recurses := true, named := ["loop.example/g00718/impl.errRange"], ifaces := true, apart := false, laid := [("loop.example/g00718/impl.errRange", laid_loop_example_g00718_impl_errRange)], narrowed := true }
def FnExactNodeOkUptoSaid : Prop := fnExactNodeOkUptoRow.holds Tryd.pinned (OpenSpec.upto fnExactNodeOkSpec)

/-- 'laws.FnExactCanHost', WHERE WHAT IT READS IS OF BULK AT MOST 1048576: true; the input reads as it did. -/
def fnExactCanHostUptoRow : OpenClaim := { program := "ytkalplgpmoknoaadoor", sum := "d1db1e48dd2cebdb2127a53805d7e2957cb63c2209c796c76e6584f7aa7d16d4", func := "loop.example/g00718/laws.FnExactCanHost", spec := "fnExactCanHost", inPlace := ["internal/reflectlite.TypeOf"], unfollowed := true, recurses := true, named := ["loop.example/g00718/impl.errRange"], ifaces := true, apart := false, laid := [("loop.example/g00718/impl.errRange", laid_loop_example_g00718_impl_errRange)], narrowed := true }
def FnExactCanHostUptoSaid : Prop := fnExactCanHostUptoRow.holds Tryd.pinned (OpenSpec.upto fnExactCanHostSpec)

end Rows
end Go.Proofs.YtkalplgpmoknoaaDoor
