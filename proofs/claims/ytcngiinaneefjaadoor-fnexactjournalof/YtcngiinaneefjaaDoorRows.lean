/-
  NARROWER THAN 'FOR EVERY INPUT', by the rows' own cells (each row's printed sentence says how): FnExactTaskBytes: ifaces, laid · FnExactTaskRead: ifaces, laid · FnExactEventBytes: ifaces, laid · FnExactEventRead: ifaces, laid · FnExactJournalOf: ifaces, laid · FnExactJournalRead: ifaces, laid.
  DERIVED. THE GIVEN ROWS OF THIS SEAT. 6 by the template 'for every input the law returns true; each argument reads behind the call as it read before'; 0 by the template 'total and deterministic' (their statements: YtcngiinaneefjaaDoorTotals.lean).
  GIVEN WITH THE SEED: the statements are not yours to turn. If you find one false, say at which input.
  Laid BY PROGRAM, IN A SANDBOX (cutbox-rows.mjs): the forced cells as the released guide's own fill.sh prints them over the translation 7d240e3932c16dd8… (all of the seat's roots in one cut). By AI agents, Wed Nov 11 2026. No macro, syntax, notation, axiom, sorry.
-/
import Derived.Test.YtcngiinaneefjaaDoorChecked
import GoSem.Claim
import GoSem.ClaimJoined
import GoSem.ClaimMapViews
import Derived.JoinedTies
import Derived.KernelRfl
namespace Go.Proofs.YtcngiinaneefjaaDoor
/- THE CELL 'sum', in the pinned program and in every row, IS THE sha256 OF THE DUMP (.gsa) THAT YtcngiinaneefjaaDoorProg.lean LOADS. Nothing in Lean hashes anything: it is a label: what it is worth is what the hold of that sum in a sandbox is worth. -/
noncomputable def Tryd.pinned : Pinned := { name := "ytcngiinaneefjaadoor", sum := "7d240e3932c16dd8c77662d38d4f99a3069455a4b542c10c25f81baa46108764", checked := Tryd.checked }
namespace Rows
def none {H : Type} : Left H := { results := [], args := [] }

/- WHAT THE LISTED PACKAGE-LEVEL VARIABLES READ AS WHEN THE CALL BEGINS. Each datum BY PROGRAM (the guide's laid-datum.mjs) off the statement by which the dump's own 'gosem.cut.vars' lays the variable. In a bare row this is a premise. The card (YtcngiinaneefjaaDoorCards.lean) ties it to the program's text. -/
def laid_loop_example_g00718_impl_errRange {H : Type} : DataW H := .iface "*errors.errorString" (.ptr (.agg [.lit (.string [110, 111, 116, 32, 105, 110, 32, 48, 46, 46, 77, 97, 120, 65, 109, 111, 117, 110, 116])]))
def laid_loop_example_g00718_impl_errEnds {H : Type} : DataW H := .iface "*errors.errorString" (.ptr (.agg [.lit (.string [110, 111, 116, 32, 119, 105, 116, 104, 105, 110, 32, 116, 104, 101, 32, 100, 97, 116, 97])]))
def laid_loop_example_g00718_impl_errNum {H : Type} : DataW H := .iface "*errors.errorString" (.ptr (.agg [.lit (.string [110, 111, 116, 32, 97, 110, 32, 105, 110, 116, 101, 103, 101, 114, 32, 105, 110, 32, 116, 104, 101, 32, 115, 109, 97, 108, 108, 101, 115, 116, 32, 110, 117, 109, 98, 101, 114, 32, 111, 102, 32, 98, 121, 116, 101, 115])]))
def laid_loop_example_g00718_impl_errValue {H : Type} : DataW H := .iface "*errors.errorString" (.ptr (.agg [.lit (.string [110, 111, 116, 32, 97, 32, 118, 97, 108, 105, 100, 32, 118, 97, 108, 117, 101])]))

/-- 'laws.FnExactTaskBytes': WHATEVER THE INPUT: true; the input reads as it did. -/
def fnExactTaskBytesSpec : ChangeSpec := { name := "fnExactTaskBytes", vars := ["loop.example/g00718/impl.errRange"], fn := fun _ => fun
  | [d, g1] => { results := [.lit (.bool true)], args := [d], vars := [g1] }
  | _ => none }
def fnExactTaskBytesRow : OpenClaim := { program := "ytcngiinaneefjaadoor", sum := "7d240e3932c16dd8c77662d38d4f99a3069455a4b542c10c25f81baa46108764", func := "loop.example/g00718/laws.FnExactTaskBytes", spec := "fnExactTaskBytes", inPlace := ["internal/reflectlite.TypeOf"], unfollowed := true, recurses := true, named := ["loop.example/g00718/impl.errRange"], ifaces := true, apart := false, laid := [("loop.example/g00718/impl.errRange", laid_loop_example_g00718_impl_errRange)] }
def FnExactTaskBytesSaid : Prop := fnExactTaskBytesRow.holds Tryd.pinned (OpenSpec.ofChange fnExactTaskBytesSpec)

/-- ITS FALSE NEIGHBOUR: 'it returns false'. Refute it at one input. -/
def fnExactTaskBytesWrong : ChangeSpec := { name := "fnExactTaskBytes", vars := ["loop.example/g00718/impl.errRange"], fn := fun _ => fun
  | [d, g1] => { results := [.lit (.bool false)], args := [d], vars := [g1] }
  | _ => none }
def FnExactTaskBytesWrongFalsely : Prop := fnExactTaskBytesRow.holds Tryd.pinned (OpenSpec.ofChange fnExactTaskBytesWrong)

/-- 'laws.FnExactTaskRead': WHATEVER THE INPUT: true; the input reads as it did. -/
def fnExactTaskReadSpec : ChangeSpec := { name := "fnExactTaskRead", vars := ["loop.example/g00718/impl.errValue", "loop.example/g00718/impl.errNum", "loop.example/g00718/impl.errEnds", "loop.example/g00718/impl.errRange"], fn := fun _ => fun
  | [d1, d2, g1, g2, g3, g4] => { results := [.lit (.bool true)], args := [d1, d2], vars := [g1, g2, g3, g4] }
  | _ => none }
def fnExactTaskReadRow : OpenClaim := { program := "ytcngiinaneefjaadoor", sum := "7d240e3932c16dd8c77662d38d4f99a3069455a4b542c10c25f81baa46108764", func := "loop.example/g00718/laws.FnExactTaskRead", spec := "fnExactTaskRead", inPlace := ["internal/reflectlite.TypeOf"], unfollowed := true, recurses := true, named := ["loop.example/g00718/impl.errValue", "loop.example/g00718/impl.errNum", "loop.example/g00718/impl.errEnds", "loop.example/g00718/impl.errRange"], ifaces := true, apart := false, laid := [("loop.example/g00718/impl.errRange", laid_loop_example_g00718_impl_errRange), ("loop.example/g00718/impl.errEnds", laid_loop_example_g00718_impl_errEnds), ("loop.example/g00718/impl.errNum", laid_loop_example_g00718_impl_errNum), ("loop.example/g00718/impl.errValue", laid_loop_example_g00718_impl_errValue)] }
def FnExactTaskReadSaid : Prop := fnExactTaskReadRow.holds Tryd.pinned (OpenSpec.ofChange fnExactTaskReadSpec)

/-- ITS FALSE NEIGHBOUR: 'it returns false'. Refute it at one input. -/
def fnExactTaskReadWrong : ChangeSpec := { name := "fnExactTaskRead", vars := ["loop.example/g00718/impl.errValue", "loop.example/g00718/impl.errNum", "loop.example/g00718/impl.errEnds", "loop.example/g00718/impl.errRange"], fn := fun _ => fun
  | [d1, d2, g1, g2, g3, g4] => { results := [.lit (.bool false)], args := [d1, d2], vars := [g1, g2, g3, g4] }
  | _ => none }
def FnExactTaskReadWrongFalsely : Prop := fnExactTaskReadRow.holds Tryd.pinned (OpenSpec.ofChange fnExactTaskReadWrong)

/-- 'laws.FnExactEventBytes': WHATEVER THE INPUT: true; the input reads as it did. -/
def fnExactEventBytesSpec : ChangeSpec := { name := "fnExactEventBytes", vars := ["loop.example/g00718/impl.errRange"], fn := fun _ => fun
  | [d, g1] => { results := [.lit (.bool true)], args := [d], vars := [g1] }
  | _ => none }
def fnExactEventBytesRow : OpenClaim := { program := "ytcngiinaneefjaadoor", sum := "7d240e3932c16dd8c77662d38d4f99a3069455a4b542c10c25f81baa46108764", func := "loop.example/g00718/laws.FnExactEventBytes", spec := "fnExactEventBytes", inPlace := ["internal/reflectlite.TypeOf"], unfollowed := true, recurses := true, named := ["loop.example/g00718/impl.errRange"], ifaces := true, apart := false, laid := [("loop.example/g00718/impl.errRange", laid_loop_example_g00718_impl_errRange)] }
def FnExactEventBytesSaid : Prop := fnExactEventBytesRow.holds Tryd.pinned (OpenSpec.ofChange fnExactEventBytesSpec)

/-- ITS FALSE NEIGHBOUR: 'it returns false'. Refute it at one input. -/
def fnExactEventBytesWrong : ChangeSpec := { name := "fnExactEventBytes", vars := ["loop.example/g00718/impl.errRange"], fn := fun _ => fun
  | [d, g1] => { results := [.lit (.bool false)], args := [d], vars := [g1] }
  | _ => none }
def FnExactEventBytesWrongFalsely : Prop := fnExactEventBytesRow.holds Tryd.pinned (OpenSpec.ofChange fnExactEventBytesWrong)

/-- 'laws.FnExactEventRead': WHATEVER THE INPUT: true; the input reads as it did. -/
def fnExactEventReadSpec : ChangeSpec := { name := "fnExactEventRead", vars := ["loop.example/g00718/impl.errValue", "loop.example/g00718/impl.errEnds", "loop.example/g00718/impl.errNum", "loop.example/g00718/impl.errRange"], fn := fun _ => fun
  | [d, g1, g2, g3, g4] => { results := [.lit (.bool true)], args := [d], vars := [g1, g2, g3, g4] }
  | _ => none }
def fnExactEventReadRow : OpenClaim := { program := "ytcngiinaneefjaadoor", sum := "7d240e3932c16dd8c77662d38d4f99a3069455a4b542c10c25f81baa46108764", func := "loop.example/g00718/laws.FnExactEventRead", spec := "fnExactEventRead", inPlace := ["internal/reflectlite.TypeOf"], unfollowed := true, recurses := true, named := ["loop.example/g00718/impl.errValue", "loop.example/g00718/impl.errEnds", "loop.example/g00718/impl.errNum", "loop.example/g00718/impl.errRange"], ifaces := true, apart := false, laid := [("loop.example/g00718/impl.errRange", laid_loop_example_g00718_impl_errRange), ("loop.example/g00718/impl.errEnds", laid_loop_example_g00718_impl_errEnds), ("loop.example/g00718/impl.errNum", laid_loop_example_g00718_impl_errNum), ("loop.example/g00718/impl.errValue", laid_loop_example_g00718_impl_errValue)] }
def FnExactEventReadSaid : Prop := fnExactEventReadRow.holds Tryd.pinned (OpenSpec.ofChange fnExactEventReadSpec)

/-- ITS FALSE NEIGHBOUR: 'it returns false'. Refute it at one input. -/
def fnExactEventReadWrong : ChangeSpec := { name := "fnExactEventRead", vars := ["loop.example/g00718/impl.errValue", "loop.example/g00718/impl.errEnds", "loop.example/g00718/impl.errNum", "loop.example/g00718/impl.errRange"], fn := fun _ => fun
  | [d, g1, g2, g3, g4] => { results := [.lit (.bool false)], args := [d], vars := [g1, g2, g3, g4] }
  | _ => none }
def FnExactEventReadWrongFalsely : Prop := fnExactEventReadRow.holds Tryd.pinned (OpenSpec.ofChange fnExactEventReadWrong)

/-- 'laws.FnExactJournalOf': WHATEVER THE INPUT: true; the input reads as it did. -/
def fnExactJournalOfSpec : ChangeSpec := { name := "fnExactJournalOf", vars := ["loop.example/g00718/impl.errRange"], fn := fun _ => fun
  | [d, g1] => { results := [.lit (.bool true)], args := [d], vars := [g1] }
  | _ => none }
def fnExactJournalOfRow : OpenClaim := { program := "ytcngiinaneefjaadoor", sum := "7d240e3932c16dd8c77662d38d4f99a3069455a4b542c10c25f81baa46108764", func := "loop.example/g00718/laws.FnExactJournalOf", spec := "fnExactJournalOf", inPlace := ["internal/reflectlite.TypeOf"], unfollowed := true, recurses := true, named := ["loop.example/g00718/impl.errRange"], ifaces := true, apart := false, laid := [("loop.example/g00718/impl.errRange", laid_loop_example_g00718_impl_errRange)] }
def FnExactJournalOfSaid : Prop := fnExactJournalOfRow.holds Tryd.pinned (OpenSpec.ofChange fnExactJournalOfSpec)

/-- ITS FALSE NEIGHBOUR: 'it returns false'. Refute it at one input. -/
def fnExactJournalOfWrong : ChangeSpec := { name := "fnExactJournalOf", vars := ["loop.example/g00718/impl.errRange"], fn := fun _ => fun
  | [d, g1] => { results := [.lit (.bool false)], args := [d], vars := [g1] }
  | _ => none }
def FnExactJournalOfWrongFalsely : Prop := fnExactJournalOfRow.holds Tryd.pinned (OpenSpec.ofChange fnExactJournalOfWrong)

/-- 'laws.FnExactJournalRead': WHATEVER THE INPUT: true; the input reads as it did. -/
def fnExactJournalReadSpec : ChangeSpec := { name := "fnExactJournalRead", vars := ["loop.example/g00718/impl.errValue", "loop.example/g00718/impl.errEnds", "loop.example/g00718/impl.errNum", "loop.example/g00718/impl.errRange"], fn := fun _ => fun
  | [d, g1, g2, g3, g4] => { results := [.lit (.bool true)], args := [d], vars := [g1, g2, g3, g4] }
  | _ => none }
def fnExactJournalReadRow : OpenClaim := { program := "ytcngiinaneefjaadoor", sum := "7d240e3932c16dd8c77662d38d4f99a3069455a4b542c10c25f81baa46108764", func := "loop.example/g00718/laws.FnExactJournalRead", spec := "fnExactJournalRead", inPlace := ["internal/reflectlite.TypeOf"], unfollowed := true, recurses := true, named := ["loop.example/g00718/impl.errValue", "loop.example/g00718/impl.errEnds", "loop.example/g00718/impl.errNum", "loop.example/g00718/impl.errRange"], ifaces := true, apart := false, laid := [("loop.example/g00718/impl.errRange", laid_loop_example_g00718_impl_errRange), ("loop.example/g00718/impl.errEnds", laid_loop_example_g00718_impl_errEnds), ("loop.example/g00718/impl.errNum", laid_loop_example_g00718_impl_errNum), ("loop.example/g00718/impl.errValue", laid_loop_example_g00718_impl_errValue)] }
def FnExactJournalReadSaid : Prop := fnExactJournalReadRow.holds Tryd.pinned (OpenSpec.ofChange fnExactJournalReadSpec)

/-- ITS FALSE NEIGHBOUR: 'it returns false'. Refute it at one input. -/
def fnExactJournalReadWrong : ChangeSpec := { name := "fnExactJournalRead", vars := ["loop.example/g00718/impl.errValue", "loop.example/g00718/impl.errEnds", "loop.example/g00718/impl.errNum", "loop.example/g00718/impl.errRange"], fn := fun _ => fun
  | [d, g1, g2, g3, g4] => { results := [.lit (.bool false)], args := [d], vars := [g1, g2, g3, g4] }
  | _ => none }
def FnExactJournalReadWrongFalsely : Prop := fnExactJournalReadRow.holds Tryd.pinned (OpenSpec.ofChange fnExactJournalReadWrong)

/- THE SECOND FORM. 'bulk': how many values and letters a reading holds, each counted each time it is reached (what is shared counts as often as it is met; a slice's spare places count too). A statement '..UptoSaid' is the law's where the arguments, and the package variables that the reading takes, are together of bulk at most 1048576: NARROWER than '..Said'. Prove '..Said' where nothing that the law and all that it calls make is longer than what came in: it says more and counts as full. Else prove '..UptoSaid'. A law counts once. -/
mutual
def uptoBulk {H : Type} : DataW H → Nat
  | .lit (.string bytes) => bytes.length + 1
  | .lit _ => 1
  | .nil => 1
  | .ptr d => uptoBulk d + 1
  | .slice elems spare => uptoBulkAll elems + uptoBulkAll spare + 1
  | .agg parts => uptoBulkAll parts + 1
  | .iface _ d => uptoBulk d + 1
  | .map entries => uptoBulkEntries entries + 1
  | .held _ => 1
def uptoBulkAll {H : Type} : List (DataW H) → Nat
  | [] => 0
  | d :: r => uptoBulk d + uptoBulkAll r
def uptoBulkEntries {H : Type} : List (Lit × DataW H) → Nat
  | [] => 0
  | x :: r => uptoBulkEntry x + uptoBulkEntries r
def uptoBulkEntry {H : Type} : Lit × DataW H → Nat
  | (.string bytes, d) => bytes.length + uptoBulk d + 1
  | (_, d) => uptoBulk d + 1
 end
def uptoSmall : (H : Type) → List (DataW H) → Bool := fun _ ds => decide (uptoBulkAll ds ≤ 1048576)
def OpenSpec.upto (s : _root_.Go.ChangeSpec) : _root_.Go.OpenSpec := { _root_.Go.OpenSpec.ofChange s with cond := some uptoSmall }

/-- 'laws.FnExactTaskBytes', WHERE WHAT IT READS IS OF BULK AT MOST 1048576: true; the input reads as it did. -/
def fnExactTaskBytesUptoRow : OpenClaim := { program := "ytcngiinaneefjaadoor", sum := "7d240e3932c16dd8c77662d38d4f99a3069455a4b542c10c25f81baa46108764", func := "loop.example/g00718/laws.FnExactTaskBytes", spec := "fnExactTaskBytes", inPlace := ["internal/reflectlite.TypeOf"], unfollowed := true, recurses := true, named := ["loop.example/g00718/impl.errRange"], ifaces := true, apart := false, laid := [("loop.example/g00718/impl.errRange", laid_loop_example_g00718_impl_errRange)], narrowed := true }
def FnExactTaskBytesUptoSaid : Prop := fnExactTaskBytesUptoRow.holds Tryd.pinned (OpenSpec.upto fnExactTaskBytesSpec)

/-- 'laws.FnExactTaskRead', WHERE WHAT IT READS IS OF BULK AT MOST 1048576: true; the input reads as it did. -/
def fnExactTaskReadUptoRow : OpenClaim := { program := "ytcngiinaneefjaadoor", sum := "7d240e3932c16dd8c77662d38d4f99a3069455a4b542c10c25f81baa46108764", func := "loop.example/g00718/laws.FnExactTaskRead", spec := "fnExactTaskRead", inPlace := ["internal/reflectlite.TypeOf"], unfollowed := true, recurses := true, named := ["loop.example/g00718/impl.errValue", "loop.example/g00718/impl.errNum", "loop.example/g00718/impl.errEnds", "loop.example/g00718/impl.errRange"], ifaces := true, apart := false, laid := [("loop.example/g00718/impl.errRange", laid_loop_example_g00718_impl_errRange), ("loop.example/g00718/impl.errEnds", laid_loop_example_g00718_impl_errEnds), ("loop.example/g00718/impl.errNum", laid_loop_example_g00718_impl_errNum), ("loop.example/g00718/impl.errValue", laid_loop_example_g00718_impl_errValue)], narrowed := true }
def FnExactTaskReadUptoSaid : Prop := fnExactTaskReadUptoRow.holds Tryd.pinned (OpenSpec.upto fnExactTaskReadSpec)

/-- 'laws.FnExactEventBytes', WHERE WHAT IT READS IS OF BULK AT MOST 1048576: true; the input reads as it did. -/
def fnExactEventBytesUptoRow : OpenClaim := { program := "ytcngiinaneefjaadoor", sum := "7d240e3932c16dd8c77662d38d4f99a3069455a4b542c10c25f81baa46108764", func := "loop.example/g00718/laws.FnExactEventBytes", spec := "fnExactEventBytes", inPlace := ["internal/reflectlite.TypeOf"], unfollowed := true, recurses := true, named := ["loop.example/g00718/impl.errRange"], ifaces := true, apart := false, laid := [("loop.example/g00718/impl.errRange", laid_loop_example_g00718_impl_errRange)], narrowed := true }
def FnExactEventBytesUptoSaid : Prop := fnExactEventBytesUptoRow.holds Tryd.pinned (OpenSpec.upto fnExactEventBytesSpec)

/-- 'laws.FnExactEventRead', WHERE WHAT IT READS IS OF BULK AT MOST 1048576: true; the input reads as it did. -/
def fnExactEventReadUptoRow : OpenClaim := { program := "ytcngiinaneefjaadoor", sum := "7d240e3932c16dd8c77662d38d4f99a3069455a4b542c10c25f81baa46108764", func := "loop.example/g00718/laws.FnExactEventRead", spec := "fnExactEventRead", inPlace := ["internal/reflectlite.TypeOf"], unfollowed := true, recurses := true, named := ["loop.example/g00718/impl.errValue", "loop.example/g00718/impl.errEnds", "loop.example/g00718/impl.errNum", "loop.example/g00718/impl.errRange"], ifaces := true, apart := false, laid := [("loop.example/g00718/impl.errRange", laid_loop_example_g00718_impl_errRange), ("loop.example/g00718/impl.errEnds", laid_loop_example_g00718_impl_errEnds), ("loop.example/g00718/impl.errNum", laid_loop_example_g00718_impl_errNum), ("loop.example/g00718/impl.errValue", laid_loop_example_g00718_impl_errValue)], narrowed := true }
def FnExactEventReadUptoSaid : Prop := fnExactEventReadUptoRow.holds Tryd.pinned (OpenSpec.upto fnExactEventReadSpec)

/-- 'laws.FnExactJournalOf', WHERE WHAT IT READS IS OF BULK AT MOST 1048576: true; the input reads as it did. -/
def fnExactJournalOfUptoRow : OpenClaim := { program := "ytcngiinaneefjaadoor", sum := "7d240e3932c16dd8c77662d38d4f99a3069455a4b542c10c25f81baa46108764", func := "loop.example/g00718/laws.FnExactJournalOf", spec := "fnExactJournalOf", inPlace := ["internal/reflectlite.TypeOf"], unfollowed := true, recurses := true, named := ["loop.example/g00718/impl.errRange"], ifaces := true, apart := false, laid := [("loop.example/g00718/impl.errRange", laid_loop_example_g00718_impl_errRange)], narrowed := true }
def FnExactJournalOfUptoSaid : Prop := fnExactJournalOfUptoRow.holds Tryd.pinned (OpenSpec.upto fnExactJournalOfSpec)

/-- 'laws.FnExactJournalRead', WHERE WHAT IT READS IS OF BULK AT MOST 1048576: true; the input reads as it did. -/
def fnExactJournalReadUptoRow : OpenClaim := { program := "ytcngiinaneefjaadoor", sum := "7d240e3932c16dd8c77662d38d4f99a3069455a4b542c10c25f81baa46108764", func := "loop.example/g00718/laws.FnExactJournalRead", spec := "fnExactJournalRead", inPlace := ["internal/reflectlite.TypeOf"], unfollowed := true, recurses := true, named := ["loop.example/g00718/impl.errValue", "loop.example/g00718/impl.errEnds", "loop.example/g00718/impl.errNum", "loop.example/g00718/impl.errRange"], ifaces := true, apart := false, laid := [("loop.example/g00718/impl.errRange", laid_loop_example_g00718_impl_errRange), ("loop.example/g00718/impl.errEnds", laid_loop_example_g00718_impl_errEnds), ("loop.example/g00718/impl.errNum", laid_loop_example_g00718_impl_errNum), ("loop.example/g00718/impl.errValue", laid_loop_example_g00718_impl_errValue)], narrowed := true }
def FnExactJournalReadUptoSaid : Prop := fnExactJournalReadUptoRow.holds Tryd.pinned (OpenSpec.upto fnExactJournalReadSpec)

end Rows
end Go.Proofs.YtcngiinaneefjaaDoor
