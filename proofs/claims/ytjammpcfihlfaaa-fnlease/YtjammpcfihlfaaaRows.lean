/-
  No cell of these rows narrows 'for every input' (looked for: loops, veiled, ifaces, maps, wideKeys, modest, calm, conditions, laid).
  DERIVED. THE GIVEN ROWS OF THIS SEAT. 9 by the template 'for every input the law returns true; each argument reads behind the call as it read before'; 0 by the template 'total and deterministic' (their statements: YtjammpcfihlfaaaTotals.lean).
  GIVEN WITH THE SEED: the statements are not yours to turn. If you find one false, say at which input.
  Laid BY PROGRAM, IN A SANDBOX (cutbox-rows.mjs): the forced cells as the released guide's own fill.sh prints them over the translation 7f86456755ae5515… (all of the seat's roots in one cut). By AI agents, Wed Nov 11 2026. No macro, syntax, notation, axiom, sorry.
-/
import Derived.Test.YtjammpcfihlfaaaChecked
import GoSem.Claim
import GoSem.ClaimJoined
import GoSem.ClaimMapViews
import Derived.JoinedTies
import Derived.KernelRfl
namespace Go.Proofs.Ytjammpcfihlfaaa
/- THE CELL 'sum', in the pinned program and in every row, IS THE sha256 OF THE DUMP (.gsa) THAT YtjammpcfihlfaaaProg.lean LOADS. Nothing in Lean hashes anything: it is a label: what it is worth is what the hold of that sum in a sandbox is worth. -/
noncomputable def Try.pinned : Pinned := { name := "ytjammpcfihlfaaa", sum := "7f86456755ae551588608d718a86a66a491794760fd21f307b7b8cb3491a3a30", checked := Try.checked }
namespace Rows
def none {H : Type} : Left H := { results := [], args := [] }

/-- 'laws.FnLease': WHATEVER THE INPUT: true; the input reads as it did. -/
def fnLeaseSpec : ChangeSpec := { name := "fnLease", fn := fun _ => fun
  | [d] => { results := [.lit (.bool true)], args := [d] }
  | _ => none }
def fnLeaseRow : OpenClaim := { program := "ytjammpcfihlfaaa", sum := "7f86456755ae551588608d718a86a66a491794760fd21f307b7b8cb3491a3a30", func := "loop.example/g00718/laws.FnLease", spec := "fnLease", apart := false }
def FnLeaseSaid : Prop := fnLeaseRow.holds Try.pinned (OpenSpec.ofChange fnLeaseSpec)

/-- ITS FALSE NEIGHBOUR: 'it returns false'. Refute it at one input. -/
def fnLeaseWrong : ChangeSpec := { name := "fnLease", fn := fun _ => fun
  | [d] => { results := [.lit (.bool false)], args := [d] }
  | _ => none }
def FnLeaseWrongFalsely : Prop := fnLeaseRow.holds Try.pinned (OpenSpec.ofChange fnLeaseWrong)

/-- 'laws.FnStore': WHATEVER THE INPUT: true; the input reads as it did. -/
def fnStoreSpec : ChangeSpec := { name := "fnStore", fn := fun _ => fun
  | [d] => { results := [.lit (.bool true)], args := [d] }
  | _ => none }
def fnStoreRow : OpenClaim := { program := "ytjammpcfihlfaaa", sum := "7f86456755ae551588608d718a86a66a491794760fd21f307b7b8cb3491a3a30", func := "loop.example/g00718/laws.FnStore", spec := "fnStore", unfollowed := true, recurses := true, apart := false }
def FnStoreSaid : Prop := fnStoreRow.holds Try.pinned (OpenSpec.ofChange fnStoreSpec)

/-- ITS FALSE NEIGHBOUR: 'it returns false'. Refute it at one input. -/
def fnStoreWrong : ChangeSpec := { name := "fnStore", fn := fun _ => fun
  | [d] => { results := [.lit (.bool false)], args := [d] }
  | _ => none }
def FnStoreWrongFalsely : Prop := fnStoreRow.holds Try.pinned (OpenSpec.ofChange fnStoreWrong)

/-- 'laws.FnExactLeaseOk': WHATEVER THE INPUT: true; the input reads as it did. -/
def fnExactLeaseOkSpec : ChangeSpec := { name := "fnExactLeaseOk", fn := fun _ => fun
  | [d] => { results := [.lit (.bool true)], args := [d] }
  | _ => none }
def fnExactLeaseOkRow : OpenClaim := { program := "ytjammpcfihlfaaa", sum := "7f86456755ae551588608d718a86a66a491794760fd21f307b7b8cb3491a3a30", func := "loop.example/g00718/laws.FnExactLeaseOk", spec := "fnExactLeaseOk", apart := false }
def FnExactLeaseOkSaid : Prop := fnExactLeaseOkRow.holds Try.pinned (OpenSpec.ofChange fnExactLeaseOkSpec)

/-- ITS FALSE NEIGHBOUR: 'it returns false'. Refute it at one input. -/
def fnExactLeaseOkWrong : ChangeSpec := { name := "fnExactLeaseOk", fn := fun _ => fun
  | [d] => { results := [.lit (.bool false)], args := [d] }
  | _ => none }
def FnExactLeaseOkWrongFalsely : Prop := fnExactLeaseOkRow.holds Try.pinned (OpenSpec.ofChange fnExactLeaseOkWrong)

/-- 'laws.FnExactLeaseTry': WHATEVER THE INPUT: true; the input reads as it did. -/
def fnExactLeaseTrySpec : ChangeSpec := { name := "fnExactLeaseTry", fn := fun _ => fun
  | [d1, d2, d3, d4] => { results := [.lit (.bool true)], args := [d1, d2, d3, d4] }
  | _ => none }
def fnExactLeaseTryRow : OpenClaim := { program := "ytjammpcfihlfaaa", sum := "7f86456755ae551588608d718a86a66a491794760fd21f307b7b8cb3491a3a30", func := "loop.example/g00718/laws.FnExactLeaseTry", spec := "fnExactLeaseTry", apart := false }
def FnExactLeaseTrySaid : Prop := fnExactLeaseTryRow.holds Try.pinned (OpenSpec.ofChange fnExactLeaseTrySpec)

/-- ITS FALSE NEIGHBOUR: 'it returns false'. Refute it at one input. -/
def fnExactLeaseTryWrong : ChangeSpec := { name := "fnExactLeaseTry", fn := fun _ => fun
  | [d1, d2, d3, d4] => { results := [.lit (.bool false)], args := [d1, d2, d3, d4] }
  | _ => none }
def FnExactLeaseTryWrongFalsely : Prop := fnExactLeaseTryRow.holds Try.pinned (OpenSpec.ofChange fnExactLeaseTryWrong)

/-- 'laws.FnExactLeaseHolds': WHATEVER THE INPUT: true; the input reads as it did. -/
def fnExactLeaseHoldsSpec : ChangeSpec := { name := "fnExactLeaseHolds", fn := fun _ => fun
  | [d1, d2, d3, d4] => { results := [.lit (.bool true)], args := [d1, d2, d3, d4] }
  | _ => none }
def fnExactLeaseHoldsRow : OpenClaim := { program := "ytjammpcfihlfaaa", sum := "7f86456755ae551588608d718a86a66a491794760fd21f307b7b8cb3491a3a30", func := "loop.example/g00718/laws.FnExactLeaseHolds", spec := "fnExactLeaseHolds", apart := false }
def FnExactLeaseHoldsSaid : Prop := fnExactLeaseHoldsRow.holds Try.pinned (OpenSpec.ofChange fnExactLeaseHoldsSpec)

/-- ITS FALSE NEIGHBOUR: 'it returns false'. Refute it at one input. -/
def fnExactLeaseHoldsWrong : ChangeSpec := { name := "fnExactLeaseHolds", fn := fun _ => fun
  | [d1, d2, d3, d4] => { results := [.lit (.bool false)], args := [d1, d2, d3, d4] }
  | _ => none }
def FnExactLeaseHoldsWrongFalsely : Prop := fnExactLeaseHoldsRow.holds Try.pinned (OpenSpec.ofChange fnExactLeaseHoldsWrong)

/-- 'laws.FnExactStoreOk': WHATEVER THE INPUT: true; the input reads as it did. -/
def fnExactStoreOkSpec : ChangeSpec := { name := "fnExactStoreOk", fn := fun _ => fun
  | [d] => { results := [.lit (.bool true)], args := [d] }
  | _ => none }
def fnExactStoreOkRow : OpenClaim := { program := "ytjammpcfihlfaaa", sum := "7f86456755ae551588608d718a86a66a491794760fd21f307b7b8cb3491a3a30", func := "loop.example/g00718/laws.FnExactStoreOk", spec := "fnExactStoreOk", apart := false }
def FnExactStoreOkSaid : Prop := fnExactStoreOkRow.holds Try.pinned (OpenSpec.ofChange fnExactStoreOkSpec)

/-- ITS FALSE NEIGHBOUR: 'it returns false'. Refute it at one input. -/
def fnExactStoreOkWrong : ChangeSpec := { name := "fnExactStoreOk", fn := fun _ => fun
  | [d] => { results := [.lit (.bool false)], args := [d] }
  | _ => none }
def FnExactStoreOkWrongFalsely : Prop := fnExactStoreOkRow.holds Try.pinned (OpenSpec.ofChange fnExactStoreOkWrong)

/-- 'laws.FnExactStoreGet': WHATEVER THE INPUT: true; the input reads as it did. -/
def fnExactStoreGetSpec : ChangeSpec := { name := "fnExactStoreGet", fn := fun _ => fun
  | [d1, d2] => { results := [.lit (.bool true)], args := [d1, d2] }
  | _ => none }
def fnExactStoreGetRow : OpenClaim := { program := "ytjammpcfihlfaaa", sum := "7f86456755ae551588608d718a86a66a491794760fd21f307b7b8cb3491a3a30", func := "loop.example/g00718/laws.FnExactStoreGet", spec := "fnExactStoreGet", apart := false }
def FnExactStoreGetSaid : Prop := fnExactStoreGetRow.holds Try.pinned (OpenSpec.ofChange fnExactStoreGetSpec)

/-- ITS FALSE NEIGHBOUR: 'it returns false'. Refute it at one input. -/
def fnExactStoreGetWrong : ChangeSpec := { name := "fnExactStoreGet", fn := fun _ => fun
  | [d1, d2] => { results := [.lit (.bool false)], args := [d1, d2] }
  | _ => none }
def FnExactStoreGetWrongFalsely : Prop := fnExactStoreGetRow.holds Try.pinned (OpenSpec.ofChange fnExactStoreGetWrong)

/-- 'laws.FnExactStorePut': WHATEVER THE INPUT: true; the input reads as it did. -/
def fnExactStorePutSpec : ChangeSpec := { name := "fnExactStorePut", fn := fun _ => fun
  | [d1, d2, d3] => { results := [.lit (.bool true)], args := [d1, d2, d3] }
  | _ => none }
def fnExactStorePutRow : OpenClaim := { program := "ytjammpcfihlfaaa", sum := "7f86456755ae551588608d718a86a66a491794760fd21f307b7b8cb3491a3a30", func := "loop.example/g00718/laws.FnExactStorePut", spec := "fnExactStorePut", unfollowed := true, recurses := true, apart := false }
def FnExactStorePutSaid : Prop := fnExactStorePutRow.holds Try.pinned (OpenSpec.ofChange fnExactStorePutSpec)

/-- ITS FALSE NEIGHBOUR: 'it returns false'. Refute it at one input. -/
def fnExactStorePutWrong : ChangeSpec := { name := "fnExactStorePut", fn := fun _ => fun
  | [d1, d2, d3] => { results := [.lit (.bool false)], args := [d1, d2, d3] }
  | _ => none }
def FnExactStorePutWrongFalsely : Prop := fnExactStorePutRow.holds Try.pinned (OpenSpec.ofChange fnExactStorePutWrong)

/-- 'laws.FnExactStoreDrop': WHATEVER THE INPUT: true; the input reads as it did. -/
def fnExactStoreDropSpec : ChangeSpec := { name := "fnExactStoreDrop", fn := fun _ => fun
  | [d1, d2, d3, d4] => { results := [.lit (.bool true)], args := [d1, d2, d3, d4] }
  | _ => none }
def fnExactStoreDropRow : OpenClaim := { program := "ytjammpcfihlfaaa", sum := "7f86456755ae551588608d718a86a66a491794760fd21f307b7b8cb3491a3a30", func := "loop.example/g00718/laws.FnExactStoreDrop", spec := "fnExactStoreDrop", unfollowed := true, recurses := true, apart := false }
def FnExactStoreDropSaid : Prop := fnExactStoreDropRow.holds Try.pinned (OpenSpec.ofChange fnExactStoreDropSpec)

/-- ITS FALSE NEIGHBOUR: 'it returns false'. Refute it at one input. -/
def fnExactStoreDropWrong : ChangeSpec := { name := "fnExactStoreDrop", fn := fun _ => fun
  | [d1, d2, d3, d4] => { results := [.lit (.bool false)], args := [d1, d2, d3, d4] }
  | _ => none }
def FnExactStoreDropWrongFalsely : Prop := fnExactStoreDropRow.holds Try.pinned (OpenSpec.ofChange fnExactStoreDropWrong)

/- THE SECOND FORM. 'bulk': how many values and letters a reading holds, each counted each time it is reached (what is shared counts as often as it is met; a slice's spare places count too). A statement '..UptoSaid' is the law's where the arguments, and the package variables that the reading takes, are together of bulk at most 1048576: NARROWER than '..Said'. Prove '..Said' where nothing that the law and all that it calls make is longer than what came in: it says more and counts as full. Else prove '..UptoSaid'. A law counts once. -/
mutual
def uptoBulk {H : Type} : DataW H → Nat
  | .lit (.string bytes) => bytes.length + 1
  | .lit _ => 1
  | .nil => 1
  | .ptr d => uptoBulk d + 1
  | .slice elems spare => uptoBulkAll elems + uptoBulkAll spare + 1
  | .agg parts => uptoBulkAll parts + 1
  | .iface _ d => uptoBulk d + 1
  | .map entries => uptoBulkEntries entries + 1
  | .held _ => 1
def uptoBulkAll {H : Type} : List (DataW H) → Nat
  | [] => 0
  | d :: r => uptoBulk d + uptoBulkAll r
def uptoBulkEntries {H : Type} : List (Lit × DataW H) → Nat
  | [] => 0
  | x :: r => uptoBulkEntry x + uptoBulkEntries r
def uptoBulkEntry {H : Type} : Lit × DataW H → Nat
  | (.string bytes, d) => bytes.length + uptoBulk d + 1
  | (_, d) => uptoBulk d + 1
 end
def uptoSmall : (H : Type) → List (DataW H) → Bool := fun _ ds => decide (uptoBulkAll ds ≤ 1048576)
def OpenSpec.upto (s : _root_.Go.ChangeSpec) : _root_.Go.OpenSpec := { _root_.Go.OpenSpec.ofChange s with cond := some uptoSmall }

/-- 'laws.FnLease', WHERE WHAT IT READS IS OF BULK AT MOST 1048576: true; the input reads as it did. -/
def fnLeaseUptoRow : OpenClaim := { program := "ytjammpcfihlfaaa", sum := "7f86456755ae551588608d718a86a66a491794760fd21f307b7b8cb3491a3a30", func := "loop.example/g00718/laws.FnLease", spec := "fnLease", apart := false, narrowed := true }
def FnLeaseUptoSaid : Prop := fnLeaseUptoRow.holds Try.pinned (OpenSpec.upto fnLeaseSpec)

/-- 'laws.FnStore', WHERE WHAT IT READS IS OF BULK AT MOST 1048576: true; the input reads as it did. -/
def fnStoreUptoRow : OpenClaim := { program := "ytjammpcfihlfaaa", sum := "7f86456755ae551588608d718a86a66a491794760fd21f307b7b8cb3491a3a30", func := "loop.example/g00718/laws.FnStore", spec := "fnStore", unfollowed := true, recurses := true, apart := false, narrowed := true }
def FnStoreUptoSaid : Prop := fnStoreUptoRow.holds Try.pinned (OpenSpec.upto fnStoreSpec)

/-- 'laws.FnExactLeaseOk', WHERE WHAT IT READS IS OF BULK AT MOST 1048576: true; the input reads as it did. -/
def fnExactLeaseOkUptoRow : OpenClaim := { program := "ytjammpcfihlfaaa", sum := "7f86456755ae551588608d718a86a66a491794760fd21f307b7b8cb3491a3a30", func := "loop.example/g00718/laws.FnExactLeaseOk", spec := "fnExactLeaseOk", apart := false, narrowed := true }
def FnExactLeaseOkUptoSaid : Prop := fnExactLeaseOkUptoRow.holds Try.pinned (OpenSpec.upto fnExactLeaseOkSpec)

/-- 'laws.FnExactLeaseTry', WHERE WHAT IT READS IS OF BULK AT MOST 1048576: true; the input reads as it did. -/
def fnExactLeaseTryUptoRow : OpenClaim := { program := "ytjammpcfihlfaaa", sum := "7f86456755ae551588608d718a86a66a491794760fd21f307b7b8cb3491a3a30", func := "loop.example/g00718/laws.FnExactLeaseTry", spec := "fnExactLeaseTry", apart := false, narrowed := true }
def FnExactLeaseTryUptoSaid : Prop := fnExactLeaseTryUptoRow.holds Try.pinned (OpenSpec.upto fnExactLeaseTrySpec)

/-- 'laws.FnExactLeaseHolds', WHERE WHAT IT READS IS OF BULK AT MOST 1048576: true; the input reads as it did. -/
def fnExactLeaseHoldsUptoRow : OpenClaim := { program := "ytjammpcfihlfaaa", sum := "7f86456755ae551588608d718a86a66a491794760fd21f307b7b8cb3491a3a30", func := "loop.example/g00718/laws.FnExactLeaseHolds", spec := "fnExactLeaseHolds", apart := false, narrowed := true }
def FnExactLeaseHoldsUptoSaid : Prop := fnExactLeaseHoldsUptoRow.holds Try.pinned (OpenSpec.upto fnExactLeaseHoldsSpec)

/-- 'laws.FnExactStoreOk', WHERE WHAT IT READS IS OF BULK AT MOST 1048576: true; the input reads as it did. -/
def fnExactStoreOkUptoRow : OpenClaim := { program := "ytjammpcfihlfaaa", sum := "7f86456755ae551588608d718a86a66a491794760fd21f307b7b8cb3491a3a30", func := "loop.example/g00718/laws.FnExactStoreOk", spec := "fnExactStoreOk", apart := false, narrowed := true }
def FnExactStoreOkUptoSaid : Prop := fnExactStoreOkUptoRow.holds Try.pinned (OpenSpec.upto fnExactStoreOkSpec)

/-- 'laws.FnExactStoreGet', WHERE WHAT IT READS IS OF BULK AT MOST 1048576: true; the input reads as it did. -/
def fnExactStoreGetUptoRow : OpenClaim := { program := "ytjammpcfihlfaaa", sum := "7f86456755ae551588608d718a86a66a491794760fd21f307b7b8cb3491a3a30", func := "loop.example/g00718/laws.FnExactStoreGet", spec := "fnExactStoreGet", apart := false, narrowed := true }
def FnExactStoreGetUptoSaid : Prop := fnExactStoreGetUptoRow.holds Try.pinned (OpenSpec.upto fnExactStoreGetSpec)

/-- 'laws.FnExactStorePut', WHERE WHAT IT READS IS OF BULK AT MOST 1048576: true; the input reads as it did. -/
def fnExactStorePutUptoRow : OpenClaim := { program := "ytjammpcfihlfaaa", sum := "7f86456755ae551588608d718a86a66a491794760fd21f307b7b8cb3491a3a30", func := "loop.example/g00718/laws.FnExactStorePut", spec := "fnExactStorePut", unfollowed := true, recurses := true, apart := false, narrowed := true }
def FnExactStorePutUptoSaid : Prop := fnExactStorePutUptoRow.holds Try.pinned (OpenSpec.upto fnExactStorePutSpec)

/-- 'laws.FnExactStoreDrop', WHERE WHAT IT READS IS OF BULK AT MOST 1048576: true; the input reads as it did. -/
def fnExactStoreDropUptoRow : OpenClaim := { program := "ytjammpcfihlfaaa", sum := "7f86456755ae551588608d718a86a66a491794760fd21f307b7b8cb3491a3a30", func := "loop.example/g00718/laws.FnExactStoreDrop", spec := "fnExactStoreDrop", unfollowed := true, recurses := true, apart := false, narrowed := true }
def FnExactStoreDropUptoSaid : Prop := fnExactStoreDropUptoRow.holds Try.pinned (OpenSpec.upto fnExactStoreDropSpec)

end Rows
end Go.Proofs.Ytjammpcfihlfaaa
