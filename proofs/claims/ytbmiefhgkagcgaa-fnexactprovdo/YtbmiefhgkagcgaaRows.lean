/-
  No cell of these rows narrows 'for every input' (looked for: loops, veiled, ifaces, maps, wideKeys, modest, calm, conditions, laid).
  DERIVED. THE GIVEN ROWS OF THIS SEAT. 8 by the template 'for every input the law returns true; each argument reads behind the call as it read before'; 0 by the template 'total and deterministic' (their statements: YtbmiefhgkagcgaaTotals.lean).
  GIVEN WITH THE SEED: the statements are not yours to turn. If you find one false, say at which input.
  Laid BY PROGRAM, IN A SANDBOX (cutbox-rows.mjs): the forced cells as the released guide's own fill.sh prints them over the translation 2bba3e750414694a… (all of the seat's roots in one cut). By AI agents, Wed Nov 11 2026. No macro, syntax, notation, axiom, sorry.
-/
import Derived.Test.YtbmiefhgkagcgaaChecked
import GoSem.Claim
import GoSem.ClaimJoined
import GoSem.ClaimMapViews
import Derived.JoinedTies
import Derived.KernelRfl
namespace Go.Proofs.Ytbmiefhgkagcgaa
/- THE CELL 'sum', in the pinned program and in every row, IS THE sha256 OF THE DUMP (.gsa) THAT YtbmiefhgkagcgaaProg.lean LOADS. Nothing in Lean hashes anything: it is a label: what it is worth is what the hold of that sum in a sandbox is worth. -/
noncomputable def Try.pinned : Pinned := { name := "ytbmiefhgkagcgaa", sum := "2bba3e750414694a40a252dd13f8d0569c8a1fde9652eb579e86b96e5681b0a1", checked := Try.checked }
namespace Rows
def none {H : Type} : Left H := { results := [], args := [] }

/-- 'laws.FnProv': WHATEVER THE INPUT: true; the input reads as it did. -/
def fnProvSpec : ChangeSpec := { name := "fnProv", fn := fun _ => fun
  | [d] => { results := [.lit (.bool true)], args := [d] }
  | _ => none }
def fnProvRow : OpenClaim := { program := "ytbmiefhgkagcgaa", sum := "2bba3e750414694a40a252dd13f8d0569c8a1fde9652eb579e86b96e5681b0a1", func := "loop.example/g00718/laws.FnProv", spec := "fnProv", inPlace := ["slices.overlaps[loop.example/g00718/impl.Inst]"], unfollowed := true, recurses := true, apart := false }
def FnProvSaid : Prop := fnProvRow.holds Try.pinned (OpenSpec.ofChange fnProvSpec)

/-- ITS FALSE NEIGHBOUR: 'it returns false'. Refute it at one input. -/
def fnProvWrong : ChangeSpec := { name := "fnProv", fn := fun _ => fun
  | [d] => { results := [.lit (.bool false)], args := [d] }
  | _ => none }
def FnProvWrongFalsely : Prop := fnProvRow.holds Try.pinned (OpenSpec.ofChange fnProvWrong)

/-- 'laws.FnProvCount': WHATEVER THE INPUT: true; the input reads as it did. -/
def fnProvCountSpec : ChangeSpec := { name := "fnProvCount", fn := fun _ => fun
  | [d] => { results := [.lit (.bool true)], args := [d] }
  | _ => none }
def fnProvCountRow : OpenClaim := { program := "ytbmiefhgkagcgaa", sum := "2bba3e750414694a40a252dd13f8d0569c8a1fde9652eb579e86b96e5681b0a1", func := "loop.example/g00718/laws.FnProvCount", spec := "fnProvCount", inPlace := ["slices.overlaps[loop.example/g00718/impl.Inst]"], unfollowed := true, recurses := true, apart := false }
def FnProvCountSaid : Prop := fnProvCountRow.holds Try.pinned (OpenSpec.ofChange fnProvCountSpec)

/-- ITS FALSE NEIGHBOUR: 'it returns false'. Refute it at one input. -/
def fnProvCountWrong : ChangeSpec := { name := "fnProvCount", fn := fun _ => fun
  | [d] => { results := [.lit (.bool false)], args := [d] }
  | _ => none }
def FnProvCountWrongFalsely : Prop := fnProvCountRow.holds Try.pinned (OpenSpec.ofChange fnProvCountWrong)

/-- 'laws.FnExactProvOk': WHATEVER THE INPUT: true; the input reads as it did. -/
def fnExactProvOkSpec : ChangeSpec := { name := "fnExactProvOk", fn := fun _ => fun
  | [d] => { results := [.lit (.bool true)], args := [d] }
  | _ => none }
def fnExactProvOkRow : OpenClaim := { program := "ytbmiefhgkagcgaa", sum := "2bba3e750414694a40a252dd13f8d0569c8a1fde9652eb579e86b96e5681b0a1", func := "loop.example/g00718/laws.FnExactProvOk", spec := "fnExactProvOk", apart := false }
def FnExactProvOkSaid : Prop := fnExactProvOkRow.holds Try.pinned (OpenSpec.ofChange fnExactProvOkSpec)

/-- ITS FALSE NEIGHBOUR: 'it returns false'. Refute it at one input. -/
def fnExactProvOkWrong : ChangeSpec := { name := "fnExactProvOk", fn := fun _ => fun
  | [d] => { results := [.lit (.bool false)], args := [d] }
  | _ => none }
def FnExactProvOkWrongFalsely : Prop := fnExactProvOkRow.holds Try.pinned (OpenSpec.ofChange fnExactProvOkWrong)

/-- 'laws.FnExactMsgOk': WHATEVER THE INPUT: true; the input reads as it did. -/
def fnExactMsgOkSpec : ChangeSpec := { name := "fnExactMsgOk", fn := fun _ => fun
  | [d] => { results := [.lit (.bool true)], args := [d] }
  | _ => none }
def fnExactMsgOkRow : OpenClaim := { program := "ytbmiefhgkagcgaa", sum := "2bba3e750414694a40a252dd13f8d0569c8a1fde9652eb579e86b96e5681b0a1", func := "loop.example/g00718/laws.FnExactMsgOk", spec := "fnExactMsgOk", apart := false }
def FnExactMsgOkSaid : Prop := fnExactMsgOkRow.holds Try.pinned (OpenSpec.ofChange fnExactMsgOkSpec)

/-- ITS FALSE NEIGHBOUR: 'it returns false'. Refute it at one input. -/
def fnExactMsgOkWrong : ChangeSpec := { name := "fnExactMsgOk", fn := fun _ => fun
  | [d] => { results := [.lit (.bool false)], args := [d] }
  | _ => none }
def FnExactMsgOkWrongFalsely : Prop := fnExactMsgOkRow.holds Try.pinned (OpenSpec.ofChange fnExactMsgOkWrong)

/-- 'laws.FnExactProvDo': WHATEVER THE INPUT: true; the input reads as it did. -/
def fnExactProvDoSpec : ChangeSpec := { name := "fnExactProvDo", fn := fun _ => fun
  | [d1, d2, d3] => { results := [.lit (.bool true)], args := [d1, d2, d3] }
  | _ => none }
def fnExactProvDoRow : OpenClaim := { program := "ytbmiefhgkagcgaa", sum := "2bba3e750414694a40a252dd13f8d0569c8a1fde9652eb579e86b96e5681b0a1", func := "loop.example/g00718/laws.FnExactProvDo", spec := "fnExactProvDo", inPlace := ["slices.overlaps[loop.example/g00718/impl.Inst]"], unfollowed := true, recurses := true, apart := false }
def FnExactProvDoSaid : Prop := fnExactProvDoRow.holds Try.pinned (OpenSpec.ofChange fnExactProvDoSpec)

/-- ITS FALSE NEIGHBOUR: 'it returns false'. Refute it at one input. -/
def fnExactProvDoWrong : ChangeSpec := { name := "fnExactProvDo", fn := fun _ => fun
  | [d1, d2, d3] => { results := [.lit (.bool false)], args := [d1, d2, d3] }
  | _ => none }
def FnExactProvDoWrongFalsely : Prop := fnExactProvDoRow.holds Try.pinned (OpenSpec.ofChange fnExactProvDoWrong)

/-- 'laws.FnExactProvState': WHATEVER THE INPUT: true; the input reads as it did. -/
def fnExactProvStateSpec : ChangeSpec := { name := "fnExactProvState", fn := fun _ => fun
  | [d1, d2] => { results := [.lit (.bool true)], args := [d1, d2] }
  | _ => none }
def fnExactProvStateRow : OpenClaim := { program := "ytbmiefhgkagcgaa", sum := "2bba3e750414694a40a252dd13f8d0569c8a1fde9652eb579e86b96e5681b0a1", func := "loop.example/g00718/laws.FnExactProvState", spec := "fnExactProvState", unfollowed := true, recurses := true, apart := false }
def FnExactProvStateSaid : Prop := fnExactProvStateRow.holds Try.pinned (OpenSpec.ofChange fnExactProvStateSpec)

/-- ITS FALSE NEIGHBOUR: 'it returns false'. Refute it at one input. -/
def fnExactProvStateWrong : ChangeSpec := { name := "fnExactProvState", fn := fun _ => fun
  | [d1, d2] => { results := [.lit (.bool false)], args := [d1, d2] }
  | _ => none }
def FnExactProvStateWrongFalsely : Prop := fnExactProvStateRow.holds Try.pinned (OpenSpec.ofChange fnExactProvStateWrong)

/-- 'laws.FnExactProvCount': WHATEVER THE INPUT: true; the input reads as it did. -/
def fnExactProvCountSpec : ChangeSpec := { name := "fnExactProvCount", fn := fun _ => fun
  | [d1, d2] => { results := [.lit (.bool true)], args := [d1, d2] }
  | _ => none }
def fnExactProvCountRow : OpenClaim := { program := "ytbmiefhgkagcgaa", sum := "2bba3e750414694a40a252dd13f8d0569c8a1fde9652eb579e86b96e5681b0a1", func := "loop.example/g00718/laws.FnExactProvCount", spec := "fnExactProvCount", apart := false }
def FnExactProvCountSaid : Prop := fnExactProvCountRow.holds Try.pinned (OpenSpec.ofChange fnExactProvCountSpec)

/-- ITS FALSE NEIGHBOUR: 'it returns false'. Refute it at one input. -/
def fnExactProvCountWrong : ChangeSpec := { name := "fnExactProvCount", fn := fun _ => fun
  | [d1, d2] => { results := [.lit (.bool false)], args := [d1, d2] }
  | _ => none }
def FnExactProvCountWrongFalsely : Prop := fnExactProvCountRow.holds Try.pinned (OpenSpec.ofChange fnExactProvCountWrong)

/-- 'laws.FnExactProvFail': WHATEVER THE INPUT: true; the input reads as it did. -/
def fnExactProvFailSpec : ChangeSpec := { name := "fnExactProvFail", fn := fun _ => fun
  | [d1, d2] => { results := [.lit (.bool true)], args := [d1, d2] }
  | _ => none }
def fnExactProvFailRow : OpenClaim := { program := "ytbmiefhgkagcgaa", sum := "2bba3e750414694a40a252dd13f8d0569c8a1fde9652eb579e86b96e5681b0a1", func := "loop.example/g00718/laws.FnExactProvFail", spec := "fnExactProvFail", unfollowed := true, recurses := true, apart := false }
def FnExactProvFailSaid : Prop := fnExactProvFailRow.holds Try.pinned (OpenSpec.ofChange fnExactProvFailSpec)

/-- ITS FALSE NEIGHBOUR: 'it returns false'. Refute it at one input. -/
def fnExactProvFailWrong : ChangeSpec := { name := "fnExactProvFail", fn := fun _ => fun
  | [d1, d2] => { results := [.lit (.bool false)], args := [d1, d2] }
  | _ => none }
def FnExactProvFailWrongFalsely : Prop := fnExactProvFailRow.holds Try.pinned (OpenSpec.ofChange fnExactProvFailWrong)

/- THE SECOND FORM. 'bulk': how many values and letters a reading holds, each counted each time it is reached (what is shared counts as often as it is met; a slice's spare places count too). A statement '..UptoSaid' is the law's where the arguments, and the package variables that the reading takes, are together of bulk at most 1048576: NARROWER than '..Said'. Prove '..Said' where nothing that the law and all that it calls make is longer than what came in: it says more and counts as full. Else prove '..UptoSaid'. A law counts once. -/
mutual
def uptoBulk {H : Type} : DataW H → Nat
  | .lit (.string bytes) => bytes.length + 1
  | .lit _ => 1
  | .nil => 1
  | .ptr d => uptoBulk d + 1
  | .slice elems spare => uptoBulkAll elems + uptoBulkAll spare + 1
  | .agg parts => uptoBulkAll parts + 1
  | .iface _ d => uptoBulk d + 1
  | .map entries => uptoBulkEntries entries + 1
  | .held _ => 1
def uptoBulkAll {H : Type} : List (DataW H) → Nat
  | [] => 0
  | d :: r => uptoBulk d + uptoBulkAll r
def uptoBulkEntries {H : Type} : List (Lit × DataW H) → Nat
  | [] => 0
  | x :: r => uptoBulkEntry x + uptoBulkEntries r
def uptoBulkEntry {H : Type} : Lit × DataW H → Nat
  | (.string bytes, d) => bytes.length + uptoBulk d + 1
  | (_, d) => uptoBulk d + 1
 end
def uptoSmall : (H : Type) → List (DataW H) → Bool := fun _ ds => decide (uptoBulkAll ds ≤ 1048576)
def OpenSpec.upto (s : _root_.Go.ChangeSpec) : _root_.Go.OpenSpec := { _root_.Go.OpenSpec.ofChange s with cond := some uptoSmall }

/-- 'laws.FnProv', WHERE WHAT IT READS IS OF BULK AT MOST 1048576: true; the input reads as it did. -/
def fnProvUptoRow : OpenClaim := { program := "ytbmiefhgkagcgaa", sum := "2bba3e750414694a40a252dd13f8d0569c8a1fde9652eb579e86b96e5681b0a1", func := "loop.example/g00718/laws.FnProv", spec := "fnProv", inPlace := ["slices.overlaps[loop.example/g00718/impl.Inst]"], unfollowed := true, recurses := true, apart := false, narrowed := true }
def FnProvUptoSaid : Prop := fnProvUptoRow.holds Try.pinned (OpenSpec.upto fnProvSpec)

/-- 'laws.FnProvCount', WHERE WHAT IT READS IS OF BULK AT MOST 1048576: true; the input reads as it did. -/
def fnProvCountUptoRow : OpenClaim := { program := "ytbmiefhgkagcgaa", sum := "2bba3e750414694a40a252dd13f8d0569c8a1fde9652eb579e86b96e5681b0a1", func := "loop.example/g00718/laws.FnProvCount", spec := "fnProvCount", inPlace := ["slices.overlaps[loop.example/g00718/impl.Inst]"], unfollowed := true, recurses := true, apart := false, narrowed := true }
def FnProvCountUptoSaid : Prop := fnProvCountUptoRow.holds Try.pinned (OpenSpec.upto fnProvCountSpec)

/-- 'laws.FnExactProvOk', WHERE WHAT IT READS IS OF BULK AT MOST 1048576: true; the input reads as it did. -/
def fnExactProvOkUptoRow : OpenClaim := { program := "ytbmiefhgkagcgaa", sum := "2bba3e750414694a40a252dd13f8d0569c8a1fde9652eb579e86b96e5681b0a1", func := "loop.example/g00718/laws.FnExactProvOk", spec := "fnExactProvOk", apart := false, narrowed := true }
def FnExactProvOkUptoSaid : Prop := fnExactProvOkUptoRow.holds Try.pinned (OpenSpec.upto fnExactProvOkSpec)

/-- 'laws.FnExactMsgOk', WHERE WHAT IT READS IS OF BULK AT MOST 1048576: true; the input reads as it did. -/
def fnExactMsgOkUptoRow : OpenClaim := { program := "ytbmiefhgkagcgaa", sum := "2bba3e750414694a40a252dd13f8d0569c8a1fde9652eb579e86b96e5681b0a1", func := "loop.example/g00718/laws.FnExactMsgOk", spec := "fnExactMsgOk", apart := false, narrowed := true }
def FnExactMsgOkUptoSaid : Prop := fnExactMsgOkUptoRow.holds Try.pinned (OpenSpec.upto fnExactMsgOkSpec)

/-- 'laws.FnExactProvDo', WHERE WHAT IT READS IS OF BULK AT MOST 1048576: true; the input reads as it did. -/
def fnExactProvDoUptoRow : OpenClaim := { program := "ytbmiefhgkagcgaa", sum := "2bba3e750414694a40a252dd13f8d0569c8a1fde9652eb579e86b96e5681b0a1", func := "loop.example/g00718/laws.FnExactProvDo", spec := "fnExactProvDo", inPlace := ["slices.overlaps[loop.example/g00718/impl.Inst]"], unfollowed := true, recurses := true, apart := false, narrowed := true }
def FnExactProvDoUptoSaid : Prop := fnExactProvDoUptoRow.holds Try.pinned (OpenSpec.upto fnExactProvDoSpec)

/-- 'laws.FnExactProvState', WHERE WHAT IT READS IS OF BULK AT MOST 1048576: true; the input reads as it did. -/
def fnExactProvStateUptoRow : OpenClaim := { program := "ytbmiefhgkagcgaa", sum := "2bba3e750414694a40a252dd13f8d0569c8a1fde9652eb579e86b96e5681b0a1", func := "loop.example/g00718/laws.FnExactProvState", spec := "fnExactProvState", unfollowed := true, recurses := true, apart := false, narrowed := true }
def FnExactProvStateUptoSaid : Prop := fnExactProvStateUptoRow.holds Try.pinned (OpenSpec.upto fnExactProvStateSpec)

/-- 'laws.FnExactProvCount', WHERE WHAT IT READS IS OF BULK AT MOST 1048576: true; the input reads as it did. -/
def fnExactProvCountUptoRow : OpenClaim := { program := "ytbmiefhgkagcgaa", sum := "2bba3e750414694a40a252dd13f8d0569c8a1fde9652eb579e86b96e5681b0a1", func := "loop.example/g00718/laws.FnExactProvCount", spec := "fnExactProvCount", apart := false, narrowed := true }
def FnExactProvCountUptoSaid : Prop := fnExactProvCountUptoRow.holds Try.pinned (OpenSpec.upto fnExactProvCountSpec)

/-- 'laws.FnExactProvFail', WHERE WHAT IT READS IS OF BULK AT MOST 1048576: true; the input reads as it did. -/
def fnExactProvFailUptoRow : OpenClaim := { program := "ytbmiefhgkagcgaa", sum := "2bba3e750414694a40a252dd13f8d0569c8a1fde9652eb579e86b96e5681b0a1", func := "loop.example/g00718/laws.FnExactProvFail", spec := "fnExactProvFail", unfollowed := true, recurses := true, apart := false, narrowed := true }
def FnExactProvFailUptoSaid : Prop := fnExactProvFailUptoRow.holds Try.pinned (OpenSpec.upto fnExactProvFailSpec)

end Rows
end Go.Proofs.Ytbmiefhgkagcgaa
