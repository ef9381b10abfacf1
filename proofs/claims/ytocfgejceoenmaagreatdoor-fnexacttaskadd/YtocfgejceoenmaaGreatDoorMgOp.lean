/- errors.As at what this program hands it: nil, and a rejection. What the handle variable errors.errorType holds, out of 'laid'. The contracts of answer and of (request).check at the kinds that TaskAdd, NodeAdd and the drops ask for. TaskAdd in plain Lean; what an operation hands back. The contract of the model's TaskAdd. The operations that need what they name (TaskDrop, NodeDrop, Cordon, BindDrop) in plain Lean; a valid cluster's Ids. What an operation's inner function gives (a cluster of the call's own and an error) and what answer makes of it. The contracts of copyList, copyTask, copyNode. The contract of copyCluster. The contracts of withTask and TaskAdd. A function value that tells of each element whether p holds; the first place at which it holds: slices.IndexFunc over tasks, nodes and bindings. slices.DeleteFunc over rows of tasks, nodes and bindings that a call owns. slices.DeleteFunc on a cluster that a call owns; the closures of the drops. -/
import Derived.Test.YtocfgejceoenmaaGreatDoorBase
import Derived.LaidEql
import Derived.Stop.Asserts
import Derived.RowKitTokens
import Derived.Test.YtocfgejceoenmaaGreatDoorResRow
import Derived.LaidHandle
import Derived.Test.YtocfgejceoenmaaGreatDoorCluUsed
import Derived.Test.YtocfgejceoenmaaGreatDoorMgMark
import Derived.Test.YtocfgejceoenmaaGreatDoorCluSOk
import Derived.Deep.RegionHeld3
import Derived.Test.YtocfgejceoenmaaGreatDoorRegHeld
import Derived.Laws.Tables
import Derived.Laws.Rows
import Derived.Laws.CopyOwn
import Derived.Shelf.Abstract
import Derived.Lib.SliceRun
namespace Go.Proofs.YtocfgejceoenmaaGreatDoor
open Go.RowKit Go.Extern.Stop Go.Stop Go.Extern

theorem asValueP (p : Option Addr) (w : World) : (callFunc 132 #[.iface 126 (.pointer p)]).run Tryz.prog w = .ok (.value (.agg #[.pointer (some ⟨2, 126, none⟩), .pointer (some ⟨w.heap.size, 0, none⟩), .int .u64 150])) (w.alloc (.cells #[.pointer p] 126)) := by kernel_rfl
theorem asValueR (z : Int) (w : World) : (callFunc 132 #[.iface 124 (.agg #[.int .i64 z])]).run Tryz.prog w = .ok (.value (.agg #[.pointer (some ⟨2, 124, none⟩), .pointer (some ⟨w.heap.size, 0, none⟩), .int .u64 153])) (w.alloc (.cells #[.int .i64 z] 124)) := by kernel_rfl
theorem asType (a : Addr) (w : World) : (callFunc 133 #[.agg #[.pointer (some ⟨2, 126, none⟩), .pointer (some a), .int .u64 150]]).run Tryz.prog w = .ok (.value (.iface 184 (.agg #[.pointer (some ⟨2, 126, none⟩)]))) w := by kernel_rfl
theorem asMKind (t : Nat) (w : World) : (Go.method 362 184 (.agg #[.pointer (some ⟨2, t, none⟩)]) "Kind").run Tryz.prog w = .ok (214, .pointer (some ⟨2, t, none⟩)) w := by kernel_rfl
theorem asKindP (w : World) : (callFunc 214 #[.pointer (some ⟨2, 126, none⟩)]).run Tryz.prog w = .ok (.value (.int .u8 22)) w := by kernel_rfl
theorem asKindR (w : World) : (callFunc 214 #[.pointer (some ⟨2, 124, none⟩)]).run Tryz.prog w = .ok (.value (.int .u8 25)) w := by kernel_rfl
theorem asMElem (v : Value) (w : World) : (Go.method 362 184 v "Elem").run Tryz.prog w = .ok (224, v) w := by kernel_rfl
theorem asElemP (w : World) : (callFunc 224 #[.agg #[.pointer (some ⟨2, 126, none⟩)]]).run Tryz.prog w = .ok (.value (.iface 184 (.agg #[.pointer (some ⟨2, 124, none⟩)]))) w := by kernel_rfl
theorem asMImpl (v : Value) (w : World) : (Go.method 362 184 v "Implements").run Tryz.prog w = .ok (225, v) w := by kernel_rfl
theorem asImpl (w : World) : (callFunc 225 #[.agg #[.pointer (some ⟨2, 124, none⟩)], .iface 184 (.agg #[.pointer (some ⟨2, 90, none⟩)])]).run Tryz.prog w = .ok (.value (.bool true)) w := by kernel_rfl
theorem asTypeOf (v : Value) (w : World) : (callFunc 166 #[.iface 124 v]).run Tryz.prog w = .ok (.value (.iface 184 (.agg #[.pointer (some ⟨2, 124, none⟩)]))) w := by kernel_rfl
theorem asMAssign (v : Value) (w : World) : (Go.method 362 184 v "AssignableTo").run Tryz.prog w = .ok (222, v) w := by kernel_rfl
theorem asAssign (w : World) : (callFunc 222 #[.agg #[.pointer (some ⟨2, 124, none⟩)], .iface 184 (.agg #[.pointer (some ⟨2, 124, none⟩)])]).run Tryz.prog w = .ok (.value (.bool true)) w := by kernel_rfl
/-- What the variable errors.errorType holds. -/
def TypAt (w : World) : Prop := w.cell? ⟨0, 0, none⟩ = some (.iface 184 (.agg #[.pointer (some ⟨2, 90, none⟩)]))
theorem TypAt.lt {w : World} (h : TypAt w) : 0 < w.heap.size := World.block_lt_of_cell? _ _ h
theorem TypAt.below {w w' : World} {B : Nat} (h : TypAt w) (hb : Below B w w') (hB : w.heap.size ≤ B) : TypAt w' := (hb.cell (p := ⟨0, 0, none⟩) (Nat.lt_of_lt_of_le h.lt hB)).trans h

theorem rlm (z : Sem Value) (f : TypeId → Addr → Nat → Nat → Sem Value) (v : Value) :
    ReflectliteValue.method z f #[v] = (do match ← ReflectliteValue.parts v with | none => z | some (t, a, fl) => f t a fl (fl % 32)) := rfl
theorem partsP (a : Addr) (w : World) : (ReflectliteValue.parts (.agg #[.pointer (some ⟨2, 126, none⟩), .pointer (some a), .int .u64 150])).run Tryz.prog w = .ok (some (126, a, 150)) w := by kernel_rfl
theorem asIsNil (a p : Addr) (W : World) (ha : W.cell? a = some (.pointer (some p))) :
    (ReflectliteValue.method (ReflectliteValue.valueError "reflectlite.Value.IsNil" 0) ReflectliteValue.isNil #[.agg #[.pointer (some ⟨2, 126, none⟩), .pointer (some a), .int .u64 150]]).run Tryz.prog W = .ok (.bool false) W := by
  rw [rlm]
  simp only [Sem.run_bind, partsP, Result.andThen]
  simp [ReflectliteValue.isNil, loadVar, isAgg, underlying, Tryz.underlying126, ha, Result.andThen]
theorem elemOfP (w : World) : (Rtype.elem? 126).run Tryz.prog w = .ok (some 124) w := by kernel_rfl
theorem mkR (p : Addr) (w : World) : (ReflectliteValue.mk 124 p ReflectliteValue.flagAddr).run Tryz.prog w = .ok (.agg #[.pointer (some ⟨2, 124, none⟩), .pointer (some p), .int .u64 409]) w := by kernel_rfl
theorem asElemV (a p : Addr) (W : World) (ha : W.cell? a = some (.pointer (some p))) :
    (ReflectliteValue.method (ReflectliteValue.valueError "reflectlite.Value.Elem" 0) ReflectliteValue.elem #[.agg #[.pointer (some ⟨2, 126, none⟩), .pointer (some a), .int .u64 150]]).run Tryz.prog W
      = .ok (.agg #[.pointer (some ⟨2, 124, none⟩), .pointer (some p), .int .u64 409]) W := by
  rw [rlm]
  simp only [Sem.run_bind, partsP, Result.andThen]
  simp [ReflectliteValue.elem, loadVar, isAgg, underlying, Tryz.underlying126, ha, Result.andThen, elemOfP, mkR]
theorem rls (v x : Value) : ReflectliteValue.set #[v, x] = (do
    let (some (dst, a, fl), some (src, b, _)) := (← ReflectliteValue.parts v, ← ReflectliteValue.parts x)
      | unsupported (.noEntry "extern/(internal/reflectlite.Value).Set.zeroValue")
    if fl / ReflectliteValue.flagAddr % 2 == 0 then unsupported (.noEntry "extern/(internal/reflectlite.Value).Set.unaddressable")
    let val ← loadVar src b
    if ← Rtype.directlyAssignable dst src then storeVar dst a val
    else if ← Rtype.implements dst src then
      if (← Rtype.kind src) == 20 then
        match val with
        | .nilIface => unsupported (.noEntry "extern/reflectlite: a nil value of one interface type handed on as a value of another")
        | _ => storeVar dst a val
      else storeVar dst a (.iface src val)
    else panicString ("reflectlite.Set: value of type " ++ (← Rtype.spelt src) ++ " is not assignable to type " ++ (← Rtype.spelt dst))
    pure (.tuple #[])) := rfl
theorem partsRa (a : Addr) (w : World) : (ReflectliteValue.parts (.agg #[.pointer (some ⟨2, 124, none⟩), .pointer (some a), .int .u64 409])).run Tryz.prog w = .ok (some (124, a, 409)) w := by kernel_rfl
theorem partsR (a : Addr) (w : World) : (ReflectliteValue.parts (.agg #[.pointer (some ⟨2, 124, none⟩), .pointer (some a), .int .u64 153])).run Tryz.prog w = .ok (some (124, a, 153)) w := by kernel_rfl
theorem directR (w : World) : (Rtype.directlyAssignable 124 124).run Tryz.prog w = .ok true w := by kernel_rfl
theorem sizeR (w : World) : (sizeOf 124).run Tryz.prog w = .ok 1 w := by kernel_rfl
theorem aggR (w : World) : (isAgg 124).run Tryz.prog w = .ok true w := by kernel_rfl
theorem loadR (b : Nat) (z : Int) (W : World) (hb : W.cell? ⟨b, 0, none⟩ = some (.int .i64 z)) : (loadVar 124 ⟨b, 0, none⟩).run Tryz.prog W = .ok (.agg #[.int .i64 z]) W := by
  simp [loadVar, Result.andThen, loadCells, loadCellsFrom, Addr.add, hb]
theorem asSet (g b : Nat) (z : Int) (old : Value) (W : World) (hb : W.cell? ⟨b, 0, none⟩ = some (.int .i64 z)) (ht : W.cell? ⟨g, 0, none⟩ = some old) (hf : W.frozen? ⟨g, 0, none⟩ = false) :
    (ReflectliteValue.set #[.agg #[.pointer (some ⟨2, 124, none⟩), .pointer (some ⟨g, 0, none⟩), .int .u64 409], .agg #[.pointer (some ⟨2, 124, none⟩), .pointer (some ⟨b, 0, none⟩), .int .u64 153]]).run Tryz.prog W
      = .ok (.tuple #[]) (W.setCell ⟨g, 0, none⟩ (.int .i64 z)) := by
  rw [rls]
  simp only [Sem.run_bind, partsRa, partsR, Result.andThen]
  simp [ReflectliteValue.flagAddr, loadR b z W hb, Result.andThen, directR, storeVar, Value.cells, storeCells, Addr.add]
  rw [run_store Tryz.prog W _ _ _ (by rfl)]
  simp [ht, hf]
/-- errors.As(nil, target). -/
theorem as_nil (t : Value) (w : World) : Calls Tryz.prog 97 #[.nilIface, t] w fun e w' => e = .returned (.bool false) ∧ w' = w := by
  go_enter Tryz.func97, Tryz.ntmps97
  go_wp2
  go_ret
  exact ⟨rfl, rfl⟩
set_option maxHeartbeats 4000000 in
set_option maxRecDepth 100000 in
theorem as_hit (g : Nat) (z : Int) (old : Value) (w : World) (hg : TypAt w) (ht0 : w.cell? ⟨g, 0, none⟩ = some old) (hf0 : w.frozen? ⟨g, 0, none⟩ = false) :
    Calls Tryz.prog 97 #[.iface 124 (.agg #[.int .i64 z]), .iface 126 (.pointer (some ⟨g, 0, none⟩))] w fun ev w' => ev = .returned (.bool true) ∧ w' = ((((w.alloc (.cells #[.pointer (some ⟨g, 0, none⟩)] 126)).alloc (.cells #[.pointer (some ⟨2, 126, none⟩), .pointer (some ⟨w.heap.size, 0, none⟩), .int .u64 150] 155)).alloc (.cells #[.pointer (some ⟨2, 126, none⟩), .pointer (some ⟨w.heap.size, 0, none⟩), .int .u64 150] 155)).alloc (.cells #[.int .i64 z] 124)).setCell ⟨g, 0, none⟩ (.int .i64 z) := by
  have h8 := @run_callFunc_extern Tryz.prog 134 _ (ReflectliteValue.method (ReflectliteValue.valueError "reflectlite.Value.IsNil" 0) ReflectliteValue.isNil) Tryz.func134 (by kernel_rfl) (by kernel_rfl) (by kernel_rfl) (by kernel_rfl)
  have h11 := @run_callFunc_extern Tryz.prog 167 _ (ReflectliteValue.method (ReflectliteValue.valueError "reflectlite.Value.Elem" 0) ReflectliteValue.elem) Tryz.func167 (by kernel_rfl) (by kernel_rfl) (by kernel_rfl) (by kernel_rfl)
  have h12 := @run_callFunc_extern Tryz.prog 168 _ ReflectliteValue.set Tryz.func168 (by kernel_rfl) (by kernel_rfl) (by kernel_rfl) (by kernel_rfl)
  have f1 := asValueP
  have f2 := asValueR
  have f3 := asType
  have f4 := asMKind
  have f5 := asKindP
  have f6 := asKindR
  have f7 := asMElem
  have f8 := asElemP
  have f9 := asMImpl
  have f10 := asImpl
  have f11 := asTypeOf
  have f12 := asMAssign
  have f13 := asAssign
  have hlt := hg.lt
  have htl : g < w.heap.size := World.block_lt_of_cell? _ _ ht0
  have n8 := asIsNil ⟨w.heap.size, 0, none⟩ ⟨g, 0, none⟩ ((w.alloc (.cells #[.pointer (some ⟨g, 0, none⟩)] 126)).alloc (.cells #[.pointer (some ⟨2, 126, none⟩), .pointer (some ⟨w.heap.size, 0, none⟩), .int .u64 150] 155)) (by simp)
  have hg2 : (((w.alloc (.cells #[.pointer (some ⟨g, 0, none⟩)] 126)).alloc (.cells #[.pointer (some ⟨2, 126, none⟩), .pointer (some ⟨w.heap.size, 0, none⟩), .int .u64 150] 155))).cell? ⟨0, 0, none⟩ = some (.iface 184 (.agg #[.pointer (some ⟨2, 90, none⟩)])) := by
    rw [World.cell?_alloc_lt _ _ _ (by simp <;> omega), World.cell?_alloc_lt _ _ _ hlt]; exact hg
  have el := asElemV ⟨w.heap.size, 0, none⟩ ⟨g, 0, none⟩ (((w.alloc (.cells #[.pointer (some ⟨g, 0, none⟩)] 126)).alloc (.cells #[.pointer (some ⟨2, 126, none⟩), .pointer (some ⟨w.heap.size, 0, none⟩), .int .u64 150] 155)).alloc (.cells #[.pointer (some ⟨2, 126, none⟩), .pointer (some ⟨w.heap.size, 0, none⟩), .int .u64 150] 155)) (by rw [World.cell?_alloc_lt _ _ ⟨w.heap.size, 0, none⟩ (by simp <;> omega)]; simp)
  have st := asSet g (w.heap.size + 1 + 1 + 1) z old ((((w.alloc (.cells #[.pointer (some ⟨g, 0, none⟩)] 126)).alloc (.cells #[.pointer (some ⟨2, 126, none⟩), .pointer (some ⟨w.heap.size, 0, none⟩), .int .u64 150] 155)).alloc (.cells #[.pointer (some ⟨2, 126, none⟩), .pointer (some ⟨w.heap.size, 0, none⟩), .int .u64 150] 155)).alloc (.cells #[.int .i64 z] 124)) (by rw [World.cell?_alloc_at _ _ _ _ (by simp)]; rfl)
    (by rw [World.cell?_alloc_lt _ _ _ (by simp <;> omega), World.cell?_alloc_lt _ _ _ (by simp <;> omega), World.cell?_alloc_lt _ _ _ (by simp <;> omega), World.cell?_alloc_lt _ _ _ htl]; exact ht0)
    (by rw [World.frozen?_alloc_old _ _ _ (by simp <;> omega), World.frozen?_alloc_old _ _ _ (by simp <;> omega), World.frozen?_alloc_old _ _ _ (by simp <;> omega), World.frozen?_alloc_old _ _ _ (Nat.ne_of_lt htl)]; exact hf0)
  go_enter Tryz.func97, Tryz.ntmps97
  go_wp2
  refine wp_loop_rounds 1 ?_
  rw [rounds_succ]
  go_wp2
  go_ret
  exact ⟨rfl, rfl⟩
theorem as_hit_b (g : Nat) (z y : Int) (w : World) (hg : TypAt w) (hb : BlockIs w g 124 #[.int .i64 y]) :
    Calls Tryz.prog 97 #[.iface 124 (.agg #[.int .i64 z]), .iface 126 (.pointer (some ⟨g, 0, none⟩))] w fun ev w' => ev = .returned (.bool true) ∧ BlockIs w' g 124 #[.int .i64 z] ∧ Below g w w' ∧ ∀ b, b < w.heap.size → b ≠ g → w'.heap[b]? = w.heap[b]? := by
  refine (as_hit g z (.int .i64 y) w hg (hb.cell 0) (hb.frozen 0)).mono ?_
  rintro e w' ⟨rfl, rfl⟩
  have hlt := hb.lt
  have h4 : Below w.heap.size w ((((w.alloc (.cells #[.pointer (some ⟨g, 0, none⟩)] 126)).alloc (.cells #[.pointer (some ⟨2, 126, none⟩), .pointer (some ⟨w.heap.size, 0, none⟩), .int .u64 150] 155)).alloc (.cells #[.pointer (some ⟨2, 126, none⟩), .pointer (some ⟨w.heap.size, 0, none⟩), .int .u64 150] 155)).alloc (.cells #[.int .i64 z] 124)) := Below.alloc (Below.alloc (Below.alloc (Below.alloc (Below.refl _ _) (Nat.le_refl _) _) (by simp) _) (by simp <;> omega) _) (by simp <;> omega) _
  refine ⟨rfl, ?_, (h4.mono (Nat.le_of_lt hlt)).setCell (Nat.le_refl _) _, fun b hbl hne => (Below.heap_setCell _ _ _ b hne).trans (h4.block b hbl)⟩
  have := (hb.below h4 hlt).put 0 (.int .i64 z)
  simpa using this
end Go.Proofs.YtocfgejceoenmaaGreatDoor

namespace Go.Proofs.YtocfgejceoenmaaGreatDoor
open Go.ChangeShapes Go.WideShapes Go.ChangeAt Go.RowKit Go.Joins

theorem Tryz.et : Tryz.prog.globalNamed "errors.errorType" = some 0 := by kernel_rfl
theorem Tryz.rtT : (Tryz.prog.cutTypes.find? (·.1 == "internal/reflectlite.rtype")).map (·.2) = some 184 := by kernel_rfl
theorem Tryz.oneRow : ((List.range 262).filter fun t => Tryz.prog.rowNamed t [101, 114, 114, 111, 114]) = [90] := by kernel_rfl
theorem Tryz.tsize : Tryz.prog.types.size = 262 := by kernel_rfl
theorem Tryz.hand : typeHandle Tryz.prog 90 = .pointer (some ⟨2, 90, none⟩) := by kernel_rfl
/-- The two variables of an operation's row: the handle's cell, the sentinel's. -/
theorem typErr_of_laid {W : World} (h : laidMetH Tryz.prog [("errors.errorType", Rows.laid_errors_errorType), ("loop.example/g00718/impl.errRange", Rows.laid_loop_example_g00718_impl_errRange)] W) : TypAt W ∧ ∃ a, ErrAt a W := by
  have h' : laidMet Tryz.prog [("loop.example/g00718/impl.errRange", Rows.laid_loop_example_g00718_impl_errRange)] W ∧ handlesMet Tryz.prog [("errors.errorType", Rows.laid_errors_errorType)] W := h
  refine ⟨?_, errAt_of_laid h'.1⟩
  obtain ⟨name, u, ty, e1, e2, e3, e4, e5⟩ := h'.2 _ (List.mem_singleton.2 rfl)
  have en : name = [101, 114, 114, 111, 114] := (Option.some.inj e1).symm
  subst en
  obtain rfl := Option.some.inj (Tryz.rtT.symm.trans e2)
  have hm : ty ∈ (List.range 262).filter fun t => Tryz.prog.rowNamed t [101, 114, 114, 111, 114] := List.mem_filter.2 ⟨List.mem_range.2 (by rw [← Tryz.tsize]; exact e3), e4⟩
  rw [Tryz.oneRow] at hm
  obtain rfl := List.mem_singleton.1 hm
  rw [Tryz.hand] at e5
  simpa [TypAt] using World.var?_cell Tryz.et e5 0
end Go.Proofs.YtocfgejceoenmaaGreatDoor

namespace Go.Proofs.YtocfgejceoenmaaGreatDoor
open Go.RowKit

/-- The error of a rejection with this code; none for 0. -/
def errV (z : Int) : Value := if z = 0 then .nilIface else .iface 124 (.agg #[.int .i64 z])
theorem errV_zero : errV 0 = .nilIface := rfl
theorem errV_ne {z : Int} (h : z ≠ 0) : errV z = .iface 124 (.agg #[.int .i64 z]) := by unfold errV; rw [if_neg h]
set_option maxHeartbeats 1600000 in
theorem answer_nil (D0 D1 D2 : Option Addr) (n0 n1 n2 e0 e1 e2 : Nat) (w : World) :
    Calls Tryz.prog 57 #[.agg #[.slice D0 n0 e0, .slice D1 n1 e1, .slice D2 n2 e2], .nilIface] w fun e w' => e = .returned (.tuple #[.agg #[.slice D0 n0 e0, .slice D1 n1 e1, .slice D2 n2 e2], .int .i64 0]) ∧ Below w.heap.size w w' := by
  go_enter Tryz.func57, Tryz.ntmps57
  go_wp2_with fail
  refine (as_nil _ _).mono ?_
  rintro e w2 ⟨rfl, rfl⟩
  go_wp2_with fail
  have hZ : BlockIs (((w.alloc (.cells #[.slice D0 n0 e0, .slice D1 n1 e1, .slice D2 n2 e2] 39)).alloc (.cells #[.slice D0 n0 e0, .slice D1 n1 e1, .slice D2 n2 e2] 39)).alloc (.cells #[.int .i64 0] 124)) (w.heap.size + 1) 39 #[.slice D0 n0 e0, .slice D1 n1 e1, .slice D2 n2 e2] := BlockIs.alloc (BlockIs.new' (by simp)) _
  have hB : Below w.heap.size w (((w.alloc (.cells #[.slice D0 n0 e0, .slice D1 n1 e1, .slice D2 n2 e2] 39)).alloc (.cells #[.slice D0 n0 e0, .slice D1 n1 e1, .slice D2 n2 e2] 39)).alloc (.cells #[.int .i64 0] 124)) := (by repeat' (first | exact Below.refl _ _ | refine Below.alloc ?_ ?_ _ | refine Below.setCell ?_ ?_ _ | refine Below.drew ?_ | (apply below_step; assumption) | (simp; done) | (simp; omega) | omega))
  generalize (((w.alloc (.cells #[.slice D0 n0 e0, .slice D1 n1 e1, .slice D2 n2 e2] 39)).alloc (.cells #[.slice D0 n0 e0, .slice D1 n1 e1, .slice D2 n2 e2] 39)).alloc (.cells #[.int .i64 0] 124)) = Y at hZ hB ⊢
  have z0 := hZ.cell 0
  have z1 := hZ.cell 1
  have z2 := hZ.cell 2
  simp at z0 z1 z2
  exact bodyPost_ret (v := .tuple #[.agg #[.slice D0 n0 e0, .slice D1 n1 e1, .slice D2 n2 e2], .int .i64 0]) (by simp [results, Tryz.results57, go_sem, z0, z1, z2]) rfl ⟨rfl, hB⟩
set_option maxHeartbeats 1600000 in
theorem answer_rej (D0 D1 D2 : Option Addr) (n0 n1 n2 e0 e1 e2 : Nat) (z : Int) (w : World) (hg : TypAt w) :
    Calls Tryz.prog 57 #[.agg #[.slice D0 n0 e0, .slice D1 n1 e1, .slice D2 n2 e2], .iface 124 (.agg #[.int .i64 z])] w fun e w' => e = .returned (.tuple #[.agg #[.slice none 0 0, .slice none 0 0, .slice none 0 0], .int .i64 z]) ∧ Below w.heap.size w w' := by
  go_enter Tryz.func57, Tryz.ntmps57
  go_wp2_with fail
  have hX : Below w.heap.size w (((w.alloc (.cells #[.slice D0 n0 e0, .slice D1 n1 e1, .slice D2 n2 e2] 39)).alloc (.cells #[.slice none 0 0, .slice none 0 0, .slice none 0 0] 39)).alloc (.cells #[.int .i64 0] 124)) := (by repeat' (first | exact Below.refl _ _ | refine Below.alloc ?_ ?_ _ | refine Below.setCell ?_ ?_ _ | refine Below.drew ?_ | (apply below_step; assumption) | (simp; done) | (simp; omega) | omega))
  have hXz : (((w.alloc (.cells #[.slice D0 n0 e0, .slice D1 n1 e1, .slice D2 n2 e2] 39)).alloc (.cells #[.slice none 0 0, .slice none 0 0, .slice none 0 0] 39)).alloc (.cells #[.int .i64 0] 124)).heap.size = w.heap.size + 3 := by simp
  refine (as_hit_b (w.heap.size + 1 + 1) z 0 _ (hg.below hX (Nat.le_refl _)) (BlockIs.new' (by simp))).mono ?_
  rintro e w2 ⟨rfl, BR, hbb, hk⟩
  have hB : Below w.heap.size w w2 := hX.trans (hbb.mono (by omega))
  have BC : BlockIs w2 (w.heap.size + 1) 39 #[.slice none 0 0, .slice none 0 0, .slice none 0 0] := (hk _ (by omega) (by omega)).trans (BlockIs.alloc (BlockIs.new' (by simp)) _)
  have hz2 := hbb.size
  clear hk hbb hX hXz
  have c0 := BC.cell 0
  have c1 := BC.cell 1
  have c2 := BC.cell 2
  have cf := BC.frozen
  have r0 := BR.cell 0
  simp at c0 c1 c2 r0
  have HBC := Lib.hid BC
  clear BC BR
  go_wp2_with fail
  go_region
  all_goals
    go_wp2_with fail
    have hZ : BlockIs (World.drew (((w2.setCell ⟨w.heap.size + 1, 0, none⟩ (.slice none 0 0)).setCell ⟨w.heap.size + 1, 1, none⟩ (.slice none 0 0)).setCell ⟨w.heap.size + 1, 2, none⟩ (.slice none 0 0))) (w.heap.size + 1) 39 #[.slice none 0 0, .slice none 0 0, .slice none 0 0] := by
      have := ((HBC.out.put 0 (.slice none 0 0)).put 1 (.slice none 0 0)).put 2 (.slice none 0 0)
      exact BlockIs.drew (by simpa using this)
    have hY : Below w.heap.size w (World.drew (((w2.setCell ⟨w.heap.size + 1, 0, none⟩ (.slice none 0 0)).setCell ⟨w.heap.size + 1, 1, none⟩ (.slice none 0 0)).setCell ⟨w.heap.size + 1, 2, none⟩ (.slice none 0 0))) := Below.drew (((hB.setCell (by dsimp only; omega) _).setCell (by dsimp only; omega) _).setCell (by dsimp only; omega) _)
    generalize (World.drew (((w2.setCell ⟨w.heap.size + 1, 0, none⟩ (.slice none 0 0)).setCell ⟨w.heap.size + 1, 1, none⟩ (.slice none 0 0)).setCell ⟨w.heap.size + 1, 2, none⟩ (.slice none 0 0))) = Y at hZ hY ⊢
    have z0 := hZ.cell 0
    have z1 := hZ.cell 1
    have z2 := hZ.cell 2
    simp at z0 z1 z2
    exact bodyPost_ret (v := .tuple #[.agg #[.slice none 0 0, .slice none 0 0, .slice none 0 0], .int .i64 z]) (by simp [results, Tryz.results57, go_sem, z0, z1, z2]) rfl ⟨rfl, hY⟩

/-- The kind of a rejection where something is to be added. -/
def codeAdd (inv ok ex full : Bool) : Int := if inv || !ok then 1 else if ex then 2 else if full then 4 else 0
/-- The kind where something is needed. -/
def codeNone (inv ok ex : Bool) : Int := if inv || !ok then 1 else if ex then 0 else 3
set_option maxHeartbeats 3200000 in
theorem checkFull_any (c : CV) (D0 D1 D2 : Option Addr) (e0 e1 e2 : Nat) (inv ex full : Bool) (w : World) (x : Addr) (hg : ErrAt x w) (hc : CluR w c (.slice D0 c.tasks.length e0) (.slice D1 c.nodes.length e1) (.slice D2 c.binds.length e2)) :
    Calls Tryz.prog 100 #[.agg #[.slice D0 c.tasks.length e0, .slice D1 c.nodes.length e1, .slice D2 c.binds.length e2, .bool inv, .bool ex, .bool full, .int .i64 0, .int .i64 0, .int .i64 0, .int .i64 0, .int .i64 0, .slice none 0 0, .slice none 0 0, .int .i64 0, .int .i64 0, .int .i64 0, .int .i64 0, .int .i64 0, .slice none 0 0, .slice none 0 0, .bool false], .int .i64 4] w fun e w' => e = .returned (errV (codeAdd inv (clusterOk c) ex full)) ∧ Below w.heap.size w w' := by
  have hok := fun w1 hg1 hw1 => ClusterOk_any c _ _ _ w1 x hg1 (hc.below hw1)
  generalize hE : codeAdd inv (clusterOk c) ex full = r
  generalize clusterOk c = ok at hok hE
  have HE := Lib.hid hE
  have HOK := Lib.hid hok
  have HG := Lib.hid hg
  clear hok hg hc hE
  have hX : Below w.heap.size w (w.alloc (.cells #[.slice D0 c.tasks.length e0, .slice D1 c.nodes.length e1, .slice D2 c.binds.length e2, .bool inv, .bool ex, .bool full, .int .i64 0, .int .i64 0, .int .i64 0, .int .i64 0, .int .i64 0, .slice none 0 0, .slice none 0 0, .int .i64 0, .int .i64 0, .int .i64 0, .int .i64 0, .int .i64 0, .slice none 0 0, .slice none 0 0, .bool false] 130)) := (by repeat' (first | exact Below.refl _ _ | refine Below.alloc ?_ ?_ _ | refine Below.setCell ?_ ?_ _ | refine Below.drew ?_ | (apply below_step; assumption) | (simp; done) | (simp; omega) | omega))
  cases inv
  · go_enter Tryz.func100, Tryz.ntmps100
    go_wp2_with fail
    refine (HOK.out _ (HG.out.below hX (Nat.le_refl _)) hX).mono ?_
    rintro e w2 ⟨rfl, hb2⟩
    have hC2 := below_of hX hb2
    have BQ := (BlockIs.new w 130 #[.slice D0 c.tasks.length e0, .slice D1 c.nodes.length e1, .slice D2 c.binds.length e2, .bool false, .bool ex, .bool full, .int .i64 0, .int .i64 0, .int .i64 0, .int .i64 0, .int .i64 0, .slice none 0 0, .slice none 0 0, .int .i64 0, .int .i64 0, .int .i64 0, .int .i64 0, .int .i64 0, .slice none 0 0, .slice none 0 0, .bool false]).below hb2 (by simp)
    have q4 := BQ.cell 4
    have q5 := BQ.cell 5
    have ql := BQ.lt
    simp at q4 q5
    clear BQ hb2
    cases ok
    · go_wp2_with fail
      go_ret
      exact ⟨by rw [← HE.out]; rfl, hC2⟩
    · cases ex <;> cases full
      all_goals
        go_wp2_with fail
        go_ret
        exact ⟨by rw [← HE.out]; rfl, hC2⟩
  · go_enter Tryz.func100, Tryz.ntmps100
    go_wp2_with fail
    go_ret
    exact ⟨by rw [← HE.out]; rfl, hX⟩
set_option maxHeartbeats 3200000 in
theorem checkNone_any (c : CV) (D0 D1 D2 : Option Addr) (e0 e1 e2 : Nat) (inv ex full : Bool) (w : World) (x : Addr) (hg : ErrAt x w) (hc : CluR w c (.slice D0 c.tasks.length e0) (.slice D1 c.nodes.length e1) (.slice D2 c.binds.length e2)) :
    Calls Tryz.prog 100 #[.agg #[.slice D0 c.tasks.length e0, .slice D1 c.nodes.length e1, .slice D2 c.binds.length e2, .bool inv, .bool ex, .bool full, .int .i64 0, .int .i64 0, .int .i64 0, .int .i64 0, .int .i64 0, .slice none 0 0, .slice none 0 0, .int .i64 0, .int .i64 0, .int .i64 0, .int .i64 0, .int .i64 0, .slice none 0 0, .slice none 0 0, .bool false], .int .i64 3] w fun e w' => e = .returned (errV (codeNone inv (clusterOk c) ex)) ∧ Below w.heap.size w w' := by
  have hok := fun w1 hg1 hw1 => ClusterOk_any c _ _ _ w1 x hg1 (hc.below hw1)
  generalize hE : codeNone inv (clusterOk c) ex = r
  generalize clusterOk c = ok at hok hE
  have HE := Lib.hid hE
  have HOK := Lib.hid hok
  have HG := Lib.hid hg
  clear hok hg hc hE
  have hX : Below w.heap.size w (w.alloc (.cells #[.slice D0 c.tasks.length e0, .slice D1 c.nodes.length e1, .slice D2 c.binds.length e2, .bool inv, .bool ex, .bool full, .int .i64 0, .int .i64 0, .int .i64 0, .int .i64 0, .int .i64 0, .slice none 0 0, .slice none 0 0, .int .i64 0, .int .i64 0, .int .i64 0, .int .i64 0, .int .i64 0, .slice none 0 0, .slice none 0 0, .bool false] 130)) := (by repeat' (first | exact Below.refl _ _ | refine Below.alloc ?_ ?_ _ | refine Below.setCell ?_ ?_ _ | refine Below.drew ?_ | (apply below_step; assumption) | (simp; done) | (simp; omega) | omega))
  cases inv
  · go_enter Tryz.func100, Tryz.ntmps100
    go_wp2_with fail
    refine (HOK.out _ (HG.out.below hX (Nat.le_refl _)) hX).mono ?_
    rintro e w2 ⟨rfl, hb2⟩
    have hC2 := below_of hX hb2
    have BQ := (BlockIs.new w 130 #[.slice D0 c.tasks.length e0, .slice D1 c.nodes.length e1, .slice D2 c.binds.length e2, .bool false, .bool ex, .bool full, .int .i64 0, .int .i64 0, .int .i64 0, .int .i64 0, .int .i64 0, .slice none 0 0, .slice none 0 0, .int .i64 0, .int .i64 0, .int .i64 0, .int .i64 0, .int .i64 0, .slice none 0 0, .slice none 0 0, .bool false]).below hb2 (by simp)
    have q4 := BQ.cell 4
    have ql := BQ.lt
    simp at q4
    clear BQ hb2
    cases ok
    · go_wp2_with fail
      go_ret
      exact ⟨by rw [← HE.out]; rfl, hC2⟩
    · cases ex
      all_goals
        go_wp2_with fail
        go_ret
        exact ⟨by rw [← HE.out]; rfl, hC2⟩
  · go_enter Tryz.func100, Tryz.ntmps100
    go_wp2_with fail
    go_ret
    exact ⟨by rw [← HE.out]; rfl, hX⟩
end Go.Proofs.YtocfgejceoenmaaGreatDoor

namespace Go.Proofs.YtocfgejceoenmaaGreatDoor
open Go.RowKit

def taskAddG (c : CV) (t : TV) : CV × Int :=
  if clusterOk c && t.ok then
    match fstBy TV.id c.tasks t.id with
    | some _ => (CV.zero, 2)
    | none => if c.tasks.length = 30 then (CV.zero, 4) else ({ c with tasks := c.tasks ++ [t] }, 0)
  else (CV.zero, 1)
/-- The ending 'a cluster of the call's own, and a code'. -/
def RetCluI (w : World) (c : CV) (n : Int) (e : Ending) (w' : World) : Prop := ∃ a0 a1 a2 bs, e = .returned (.tuple #[.agg #[a0, a1, a2], .int .i64 n]) ∧ CluO w' c a0 a1 a2 bs ∧ (∀ b ∈ bs, w.heap.size ≤ b) ∧ Below w.heap.size w w'
theorem CluO.zero (w : World) : CluO w CV.zero (.slice none 0 0) (.slice none 0 0) (.slice none 0 0) [] :=
  ⟨[], [], [], ⟨[], [], by simpa [CV.zero] using World.ownsRow_nil _ _ _ _, ⟨rfl, rfl⟩, rfl⟩, ⟨[], [], by simpa [CV.zero] using World.ownsRow_nil _ _ _ _, ⟨rfl, rfl⟩, rfl⟩, ⟨[], [], by simpa [CV.zero] using World.ownsRow_nil _ _ _ _, ⟨rfl, rfl⟩, rfl⟩, rfl, by simp, by simp [CV.zero], by simp [CV.zero], by simp [CV.zero]⟩
theorem taskAddG_form {c : CV} {t : TV} (h : (clusterOk c && t.ok) = false) : taskAddG c t = (CV.zero, 1) := by unfold taskAddG; rw [h]; rfl
theorem taskAddG_twice {c : CV} {t x : TV} (h : (clusterOk c && t.ok) = true) (hx : fstBy TV.id c.tasks t.id = some x) : taskAddG c t = (CV.zero, 2) := by unfold taskAddG; rw [h, hx]; rfl
theorem taskAddG_full {c : CV} {t : TV} (h : (clusterOk c && t.ok) = true) (hx : fstBy TV.id c.tasks t.id = none) (hl : c.tasks.length = 30) : taskAddG c t = (CV.zero, 4) := by unfold taskAddG; rw [h, hx]; simp [hl]
theorem taskAddG_fine {c : CV} {t : TV} (h : (clusterOk c && t.ok) = true) (hx : fstBy TV.id c.tasks t.id = none) (hl : c.tasks.length ≠ 30) : taskAddG c t = ({ c with tasks := c.tasks ++ [t] }, 0) := by unfold taskAddG; rw [h, hx]; simp [hl]
end Go.Proofs.YtocfgejceoenmaaGreatDoor

namespace Go.Proofs.YtocfgejceoenmaaGreatDoor
open Go.RowKit

theorem clu_put {w : World} {g : Nat} {t : TypeId} {a b c : Value} (h : BlockIs w g t #[a, b, c]) (x y z : Value) : BlockIs (((w.setCell ⟨g, 0, none⟩ (x)).setCell ⟨g, 1, none⟩ (y)).setCell ⟨g, 2, none⟩ (z)) g t #[x, y, z] := by
  simpa using ((h.put 0 x).put 1 y).put 2 z
theorem clu_below {B : Nat} {a w : World} {g : Nat} (h : Below B a w) (hg : B ≤ g) (u v x : Value) : Below B a (((w.setCell ⟨g, 0, none⟩ (u)).setCell ⟨g, 1, none⟩ (v)).setCell ⟨g, 2, none⟩ (x)) := ((h.setCell hg _).setCell hg _).setCell hg _
theorem clusterOk_len {c : CV} (h : clusterOk c = true) : c.tasks.length ≤ 30 ∧ c.nodes.length ≤ 20 := by
  simp only [clusterOk, tasksOk, nodesOk, Bool.and_eq_true, decide_eq_true_eq] at h
  exact ⟨h.1.1.1.1, h.1.1.2.1⟩
/-- One element more at the end of a row of the call's own; then a store into block G. -/
theorem copy_push {α : Type} {R : World → α → List Value → List Nat → Prop} (hR : Framed R) (hRlt : ∀ (w : World) x cs b, R w x cs b → ∀ c ∈ b, c < w.heap.size) {ty : TypeId} {n G k off : Nat} {wr w3 w4 : World} {l : List α} {x : α} {xs cs : List Value} {bi bx : List Nat} {v v' u : Value} {o : Obj}
    (hl : l.length = k) (hown : wr.ownsRow 0 ty n v k xs) (hel : Elems R wr l xs bi) (hnd : (blk v ++ bi).Nodup) (hG1 : ∀ b ∈ blk v ++ bi, b ≠ G) (hG2 : G < wr.heap.size)
    (hb3 : Below wr.heap.size wr w3) (hO3 : R w3 x cs bx) (hnd3 : bx.Nodup) (hlo3 : ∀ b ∈ bx, wr.heap.size ≤ b)
    (hg4 : (w3.alloc o).grownBy w4 v.ownBlock) (hk4 : v'.ownBlock = v.ownBlock ∨ v'.ownBlock = some (w3.alloc o).heap.size) (hown4 : w4.ownsRow 0 ty n v' (k + 1) (xs ++ cs)) :
    ∃ bT, RowO R ty n (w4.setCell ⟨G, off, none⟩ u) v' (l ++ [x]) bT ∧ bT.Nodup ∧ ∀ b ∈ bT, b ∈ blk v ++ bi ∨ wr.heap.size ≤ b := by
  have hA : Below w3.heap.size w3 (w3.alloc o) := (Below.refl _ _).alloc (Nat.le_refl _) o
  have hz := hb3.size
  have hza := hA.size
  have hlv := own_lt hown
  have hli := elems_lt (fun x cs b h => hRlt _ x cs b h) hel
  have hlx := hRlt _ _ _ _ hO3
  have hel3 := hel.agree hR (Agree.of_below (below_of hb3 hA) hli)
  have hO3' := hR _ _ _ _ _ hO3 (Agree.of_below hA hlx)
  rw [List.nodup_append] at hnd
  obtain ⟨n1, n2, n3⟩ := hnd
  have hn : (blk v ++ (bi ++ bx)).Nodup := by
    rw [List.nodup_append, List.nodup_append]
    refine ⟨n1, ⟨n2, hnd3, fun a ha b hb e => by have := hli a ha; have := hlo3 b hb; omega⟩, fun a ha b hb e => ?_⟩
    rcases List.mem_append.1 hb with hb | hb
    · exact n3 a ha b hb e
    · have := hlv a ha; have := hlo3 b hb; omega
  obtain ⟨hr4, hnd4⟩ := pushed (ty := ty) (n := n) hR hel3 hO3' hn (by
    intro c hc
    rcases List.mem_append.1 hc with h | h
    · have := hli c h; omega
    · have := hlx c h; omega) (by intro c hc; have := hlv c hc; omega) (by rw [hl]; exact hown4) hg4 hk4
  have hlo4 : ∀ b ∈ blk v' ++ (bi ++ bx), b ∈ blk v ++ bi ∨ wr.heap.size ≤ b := by
    intro b hb
    rcases List.mem_append.1 hb with h | h
    · rcases hk4 with e | e
      · exact .inl (List.mem_append_left _ (by simpa [blk, e] using h))
      · right; simp [blk, e] at h; simp at hza; omega
    · rcases List.mem_append.1 h with h | h
      · exact .inl (List.mem_append_right _ h)
      · exact .inr (hlo3 b h)
  refine ⟨_, hr4.agree hR (fun b hb => Below.heap_setCell _ _ _ b (by
    rcases hlo4 b hb with h | h
    · exact hG1 b h
    · dsimp only; omega)), hnd4, hlo4⟩
set_option maxHeartbeats 6400000 in
set_option maxRecDepth 20000 in
theorem sTaskAdd_any (c : CV) (a0 a1 a2 : Value) (t : TV) (cs : List Value) (w : World) (hc : CluR w c a0 a1 a2) (hR : TaskR w t cs) :
    Calls Tryz.prog 13 #[.agg #[a0, a1, a2], .agg cs.toArray] w (RetCluI w (taskAddG c t).1 (taskAddG c t).2) := by
  obtain ⟨i0, hi0, hz0, hs0, hy0⟩ := info_parts Tryz.infoTask
  have hok := fun w1 h => sClusterOk_any c a0 a1 a2 w1 h
  have hix := fun w1 hw1 => sTask_any c a0 a1 a2 t.id w w1 hw1 hc
  have hcp := fun w1 h => sCopy_any c a0 a1 a2 w1 h
  obtain ⟨D0, D1, D2, e0, e1, e2, rfl, rfl, rfl, hF⟩ := hc.full
  have l0 := hF.l0
  have HC := Lib.hid hc
  have HR := Lib.hid hR
  obtain ⟨v1, v2, rfl, sl, si, m1, m2⟩ := hR
  obtain ⟨A1, c1, rfl, _⟩ := sl.form
  obtain ⟨A2, c2, rfl, _⟩ := si.form
  have hto := fun w h1 h2 => sTaskOk_any t (.slice A1 t.want.length c1) (.slice A2 t.tols.length c2) w h1 h2 m1 m2
  have SL := Lib.hid sl
  have SI := Lib.hid si
  generalize hq1 : clusterOk c = ok at hok
  generalize hq2 : t.ok = tok at hto
  generalize hq3 : idxBy TV.id c.tasks t.id = j at hix
  have HQ := Lib.hid (And.intro hq1 (And.intro hq2 hq3))
  have HOK := Lib.hid hok
  have HTO := Lib.hid hto
  have HIX := Lib.hid hix
  have HCP := Lib.hid hcp
  clear hok hto hix hcp hc hF sl si m1 m2 hq1 hq2 hq3
  go_enter Tryz.func13, Tryz.ntmps13
  go_wp2_with fail
  have hX : Below w.heap.size w (((w.alloc (.cells #[.slice D0 c.tasks.length e0, .slice D1 c.nodes.length e1, .slice D2 c.binds.length e2] 39)).alloc (.cells #[.int .i64 t.id, .int .i64 t.prio, .int .i64 t.need.c, .int .i64 t.need.m, .int .i64 t.need.p, .slice A1 t.want.length c1, .slice A2 t.tols.length c2] 46)).alloc (.cells #[.slice none 0 0, .slice none 0 0, .slice none 0 0] 39)) := (by repeat' (first | exact Below.refl _ _ | refine Below.alloc ?_ ?_ _ | refine Below.setCell ?_ ?_ _ | refine Below.drew ?_ | (apply below_step; assumption) | (simp; done) | (simp; omega) | omega))
  refine (HOK.out _ (HC.out.below hX)).mono ?_
  rintro e w1 ⟨rfl, hb1⟩
  have hC1 := below_of hX hb1
  have hz1 := hb1.size
  simp at hz1
  have BC : BlockIs w1 w.heap.size 39 #[.slice D0 c.tasks.length e0, .slice D1 c.nodes.length e1, .slice D2 c.binds.length e2] := (((BlockIs.new w _ _).alloc _).alloc _).below hb1 (by simp; omega)
  have BT : BlockIs w1 (w.heap.size + 1) 46 #[.int .i64 t.id, .int .i64 t.prio, .int .i64 t.need.c, .int .i64 t.need.m, .int .i64 t.need.p, .slice A1 t.want.length c1, .slice A2 t.tols.length c2] := (BlockIs.alloc (BlockIs.new' (by simp)) _).below hb1 (by simp)
  have BR : BlockIs w1 (w.heap.size + 1 + 1) 39 #[.slice none 0 0, .slice none 0 0, .slice none 0 0] := (BlockIs.new' (by simp)).below hb1 (by simp)
  have HBC := Lib.hid BC
  have HBT := Lib.hid BT
  have HBR := Lib.hid BR
  have r0 := BR.cell 0
  have r1 := BR.cell 1
  have r2 := BR.cell 2
  have rf := BR.frozen
  have t0 := BT.cell 0
  have t1 := BT.cell 1
  have t2 := BT.cell 2
  have t3 := BT.cell 3
  have t4 := BT.cell 4
  have t5 := BT.cell 5
  have t6 := BT.cell 6
  simp at r0 r1 r2 t0 t1 t2 t3 t4 t5 t6
  clear BC BT BR hb1 hX
  cases ok
  · go_wp2_with fail
    have hZ := clu_put HBR.out (.slice none 0 0) (.slice none 0 0) (.slice none 0 0)
    have hB := clu_below (g := w.heap.size + 1 + 1) hC1 (by omega) (.slice none 0 0) (.slice none 0 0) (.slice none 0 0)
    generalize (((w1.setCell ⟨w.heap.size + 1 + 1, 0, none⟩ (.slice none 0 0)).setCell ⟨w.heap.size + 1 + 1, 1, none⟩ (.slice none 0 0)).setCell ⟨w.heap.size + 1 + 1, 2, none⟩ (.slice none 0 0)) = V at hZ hB ⊢
    have x0 := hZ.cell 0
    have x1 := hZ.cell 1
    have x2 := hZ.cell 2
    simp at x0 x1 x2
    have hG := taskAddG_form (c := c) (t := t) (by rw [HQ.out.1]; rfl)
    exact bodyPost_ret (v := .tuple #[.agg #[.slice none 0 0, .slice none 0 0, .slice none 0 0], .int .i64 1]) (by simp [results, Tryz.results13, go_sem, x0, x1, x2]) rfl (by rw [hG]; exact ⟨_, _, _, [], rfl, CluO.zero _, by simp, hB⟩)
  go_wp2_with fail
  refine (HTO.out _ (SL.out.below hC1) (SI.out.below hC1)).mono ?_
  rintro e w2 ⟨rfl, hb2⟩
  have hC2 := below_of hC1 hb2
  have hz2 := hb2.size
  have BC := HBC.out.below hb2 HBC.out.lt
  have BT := HBT.out.below hb2 HBT.out.lt
  have BR := HBR.out.below hb2 HBR.out.lt
  have HBC2 := Lib.hid BC
  have HBT2 := Lib.hid BT
  have HBR2 := Lib.hid BR
  have r0 := BR.cell 0
  have r1 := BR.cell 1
  have r2 := BR.cell 2
  have rf := BR.frozen
  have t0 := BT.cell 0
  have g0 := BC.cell 0
  have g1 := BC.cell 1
  have g2 := BC.cell 2
  simp at r0 r1 r2 t0 g0 g1 g2
  clear BC BT BR hb2 HBC HBT HBR t1 t2 t3 t4 t5 t6
  cases tok
  · go_wp2_with fail
    have hZ := clu_put HBR2.out (.slice none 0 0) (.slice none 0 0) (.slice none 0 0)
    have hB := clu_below (g := w.heap.size + 1 + 1) hC2 (by omega) (.slice none 0 0) (.slice none 0 0) (.slice none 0 0)
    generalize (((w2.setCell ⟨w.heap.size + 1 + 1, 0, none⟩ (.slice none 0 0)).setCell ⟨w.heap.size + 1 + 1, 1, none⟩ (.slice none 0 0)).setCell ⟨w.heap.size + 1 + 1, 2, none⟩ (.slice none 0 0)) = V at hZ hB ⊢
    have x0 := hZ.cell 0
    have x1 := hZ.cell 1
    have x2 := hZ.cell 2
    simp at x0 x1 x2
    have hG := taskAddG_form (c := c) (t := t) (by rw [HQ.out.2.1]; simp)
    exact bodyPost_ret (v := .tuple #[.agg #[.slice none 0 0, .slice none 0 0, .slice none 0 0], .int .i64 1]) (by simp [results, Tryz.results13, go_sem, x0, x1, x2]) rfl (by rw [hG]; exact ⟨_, _, _, [], rfl, CluO.zero _, by simp, hB⟩)
  have HOK2 := Lib.hid (show (clusterOk c && t.ok) = true by rw [HQ.out.1, HQ.out.2.1]; rfl)
  go_wp2_with fail
  refine (HIX.out _ hC2).mono ?_
  rintro e w3 ⟨rfl, hb3⟩
  have hC3 := below_of hC2 hb3
  have hz3 := hb3.size
  have BC := HBC2.out.below hb3 HBC2.out.lt
  have BT := HBT2.out.below hb3 HBT2.out.lt
  have BR := HBR2.out.below hb3 HBR2.out.lt
  have HBC3 := Lib.hid BC
  have HBT3 := Lib.hid BT
  have HBR3 := Lib.hid BR
  have r0 := BR.cell 0
  have r1 := BR.cell 1
  have r2 := BR.cell 2
  have rf := BR.frozen
  have g0 := BC.cell 0
  have g1 := BC.cell 1
  have g2 := BC.cell 2
  simp at r0 r1 r2 g0 g1 g2
  clear BC BT BR hb3 HBC2 HBT2 HBR2 t0
  cases hf : fstBy TV.id c.tasks t.id with
  | some x =>
    obtain ⟨jn, hj, hjt, hkz, hmn⟩ := idxBy_some hf
    obtain rfl : j = (jn : Int) := by rw [← HQ.out.2.2, hj]
    have HFF := Lib.hid hf
    clear hkz hmn hj hjt hf
    have hnn : (0 : Int) ≤ (jn : Int) := by omega
    go_wp2_with fail
    have hZ := clu_put HBR3.out (.slice none 0 0) (.slice none 0 0) (.slice none 0 0)
    have hB := clu_below (g := w.heap.size + 1 + 1) hC3 (by omega) (.slice none 0 0) (.slice none 0 0) (.slice none 0 0)
    generalize (((w3.setCell ⟨w.heap.size + 1 + 1, 0, none⟩ (.slice none 0 0)).setCell ⟨w.heap.size + 1 + 1, 1, none⟩ (.slice none 0 0)).setCell ⟨w.heap.size + 1 + 1, 2, none⟩ (.slice none 0 0)) = V at hZ hB ⊢
    have x0 := hZ.cell 0
    have x1 := hZ.cell 1
    have x2 := hZ.cell 2
    simp at x0 x1 x2
    have hG := taskAddG_twice HOK2.out HFF.out
    exact bodyPost_ret (v := .tuple #[.agg #[.slice none 0 0, .slice none 0 0, .slice none 0 0], .int .i64 2]) (by simp [results, Tryz.results13, go_sem, x0, x1, x2]) rfl (by rw [hG]; exact ⟨_, _, _, [], rfl, CluO.zero _, by simp, hB⟩)
  | none =>
    obtain rfl : j = -1 := by rw [← HQ.out.2.2]; exact idxBy_none hf
    have HFF := Lib.hid hf
    clear hf
    by_cases h30 : c.tasks.length = 30
    · have H30 := Lib.hid h30
      have h30' : ((c.tasks.length : Int) == 30) = true := by rw [h30]; rfl
      clear h30
      go_wp2_with fail
      have hZ := clu_put HBR3.out (.slice none 0 0) (.slice none 0 0) (.slice none 0 0)
      have hB := clu_below (g := w.heap.size + 1 + 1) hC3 (by omega) (.slice none 0 0) (.slice none 0 0) (.slice none 0 0)
      generalize (((w3.setCell ⟨w.heap.size + 1 + 1, 0, none⟩ (.slice none 0 0)).setCell ⟨w.heap.size + 1 + 1, 1, none⟩ (.slice none 0 0)).setCell ⟨w.heap.size + 1 + 1, 2, none⟩ (.slice none 0 0)) = V at hZ hB ⊢
      have x0 := hZ.cell 0
      have x1 := hZ.cell 1
      have x2 := hZ.cell 2
      simp at x0 x1 x2
      have hG := taskAddG_full HOK2.out HFF.out H30.out
      exact bodyPost_ret (v := .tuple #[.agg #[.slice none 0 0, .slice none 0 0, .slice none 0 0], .int .i64 4]) (by simp [results, Tryz.results13, go_sem, x0, x1, x2]) rfl (by rw [hG]; exact ⟨_, _, _, [], rfl, CluO.zero _, by simp, hB⟩)
    · have H30 := Lib.hid h30
      have h30' : ((c.tasks.length : Int) == 30) = false := by simp; omega
      clear h30
      go_wp2_with fail
      refine (HCP.out _ (HC.out.below hC3)).mono ?_
      rintro e w4 ⟨b0, b1, b2, bs, rfl, hCO, hlo, hb4⟩
      obtain ⟨bT, bN, bB, hrT, hrN, hrB, rfl, hnd, _, ln, lb⟩ := hCO
      have hC4 := below_of hC3 hb4
      have hz4 := hb4.size
      have hltT := rowO_lt (fun _ _ _ h => h.lt) hrT
      have hltN := rowO_lt (fun _ _ _ h => h.lt) hrN
      have hltB := rowO_lt (fun _ _ _ h => h.lt) hrB
      obtain ⟨xN, yN, oN, eN, rfl⟩ := hrN
      obtain ⟨FN, fN, rfl, _⟩ := own_form oN
      obtain ⟨xB, yB, oB, eB, rfl⟩ := hrB
      obtain ⟨FB, fB, rfl, _⟩ := own_form oB
      obtain ⟨xs, bi, hown, hel, rfl⟩ := hrT
      obtain ⟨F, f, rfl, _⟩ := own_form hown
      have hY : Below w4.heap.size w4 (w4.alloc (.cells #[.slice F c.tasks.length f, .slice FN c.nodes.length fN, .slice FB c.binds.length fB] 39)) := (by repeat' (first | exact Below.refl _ _ | refine Below.alloc ?_ ?_ _ | refine Below.setCell ?_ ?_ _ | refine Below.drew ?_ | (apply below_step; assumption) | (simp; done) | (simp; omega) | omega))
      have BO : BlockIs (w4.alloc (.cells #[.slice F c.tasks.length f, .slice FN c.nodes.length fN, .slice FB c.binds.length fB] 39)) w4.heap.size 39 #[.slice F c.tasks.length f, .slice FN c.nodes.length fN, .slice FB c.binds.length fB] := BlockIs.new _ _ _
      have BT := (HBT3.out.below hb4 HBT3.out.lt).alloc (.cells #[.slice F c.tasks.length f, .slice FN c.nodes.length fN, .slice FB c.binds.length fB] 39)
      have BR := (HBR3.out.below hb4 HBR3.out.lt).alloc (.cells #[.slice F c.tasks.length f, .slice FN c.nodes.length fN, .slice FB c.binds.length fB] 39)
      have hYz : w4.heap.size < (w4.alloc (.cells #[.slice F c.tasks.length f, .slice FN c.nodes.length fN, .slice FB c.binds.length fB] 39)).heap.size := by simp
      have hCY := below_of hC4 hY
      have HTH := Lib.hid (And.intro (own_agree hown (Agree.of_below hY (own_lt hown))) (hel.agree TaskO.framed (Agree.of_below hY (elems_lt (fun _ _ _ h => h.lt) hel))))
      have HNB := Lib.hid (And.intro (show RowO NodeO 60 8 w4 (.slice FN c.nodes.length fN) c.nodes _ from ⟨xN, yN, oN, eN, rfl⟩) (show RowO BindO 70 2 w4 (.slice FB c.binds.length fB) c.binds _ from ⟨xB, yB, oB, eB, rfl⟩))
      have HND := Lib.hid hnd
      have HLO := Lib.hid hlo
      have HLT := Lib.hid (And.intro hltT (And.intro hltN hltB))
      go_wp2_with fail
      generalize w4.alloc (.cells #[.slice F c.tasks.length f, .slice FN c.nodes.length fN, .slice FB c.binds.length fB] 39) = Y at hY BO BT BR hYz hCY HTH ⊢
      have o0 := BO.cell 0
      have t0 := BT.cell 0
      have t1 := BT.cell 1
      have t2 := BT.cell 2
      have t3 := BT.cell 3
      have t4 := BT.cell 4
      have t5 := BT.cell 5
      have t6 := BT.cell 6
      simp at o0 t0 t1 t2 t3 t4 t5 t6
      have HBO := Lib.hid BO
      have HBRY := Lib.hid BR
      have hTl := BT.lt
      have HRY := Lib.hid (TaskR.kept _ _ _ _ hCY HR.out)
      have hlen : c.tasks.length ≤ 30 := (clusterOk_len HQ.out.1).1
      clear hown hel oN eN oB eB hnd hlo hltT hltN hltB BO BT BR r0 r1 r2 rf g0 g1 g2
      go_region_law
        (first
          | (go_simp; go_at_call 50; refine (sCopyTask_any t _ _ (TaskR.kept _ _ _ _ (by repeat' (first | exact Below.refl _ _ | refine Below.alloc ?_ ?_ _ | refine Below.setCell ?_ ?_ _ | refine Below.drew ?_ | (apply below_step; assumption) | (simp; done) | (simp; omega) | omega)) HRY.out)).mono ?_; rintro e w5 ⟨ds, bx, rfl, hO5, hnd5, hlo5, hb5⟩; have hz5 := hb5.size; (try simp at hz5); have o5 := (hb5.cell (p := ⟨w4.heap.size, 0, none⟩) (by simpa using hYz)).trans o0; have hG5 : w4.heap.size < w5.heap.size := (by omega); have HO5 := Lib.hid (And.intro hO5 (And.intro hnd5 hlo5)); obtain ⟨y1, y2, hdse, hy1, hy2, _, _, _⟩ := hO5; obtain ⟨F1, f1, rfl, _⟩ := own_form hy1; obtain ⟨F2, f2, rfl, _⟩ := own_form hy2; subst hdse; clear hnd5 hlo5 hy1 hy2)
          | (refine step_spread_if _ (by rfl) (.tmp 33) (.tmp 36) 35 (by rfl) 46 i0 _ 7 88 Tryz.underlying35 hi0 hz0 hs0 hy0 (by rfl) (by omega) (.slice F c.tasks.length f) c.tasks.length xs (by rfl) (own_agree HTH.out.1 (Agree.of_below (B := Y.heap.size) (by repeat' (first | exact Below.refl _ _ | refine Below.alloc ?_ ?_ _ | refine Below.setCell ?_ ?_ _ | refine Below.drew ?_ | (apply below_step; assumption) | (simp; done) | (simp; omega) | omega)) (own_lt HTH.out.1))) (some ⟨w5.heap.size, 0, none⟩) 1 1 [.int .i64 t.id, .int .i64 t.prio, .int .i64 t.need.c, .int .i64 t.need.m, .int .i64 t.need.p, .slice F1 t.want.length f1, .slice F2 t.tols.length f2] (by rfl) (by rfl) (fun _ => ⟨_, 0, rfl, CellsAt.of_block (BlockIs.new w5 _ #[.int .i64 t.id, .int .i64 t.prio, .int .i64 t.need.c, .int .i64 t.need.m, .int .i64 t.need.p, .slice F1 t.want.length f1, .slice F2 t.tols.length f2]) (fun j u hu => by rw [Nat.zero_add]; simpa using hu)⟩) (by intro u hu; simp at hu; rcases hu with rfl | rfl | rfl | rfl | rfl | rfl | rfl <;> rfl) (by unfold maxLen; omega) (by omega) ?_; intro v' w6 hown6 hg6 hk6; obtain ⟨F6, f6, rfl, _⟩ := own_form hown6; have hrow : ∀ q, (Value.slice F c.tasks.length f).ownBlock = some q → w3.heap.size ≤ q ∧ q < w4.heap.size := (fun q hq => ⟨HLO.out q (List.mem_append_left _ (List.mem_append_left _ (by simp [blk, hq]))), HLT.out.1 q (List.mem_append_left _ (by simp [blk, hq]))⟩); have hbYw : Below Y.heap.size Y (w5.alloc (.cells #[.int .i64 t.id, .int .i64 t.prio, .int .i64 t.need.c, .int .i64 t.need.m, .int .i64 t.need.p, .slice F1 t.want.length f1, .slice F2 t.tols.length f2] 46)) := (by repeat' (first | exact Below.refl _ _ | refine Below.alloc ?_ ?_ _ | refine Below.setCell ?_ ?_ _ | refine Below.drew ?_ | (apply below_step; assumption) | (simp; done) | (simp; omega) | omega)); have BO6 : BlockIs w6 w4.heap.size 39 #[.slice F c.tasks.length f, .slice FN c.nodes.length fN, .slice FB c.binds.length fB] := (hg6.block w4.heap.size (by simp; omega) (fun e => by have := (hrow _ e.symm).2; omega)).trans (HBO.out.below hbYw hYz); have BR6 : BlockIs w6 (w.heap.size + 1 + 1) 39 #[.slice none 0 0, .slice none 0 0, .slice none 0 0] := (hg6.block (w.heap.size + 1 + 1) (by simp; omega) (fun e => by have := (hrow _ e.symm).1; omega)).trans (HBRY.out.below hbYw HBRY.out.lt); have o6 := BO6.cell 0; have p6 := BO6.cell 1; have q6 := BO6.cell 2; have of6 := BO6.frozen; have r0 := BR6.cell 0; have r1 := BR6.cell 1; have r2 := BR6.cell 2; have rf := BR6.frozen; simp at o6 p6 q6 r0 r1 r2; have HG6 := Lib.hid (And.intro hg6 (And.intro hk6 (And.intro hown6 (And.intro BO6 (And.intro BR6 (And.intro hrow hbYw)))))); have hne6 : w4.heap.size ≠ w.heap.size + 1 + 1 := (by omega); clear hg6 hk6 hown6 BO6 BR6 hrow hbYw))
      all_goals
        go_wp2_with fail
        obtain ⟨hO5, hnd5, hlo5⟩ := HO5.out
        obtain ⟨hg6, hk6, hown6, BO6, BR6, hrow, hbYw⟩ := HG6.out
        have hbY5 : Below Y.heap.size Y w5 := (by repeat' (first | exact Below.refl _ _ | refine Below.alloc ?_ ?_ _ | refine Below.setCell ?_ ?_ _ | refine Below.drew ?_ | (apply below_step; assumption) | (simp; done) | (simp; omega) | omega))
        have hnd := HND.out
        rw [List.nodup_append] at hnd
        obtain ⟨nT, nNB, nX⟩ := hnd
        obtain ⟨hltT, hltN, hltB⟩ := HLT.out
        obtain ⟨bT', r1, r2, r3⟩ := copy_push (G := w4.heap.size) (off := 0) (u := .slice F6 (c.tasks.length + 1) f6) TaskO.framed (fun _ _ _ _ h => h.lt) rfl HTH.out.1 HTH.out.2 nT (fun b hb => by have := hltT b hb; omega) hYz hbY5 hO5 hnd5 (by simpa using hlo5) hg6 hk6 hown6
        have AG : ∀ b, b < w4.heap.size → some b ≠ (Value.slice F c.tasks.length f).ownBlock → (w6.setCell ⟨w4.heap.size, 0, none⟩ (.slice F6 (c.tasks.length + 1) f6)).heap[b]? = w4.heap[b]? := fun b hb hne => by
          rw [Below.heap_setCell _ _ _ b (by dsimp only; omega), hg6.block b (by simp; omega) hne, hbYw.block b (by omega)]
          exact hY.block b hb
        have hne : ∀ b ∈ (blk (.slice FN c.nodes.length fN) ++ yN) ++ (blk (.slice FB c.binds.length fB) ++ yB), some b ≠ (Value.slice F c.tasks.length f).ownBlock := fun b hb e => nX b (List.mem_append_left _ (by simp [blk, ← e])) b hb rfl
        have hCO : CluO (w6.setCell ⟨w4.heap.size, 0, none⟩ (.slice F6 (c.tasks.length + 1) f6)) { c with tasks := c.tasks ++ [t] } (.slice F6 (c.tasks.length + 1) f6) (.slice FN c.nodes.length fN) (.slice FB c.binds.length fB) (bT' ++ ((blk (.slice FN c.nodes.length fN) ++ yN) ++ (blk (.slice FB c.binds.length fB) ++ yB))) := by
          refine ⟨_, _, _, r1, HNB.out.1.agree NodeO.framed (fun b hb => AG b (hltN b hb) (hne b (List.mem_append_left _ hb))), HNB.out.2.agree BindO.framed (fun b hb => AG b (hltB b hb) (hne b (List.mem_append_right _ hb))), rfl, ?_, by simp; omega, ln, lb⟩
          rw [List.nodup_append]
          refine ⟨r2, nNB, fun a ha b hb e => ?_⟩
          have hb4' : b < w4.heap.size := by
            rcases List.mem_append.1 hb with h | h
            · exact hltN b h
            · exact hltB b h
          rcases r3 a ha with h | h
          · exact nX a h b hb e
          · omega
        have hlo' : ∀ b ∈ bT' ++ ((blk (.slice FN c.nodes.length fN) ++ yN) ++ (blk (.slice FB c.binds.length fB) ++ yB)), w3.heap.size ≤ b := by
          intro b hb
          rcases List.mem_append.1 hb with h | h
          · rcases r3 b h with h | h
            · exact HLO.out b (List.mem_append_left _ h)
            · omega
          · exact HLO.out b (List.mem_append_right _ h)
        have hZ := clu_put (BR6.far (p := ⟨w4.heap.size, 0, none⟩) (by dsimp only; omega) (.slice F6 (c.tasks.length + 1) f6)) (.slice F6 (c.tasks.length + 1) f6) (.slice FN c.nodes.length fN) (.slice FB c.binds.length fB)
        have hA := hCO.agree (w' := ((((w6.setCell ⟨w4.heap.size, 0, none⟩ (.slice F6 (c.tasks.length + 1) f6)).setCell ⟨w.heap.size + 1 + 1, 0, none⟩ (.slice F6 (c.tasks.length + 1) f6)).setCell ⟨w.heap.size + 1 + 1, 1, none⟩ (.slice FN c.nodes.length fN)).setCell ⟨w.heap.size + 1 + 1, 2, none⟩ (.slice FB c.binds.length fB))) (fun b hb => putAll_block (o := 0) (ds := [.slice F6 (c.tasks.length + 1) f6, .slice FN c.nodes.length fN, .slice FB c.binds.length fB]) (by have := hlo' b hb; omega))
        have hB6 : Below w.heap.size w w6 := (hCY.trans (hbYw.mono (by omega))).grown hg6 (by simp; omega) (fun k hk => by have := (hrow k hk).1; omega)
        have hB := clu_below (g := w.heap.size + 1 + 1) (hB6.setCell (p := ⟨w4.heap.size, 0, none⟩) (by dsimp only; omega) (.slice F6 (c.tasks.length + 1) f6)) (by omega) (.slice F6 (c.tasks.length + 1) f6) (.slice FN c.nodes.length fN) (.slice FB c.binds.length fB)
        generalize ((((w6.setCell ⟨w4.heap.size, 0, none⟩ (.slice F6 (c.tasks.length + 1) f6)).setCell ⟨w.heap.size + 1 + 1, 0, none⟩ (.slice F6 (c.tasks.length + 1) f6)).setCell ⟨w.heap.size + 1 + 1, 1, none⟩ (.slice FN c.nodes.length fN)).setCell ⟨w.heap.size + 1 + 1, 2, none⟩ (.slice FB c.binds.length fB)) = V at hZ hA hB ⊢
        have x0 := hZ.cell 0
        have x1 := hZ.cell 1
        have x2 := hZ.cell 2
        simp at x0 x1 x2
        have hG := taskAddG_fine HOK2.out HFF.out H30.out
        exact bodyPost_ret (v := .tuple #[.agg #[.slice F6 (c.tasks.length + 1) f6, .slice FN c.nodes.length fN, .slice FB c.binds.length fB], .int .i64 0]) (by simp [results, Tryz.results13, go_sem, x0, x1, x2]) rfl (by rw [hG]; exact ⟨_, _, _, _, rfl, hA, fun b hb => by have := hlo' b hb; omega, hB⟩)
end Go.Proofs.YtocfgejceoenmaaGreatDoor

namespace Go.Proofs.YtocfgejceoenmaaGreatDoor

/-- Without the elements of a key. -/
def dropBy {α : Type} (key : α → Int) (z : Int) (l : List α) : List α := l.filter fun x => !decide (key x = z)
def cordonOn (z : Int) (on : Bool) (l : List NV) : List NV := l.map fun n => if n.id = z then { n with cordon := on } else n
def needG (c : CV) (some : Bool) (r : CV) : CV × Int := if clusterOk c then (if some then (r, 0) else (CV.zero, 3)) else (CV.zero, 1)
def taskDropG (c : CV) (z : Int) : CV × Int := needG c (fstBy TV.id c.tasks z).isSome { c with tasks := dropBy TV.id z c.tasks, binds := dropBy BV.task z c.binds }
def nodeDropG (c : CV) (z : Int) : CV × Int := needG c (fstBy NV.id c.nodes z).isSome { c with nodes := dropBy NV.id z c.nodes, binds := dropBy BV.node z c.binds }
def bindDropG (c : CV) (z : Int) : CV × Int := needG c (fstBy BV.task c.binds z).isSome { c with binds := dropBy BV.task z c.binds }
def cordonG (c : CV) (z : Int) (on : Bool) : CV × Int := needG c (fstBy NV.id c.nodes z).isSome { c with nodes := cordonOn z on c.nodes }
theorem needG_form {c r : CV} {s : Bool} (h : clusterOk c = false) : needG c s r = (CV.zero, 1) := by unfold needG; rw [h]; rfl
theorem needG_none {c r : CV} (h : clusterOk c = true) : needG c false r = (CV.zero, 3) := by unfold needG; rw [h]; rfl
theorem needG_fine {c r : CV} (h : clusterOk c = true) : needG c true r = (r, 0) := by unfold needG; rw [h]; rfl
theorem needG_zero {c r : CV} {s : Bool} (h : (needG c s r).2 ≠ 0) : (needG c s r).1 = CV.zero := by
  cases hk : clusterOk c
  · rw [needG_form hk]
  · cases s
    · rw [needG_none hk]
    · rw [needG_fine hk] at h; exact absurd rfl h

section
variable {α : Type} {key : α → Int} {z : Int} {l : List α}
theorem dropBy_le : (dropBy key z l).length ≤ l.length := List.length_filter_le _ _
theorem dropBy_none (h : ∀ x ∈ l, key x ≠ z) : dropBy key z l = l := List.filter_eq_self.2 (fun x hx => by simp [h x hx])
/-- Where the keys are distinct one element goes. -/
theorem dropBy_one {j : Nat} {x : α} (hx : l[j]? = some x) (hk : key x = z) (hd : (l.map key).Nodup) : l.take j ++ l.drop (j + 1) = dropBy key z l := by
  induction l generalizing j with
  | nil => simp at hx
  | cons y r ih =>
    rw [List.map_cons, List.nodup_cons] at hd
    cases j with
    | zero =>
      simp at hx; subst hx
      have : ∀ a ∈ r, key a ≠ z := fun a ha e => hd.1 (List.mem_map.2 ⟨a, ha, by rw [e, hk]⟩)
      have h2 := dropBy_none this
      unfold dropBy at h2 ⊢
      simp [hk, h2]
    | succ j =>
      simp at hx
      have hne : key y ≠ z := fun e => hd.1 (List.mem_map.2 ⟨x, List.mem_of_getElem? hx, by rw [hk, e]⟩)
      have h2 := ih hx hd.2
      unfold dropBy at h2 ⊢
      simp [hne, h2]
end
theorem tasksFrom_nodup {s : List Int} {l : List TV} (h : tasksFrom s l = true) : (l.map TV.id).Nodup ∧ ∀ t ∈ l, t.id ∉ s := by
  induction l generalizing s with
  | nil => simp
  | cons t r ih =>
    simp only [tasksFrom, Bool.and_eq_true, Bool.not_eq_true', List.contains_eq_mem, decide_eq_false_iff_not] at h
    obtain ⟨⟨_, h2⟩, h3⟩ := h
    obtain ⟨a, b⟩ := ih h3
    refine ⟨?_, ?_⟩
    · rw [List.map_cons, List.nodup_cons]
      refine ⟨fun hm => ?_, a⟩
      obtain ⟨y, hy, e⟩ := List.mem_map.1 hm
      exact b y hy (by rw [e]; simp)
    · intro x hx
      rcases List.mem_cons.1 hx with rfl | hx
      · exact h2
      · exact fun hs => b x hx (by simp [hs])
theorem nodesFrom_nodup {p : Int} {l : List NV} (h : nodesFrom p l = true) : (l.map NV.id).Nodup ∧ ∀ t ∈ l, p < t.id := by
  induction l generalizing p with
  | nil => simp
  | cons t r ih =>
    simp only [nodesFrom, Bool.and_eq_true, decide_eq_true_eq] at h
    obtain ⟨⟨_, h2⟩, h3⟩ := h
    obtain ⟨a, b⟩ := ih h3
    refine ⟨?_, ?_⟩
    · rw [List.map_cons, List.nodup_cons]
      refine ⟨fun hm => ?_, a⟩
      obtain ⟨y, hy, e⟩ := List.mem_map.1 hm
      have := b y hy; omega
    · intro x hx
      rcases List.mem_cons.1 hx with rfl | hx
      · exact h2
      · have := b x hx; omega
theorem bindsFrom_mem {c : CV} {p : Int} {l : List BV} (h : bindsFrom c p l = true) : ∀ b ∈ l, p < b.task ∧ bindOk c b = true := by
  induction l generalizing p with
  | nil => simp
  | cons t r ih =>
    simp only [bindsFrom, Bool.and_eq_true, decide_eq_true_eq] at h
    obtain ⟨⟨h1, h2⟩, h3⟩ := h
    intro x hx
    rcases List.mem_cons.1 hx with rfl | hx
    · exact ⟨h1, h2⟩
    · have := ih h3 x hx; exact ⟨by omega, this.2⟩
theorem clusterOk_parts {c : CV} (h : clusterOk c = true) : (c.tasks.map TV.id).Nodup ∧ (c.nodes.map NV.id).Nodup ∧ ∀ b ∈ c.binds, 0 < b.task ∧ 0 < b.node := by
  simp only [clusterOk, tasksOk, nodesOk, Bool.and_eq_true] at h
  refine ⟨(tasksFrom_nodup h.1.1.1.2).1, (nodesFrom_nodup h.1.1.2.2).1, fun b hb => ?_⟩
  obtain ⟨h1, h2⟩ := bindsFrom_mem h.1.2 b hb
  refine ⟨h1, ?_⟩
  unfold bindOk at h2
  split at h2
  · rename_i t n ht hn
    have := (nodesFrom_nodup h.1.1.2.2).2 n (fstBy_mem hn)
    rw [fstBy_key hn] at this; exact this
  · cases h2
/-- The model's way: neither the task nor the node. -/
def unbound (t n : Int) (l : List BV) : List BV := l.filter fun b => !decide (b.task = t) && !decide (b.node = n)
theorem unbound_task {t : Int} {l : List BV} (h : ∀ b ∈ l, 0 < b.task ∧ 0 < b.node) : unbound t 0 l = dropBy BV.task t l := by
  unfold unbound dropBy
  exact List.filter_congr (fun b hb => by have := (h b hb).2; have hne : b.node ≠ 0 := (by omega); simp [hne])
theorem unbound_node {n : Int} {l : List BV} (h : ∀ b ∈ l, 0 < b.task ∧ 0 < b.node) : unbound 0 n l = dropBy BV.node n l := by
  unfold unbound dropBy
  exact List.filter_congr (fun b hb => by have := (h b hb).1; have hne : b.task ≠ 0 := (by omega); simp [hne])
/-- With distinct Ids setting the flag at one place is setting it at the Id. -/
theorem cordon_at {l : List NV} {z : Int} {on : Bool} {j : Nat} {x : NV} (hx : l[j]? = some x) (hk : x.id = z) (hd : (l.map NV.id).Nodup) : l.take j ++ ({ x with cordon := on } :: l.drop (j + 1)) = cordonOn z on l := by
  induction l generalizing j with
  | nil => simp at hx
  | cons y r ih =>
    rw [List.map_cons, List.nodup_cons] at hd
    cases j with
    | zero =>
      simp at hx; subst hx
      have : r.map (fun n => if n.id = z then { n with cordon := on } else n) = r := by
        refine (List.map_congr_left (fun a ha => ?_)).trans (List.map_id r)
        have : a.id ≠ z := fun e => hd.1 (List.mem_map.2 ⟨a, ha, by rw [e, hk]⟩)
        simp [this]
      simp [cordonOn, hk, this]
    | succ j =>
      simp at hx
      have hne : y.id ≠ z := fun e => hd.1 (List.mem_map.2 ⟨x, List.mem_of_getElem? hx, by rw [hk, e]⟩)
      have h2 := ih hx hd.2
      unfold cordonOn at h2 ⊢
      simp [hne, h2]
end Go.Proofs.YtocfgejceoenmaaGreatDoor

namespace Go.Proofs.YtocfgejceoenmaaGreatDoor
open Go.RowKit

/-- A cluster of the call's own and an error. -/
def RetCluE (w : World) (c : CV) (n : Int) (e : Ending) (w' : World) : Prop := ∃ a0 a1 a2 bs, e = .returned (.tuple #[.agg #[a0, a1, a2], errV n]) ∧ CluO w' c a0 a1 a2 bs ∧ (∀ b ∈ bs, w.heap.size ≤ b) ∧ Below w.heap.size w w'
theorem answer_any (c : CV) (n : Int) (a0 a1 a2 : Value) (bs : List Nat) (w : World) (h : CluO w c a0 a1 a2 bs) (hn : n ≠ 0 → c = CV.zero) (hT : TypAt w) :
    Calls Tryz.prog 57 #[.agg #[a0, a1, a2], errV n] w fun e w' => ∃ b0 b1 b2 ds, e = .returned (.tuple #[.agg #[b0, b1, b2], .int .i64 n]) ∧ CluO w' c b0 b1 b2 ds ∧ (∀ b ∈ ds, b ∈ bs) ∧ Below w.heap.size w w' := by
  have hlt : ∀ b ∈ bs, b < w.heap.size := by
    obtain ⟨b0, b1, b2, h0, h1, h2, rfl, _⟩ := h
    intro b hb
    rcases List.mem_append.1 hb with hb | hb
    · exact rowO_lt (fun _ _ _ h => h.lt) h0 b hb
    · rcases List.mem_append.1 hb with hb | hb
      · exact rowO_lt (fun _ _ _ h => h.lt) h1 b hb
      · exact rowO_lt (fun _ _ _ h => h.lt) h2 b hb
  obtain ⟨D0, D1, D2, e0, e1, e2, rfl, rfl, rfl, _⟩ := h.clu.full
  by_cases hz : n = 0
  · subst hz
    refine (answer_nil D0 D1 D2 _ _ _ e0 e1 e2 w).mono ?_
    rintro e w' ⟨rfl, hb⟩
    exact ⟨_, _, _, bs, rfl, h.agree (Agree.of_below hb hlt), fun _ hb => hb, hb⟩
  · rw [errV_ne hz]
    refine (answer_rej D0 D1 D2 _ _ _ e0 e1 e2 n w hT).mono ?_
    rintro e w' ⟨rfl, hb⟩
    rw [hn hz]
    exact ⟨_, _, _, [], rfl, CluO.zero _, by simp, hb⟩
theorem taskAddG_zero {c : CV} {t : TV} (h : (taskAddG c t).2 ≠ 0) : (taskAddG c t).1 = CV.zero := by
  cases hk : (clusterOk c && t.ok)
  · rw [taskAddG_form hk]
  · cases hf : fstBy TV.id c.tasks t.id with
    | some x => rw [taskAddG_twice hk hf]
    | none =>
      by_cases h30 : c.tasks.length = 30
      · rw [taskAddG_full hk hf h30]
      · rw [taskAddG_fine hk hf h30] at h; exact absurd rfl h
set_option maxHeartbeats 3200000 in
/-- TaskAdd, by what withTask gives. -/
theorem TaskAdd_of (c : CV) (a0 a1 a2 : Value) (t : TV) (cs : List Value) (w : World) (hT : TypAt w) (hc : CluR w c a0 a1 a2) (hR : TaskR w t cs)
    (hw : ∀ w1, Below w.heap.size w w1 → Calls Tryz.prog 58 #[.agg #[a0, a1, a2], .agg cs.toArray] w1 (RetCluE w1 (taskAddG c t).1 (taskAddG c t).2)) :
    Calls Tryz.prog 16 #[.agg #[a0, a1, a2], .agg cs.toArray] w (RetCluI w (taskAddG c t).1 (taskAddG c t).2) := by
  have hzz := @taskAddG_zero c t
  obtain ⟨D0, D1, D2, e0, e1, e2, rfl, rfl, rfl, _⟩ := hc.full
  obtain ⟨v1, v2, rfl, sl, si, _, _⟩ := hR
  obtain ⟨A1, c1, rfl, _⟩ := sl.form
  obtain ⟨A2, c2, rfl, _⟩ := si.form
  generalize (taskAddG c t).1 = r at hw hzz ⊢
  generalize (taskAddG c t).2 = n at hw hzz ⊢
  have HW := Lib.hid hw
  have HZ := Lib.hid hzz
  have HT := Lib.hid hT
  clear hw hzz hT sl si hc
  go_enter Tryz.func16, Tryz.ntmps16
  go_wp2_with fail
  have hX : Below w.heap.size w (((w.alloc (.cells #[.slice D0 c.tasks.length e0, .slice D1 c.nodes.length e1, .slice D2 c.binds.length e2] 39)).alloc (.cells #[.int .i64 t.id, .int .i64 t.prio, .int .i64 t.need.c, .int .i64 t.need.m, .int .i64 t.need.p, .slice A1 t.want.length c1, .slice A2 t.tols.length c2] 46)).alloc (.cells #[.slice none 0 0, .slice none 0 0, .slice none 0 0] 39)) := (by repeat' (first | exact Below.refl _ _ | refine Below.alloc ?_ ?_ _ | refine Below.setCell ?_ ?_ _ | refine Below.drew ?_ | (apply below_step; assumption) | (simp; done) | (simp; omega) | omega))
  refine (HW.out _ hX).mono ?_
  rintro e w1 ⟨b0, b1, b2, bs, rfl, hCO, hlo, hb1⟩
  have hC1 := below_of hX hb1
  have hz1 := hb1.size
  simp at hz1
  have BR : BlockIs w1 (w.heap.size + 1 + 1) 39 #[.slice none 0 0, .slice none 0 0, .slice none 0 0] := (BlockIs.new' (by simp)).below hb1 (by simp)
  have hlo' : ∀ b ∈ bs, w.heap.size + 3 ≤ b := fun b hb => by have := hlo b hb; simpa using this
  have HCO := Lib.hid (And.intro hCO hlo')
  have HBR := Lib.hid BR
  clear hb1 hX BR hlo hlo' hCO
  go_wp2_with fail
  refine (answer_any r n b0 b1 b2 bs w1 HCO.out.1 HZ.out (HT.out.below hC1 (Nat.le_refl _))).mono ?_
  rintro e w2 ⟨f0, f1, f2, ds, rfl, hCO2, hds, hb2⟩
  obtain ⟨F0, F1, F2, g0, g1, g2, rfl, rfl, rfl, _⟩ := hCO2.clu.full
  have hC2 := below_of hC1 hb2
  have BR := HBR.out.below hb2 HBR.out.lt
  have r0 := BR.cell 0
  have r1 := BR.cell 1
  have r2 := BR.cell 2
  have rf := BR.frozen
  simp at r0 r1 r2
  have HBR2 := Lib.hid BR
  have HCO2 := Lib.hid (And.intro hCO2 hds)
  clear BR hb2 hCO2 hds
  go_wp2_with fail
  have hZ := clu_put HBR2.out (.slice F0 r.tasks.length g0) (.slice F1 r.nodes.length g1) (.slice F2 r.binds.length g2)
  have hB := clu_below (g := w.heap.size + 1 + 1) hC2 (by omega) (.slice F0 r.tasks.length g0) (.slice F1 r.nodes.length g1) (.slice F2 r.binds.length g2)
  have hA := HCO2.out.1.agree (w' := (((w2.setCell ⟨w.heap.size + 1 + 1, 0, none⟩ (.slice F0 r.tasks.length g0)).setCell ⟨w.heap.size + 1 + 1, 1, none⟩ (.slice F1 r.nodes.length g1)).setCell ⟨w.heap.size + 1 + 1, 2, none⟩ (.slice F2 r.binds.length g2))) (fun b hb => putAll_block (o := 0) (ds := [.slice F0 r.tasks.length g0, .slice F1 r.nodes.length g1, .slice F2 r.binds.length g2]) (by have := HCO.out.2 b (HCO2.out.2 b hb); omega))
  generalize (((w2.setCell ⟨w.heap.size + 1 + 1, 0, none⟩ (.slice F0 r.tasks.length g0)).setCell ⟨w.heap.size + 1 + 1, 1, none⟩ (.slice F1 r.nodes.length g1)).setCell ⟨w.heap.size + 1 + 1, 2, none⟩ (.slice F2 r.binds.length g2)) = V at hZ hB hA ⊢
  have x0 := hZ.cell 0
  have x1 := hZ.cell 1
  have x2 := hZ.cell 2
  simp at x0 x1 x2
  exact bodyPost_ret (v := .tuple #[.agg #[.slice F0 r.tasks.length g0, .slice F1 r.nodes.length g1, .slice F2 r.binds.length g2], .int .i64 n]) (by simp [results, Tryz.results16, go_sem, x0, x1, x2]) rfl ⟨_, _, _, _, rfl, hA, fun b hb => by have := HCO.out.2 b (HCO2.out.2 b hb); omega, hB⟩
end Go.Proofs.YtocfgejceoenmaaGreatDoor

namespace Go.Proofs.YtocfgejceoenmaaGreatDoor
open Go.RowKit

/-- An element that still reads in w0: nothing of it is the call's own. -/
def Bor {α : Type} (R : World → α → List Value → Prop) (w0 : World) (_ : World) (x : α) (cs : List Value) (bs : List Nat) : Prop := R w0 x cs ∧ bs = []
section
variable {α : Type} {R : World → α → List Value → Prop} {n : Nat} {w w' : World}
theorem Bor.framed (w0 : World) : Framed (Bor R w0) := fun _ _ _ _ _ h _ => h
theorem seq_news (hn : ∀ x cs, R w x cs → cs.length = n) (w' : World) {b : Nat} {l : List α} : ∀ {off : Nat}, SeqAt R n w b off l → ∃ xs, Elems (Bor R w) w' l xs [] ∧ CellsAt w b off xs ∧ xs.length = l.length * n := by
  induction l with
  | nil => exact fun _ => ⟨[], ⟨rfl, rfl⟩, fun j u hu => by simp at hu, by simp⟩
  | cons x r ih =>
    intro off h
    obtain ⟨cs, hR, hC⟩ := h 0 x rfl
    have hr : SeqAt R n w b (off + n) r := fun i y hy => by
      obtain ⟨ds, h1, h2⟩ := h (i + 1) y (by simpa using hy)
      exact ⟨ds, h1, by rw [show off + n + i * n = off + (i + 1) * n by rw [Nat.add_mul]; omega]; exact h2⟩
    obtain ⟨xs, h1, h2, h3⟩ := ih hr
    have hl := hn _ _ hR
    refine ⟨cs ++ xs, ⟨cs, xs, [], [], rfl, rfl, ⟨hR, rfl⟩, h1⟩, fun j u hu => ?_, by rw [List.length_append, hl, h3, List.length_cons, Nat.add_mul]; omega⟩
    rcases Nat.lt_or_ge j n with hj | hj
    · rw [List.getElem?_append_left (by omega)] at hu
      have := hC j u hu
      rwa [Nat.zero_mul, Nat.add_zero] at this
    · rw [List.getElem?_append_right (by omega), hl] at hu
      have := h2 _ _ hu
      rwa [show off + n + (j - n) = off + j by omega] at this
theorem bor_one (h1 : ∀ x cs, R w x cs → ∀ u ∈ cs, u.oneCell' = true) {l : List α} {xs : List Value} {bs : List Nat} (h : Elems (Bor R w) w' l xs bs) : ∀ u ∈ xs, u.oneCell' = true := by
  induction l generalizing xs bs with
  | nil => obtain ⟨rfl, _⟩ := h; simp
  | cons x r ih =>
    obtain ⟨cs, ys, b1, b2, rfl, rfl, ⟨hR, _⟩, h2⟩ := h
    intro u hu
    rcases List.mem_append.1 hu with hu | hu
    · exact h1 _ _ hR u hu
    · exact ih h2 u hu
end
theorem taskR_len {w : World} {x : TV} {cs : List Value} (h : TaskR w x cs) : cs.length = 7 := by obtain ⟨v1, v2, rfl, _⟩ := h; rfl
theorem nodeR_len {w : World} {x : NV} {cs : List Value} (h : NodeR w x cs) : cs.length = 8 := by obtain ⟨v1, v2, rfl, _⟩ := h; rfl
theorem bindR_len {w : World} {x : BV} {cs : List Value} (h : BindR w x cs) : cs.length = 2 := by obtain rfl := h; rfl
theorem taskR_one {w : World} {x : TV} {cs : List Value} (h : TaskR w x cs) : ∀ u ∈ cs, u.oneCell' = true := by
  obtain ⟨v1, v2, rfl, h1, h2, _⟩ := h
  obtain ⟨A1, c1, rfl, _⟩ := h1.form
  obtain ⟨A2, c2, rfl, _⟩ := h2.form
  intro u hu
  simp at hu
  rcases hu with rfl | rfl | rfl | rfl | rfl | rfl | rfl <;> rfl
theorem nodeR_one {w : World} {x : NV} {cs : List Value} (h : NodeR w x cs) : ∀ u ∈ cs, u.oneCell' = true := by
  obtain ⟨v1, v2, rfl, h1, h2, _⟩ := h
  obtain ⟨A1, c1, rfl, _⟩ := h1.form
  obtain ⟨A2, c2, rfl, _⟩ := h2.form
  intro u hu
  simp at hu
  rcases hu with rfl | rfl | rfl | rfl | rfl | rfl | rfl | rfl <;> rfl
theorem bindR_one {w : World} {x : BV} {cs : List Value} (h : BindR w x cs) : ∀ u ∈ cs, u.oneCell' = true := by
  obtain rfl := h
  intro u hu
  simp at hu
  rcases hu with rfl | rfl <;> rfl
theorem none_below {w w' : World} (h : w.grownBy w' none) : Below w.heap.size w w' := ⟨h.os, h.tape, h.output, h.size, fun k hk => h.block k hk (by simp)⟩
theorem none_blk {w : World} {v' : Value} (hk : v'.ownBlock = (none : Option Nat) ∨ v'.ownBlock = some w.heap.size) : (∀ b ∈ blk v', w.heap.size ≤ b) ∧ (blk v').Nodup := by
  rcases hk with e | e <;> simp [blk, e]
set_option maxHeartbeats 1600000 in
theorem copyListTask_any (v : Value) (l : List TV) (w0 w : World) (hw : Below w0.heap.size w0 w) (h : TaskSl w0 v l) (hl : l.length ≤ 1048576) :
    Calls Tryz.prog 144 #[v] w fun e w' => ∃ v' xs, e = .returned v' ∧ w'.ownsRow 0 46 7 v' l.length xs ∧ Elems (Bor TaskR w0) w' l xs [] ∧ (∀ b ∈ blk v', w.heap.size ≤ b) ∧ Below w.heap.size w w' := by
  obtain ⟨i0, hi0, hz0, hs0, hy0⟩ := info_parts Tryz.infoTask
  obtain ⟨A, c, rfl, hA⟩ := h.form
  obtain ⟨xs, hx1, hx2, hx3⟩ : ∃ xs, (∀ w', Elems (Bor TaskR w0) w' l xs []) ∧ (0 < l.length → ∃ b off, A = some ⟨b, off, none⟩ ∧ CellsAt w b off xs) ∧ xs.length = l.length * 7 := by
    rcases Nat.eq_zero_or_pos l.length with h0 | hp
    · obtain rfl := List.eq_nil_of_length_eq_zero h0
      exact ⟨[], fun _ => ⟨rfl, rfl⟩, fun h => absurd h (by simp), by simp⟩
    · obtain ⟨b, off, rfl, hbw, hat⟩ := hA hp
      obtain ⟨xs, h1, h2, h3⟩ := seq_news (fun _ _ h => taskR_len h) w0 hat
      exact ⟨xs, fun w' => h1.agree (Bor.framed _) (fun _ hb => absurd hb (by simp)), fun _ => ⟨b, off, rfl, h2.below hw hbw⟩, h3⟩
  have H1 := Lib.hid (bor_one (fun _ _ h => taskR_one h) (hx1 w0))
  have HX1 := Lib.hid hx1
  have HX2 := Lib.hid hx2
  have HX3 := Lib.hid hx3
  clear hA h hx1 hx2 hx3 hw
  go_enter Tryz.func144, Tryz.ntmps144
  go_wp2_with (at_builtin; refine wpList_spread _ rfl (.const (.slice none 0 0)) (.tmp 3) 35 rfl 46 i0 _ 7 88 Tryz.underlying35 hi0 hz0 hs0 hy0 rfl (by omega) (.slice none 0 0) 0 [] rfl (World.ownsRow_nil _ _ _ _) A l.length c xs rfl HX3.out HX2.out H1.out (by simp only [maxLen]; omega) (by omega) ?_; intro v' w1 hown1 hg1 hk1)
  have hb1 := none_below hg1
  obtain ⟨hlo, -⟩ := none_blk hk1
  rw [Nat.zero_add, List.nil_append] at hown1
  go_ret
  exact ⟨v', xs, rfl, hown1, HX1.out _, hlo, hb1⟩
set_option maxHeartbeats 1600000 in
theorem copyListNode_any (v : Value) (l : List NV) (w0 w : World) (hw : Below w0.heap.size w0 w) (h : NodeSl w0 v l) (hl : l.length ≤ 1048576) :
    Calls Tryz.prog 145 #[v] w fun e w' => ∃ v' xs, e = .returned v' ∧ w'.ownsRow 0 60 8 v' l.length xs ∧ Elems (Bor NodeR w0) w' l xs [] ∧ (∀ b ∈ blk v', w.heap.size ≤ b) ∧ Below w.heap.size w w' := by
  obtain ⟨i0, hi0, hz0, hs0, hy0⟩ := info_parts Tryz.infoNode
  obtain ⟨A, c, rfl, hA⟩ := h.form
  obtain ⟨xs, hx1, hx2, hx3⟩ : ∃ xs, (∀ w', Elems (Bor NodeR w0) w' l xs []) ∧ (0 < l.length → ∃ b off, A = some ⟨b, off, none⟩ ∧ CellsAt w b off xs) ∧ xs.length = l.length * 8 := by
    rcases Nat.eq_zero_or_pos l.length with h0 | hp
    · obtain rfl := List.eq_nil_of_length_eq_zero h0
      exact ⟨[], fun _ => ⟨rfl, rfl⟩, fun h => absurd h (by simp), by simp⟩
    · obtain ⟨b, off, rfl, hbw, hat⟩ := hA hp
      obtain ⟨xs, h1, h2, h3⟩ := seq_news (fun _ _ h => nodeR_len h) w0 hat
      exact ⟨xs, fun w' => h1.agree (Bor.framed _) (fun _ hb => absurd hb (by simp)), fun _ => ⟨b, off, rfl, h2.below hw hbw⟩, h3⟩
  have H1 := Lib.hid (bor_one (fun _ _ h => nodeR_one h) (hx1 w0))
  have HX1 := Lib.hid hx1
  have HX2 := Lib.hid hx2
  have HX3 := Lib.hid hx3
  clear hA h hx1 hx2 hx3 hw
  go_enter Tryz.func145, Tryz.ntmps145
  go_wp2_with (at_builtin; refine wpList_spread _ rfl (.const (.slice none 0 0)) (.tmp 3) 36 rfl 60 i0 _ 8 96 Tryz.underlying36 hi0 hz0 hs0 hy0 rfl (by omega) (.slice none 0 0) 0 [] rfl (World.ownsRow_nil _ _ _ _) A l.length c xs rfl HX3.out HX2.out H1.out (by simp only [maxLen]; omega) (by omega) ?_; intro v' w1 hown1 hg1 hk1)
  have hb1 := none_below hg1
  obtain ⟨hlo, -⟩ := none_blk hk1
  rw [Nat.zero_add, List.nil_append] at hown1
  go_ret
  exact ⟨v', xs, rfl, hown1, HX1.out _, hlo, hb1⟩
set_option maxHeartbeats 1600000 in
theorem copyListBind_any (v : Value) (l : List BV) (w0 w : World) (hw : Below w0.heap.size w0 w) (h : BindSl w0 v l) (hl : l.length ≤ 1048576) :
    Calls Tryz.prog 146 #[v] w fun e w' => ∃ v' xs, e = .returned v' ∧ w'.ownsRow 0 70 2 v' l.length xs ∧ Elems (Bor BindR w0) w' l xs [] ∧ (∀ b ∈ blk v', w.heap.size ≤ b) ∧ Below w.heap.size w w' := by
  obtain ⟨i0, hi0, hz0, hs0, hy0⟩ := info_parts Tryz.infoBind
  obtain ⟨A, c, rfl, hA⟩ := h.form
  obtain ⟨xs, hx1, hx2, hx3⟩ : ∃ xs, (∀ w', Elems (Bor BindR w0) w' l xs []) ∧ (0 < l.length → ∃ b off, A = some ⟨b, off, none⟩ ∧ CellsAt w b off xs) ∧ xs.length = l.length * 2 := by
    rcases Nat.eq_zero_or_pos l.length with h0 | hp
    · obtain rfl := List.eq_nil_of_length_eq_zero h0
      exact ⟨[], fun _ => ⟨rfl, rfl⟩, fun h => absurd h (by simp), by simp⟩
    · obtain ⟨b, off, rfl, hbw, hat⟩ := hA hp
      obtain ⟨xs, h1, h2, h3⟩ := seq_news (fun _ _ h => bindR_len h) w0 hat
      exact ⟨xs, fun w' => h1.agree (Bor.framed _) (fun _ hb => absurd hb (by simp)), fun _ => ⟨b, off, rfl, h2.below hw hbw⟩, h3⟩
  have H1 := Lib.hid (bor_one (fun _ _ h => bindR_one h) (hx1 w0))
  have HX1 := Lib.hid hx1
  have HX2 := Lib.hid hx2
  have HX3 := Lib.hid hx3
  clear hA h hx1 hx2 hx3 hw
  go_enter Tryz.func146, Tryz.ntmps146
  go_wp2_with (at_builtin; refine wpList_spread _ rfl (.const (.slice none 0 0)) (.tmp 3) 37 rfl 70 i0 _ 2 16 Tryz.underlying37 hi0 hz0 hs0 hy0 rfl (by omega) (.slice none 0 0) 0 [] rfl (World.ownsRow_nil _ _ _ _) A l.length c xs rfl HX3.out HX2.out H1.out (by simp only [maxLen]; omega) (by omega) ?_; intro v' w1 hown1 hg1 hk1)
  have hb1 := none_below hg1
  obtain ⟨hlo, -⟩ := none_blk hk1
  rw [Nat.zero_add, List.nil_append] at hown1
  go_ret
  exact ⟨v', xs, rfl, hown1, HX1.out _, hlo, hb1⟩
set_option maxHeartbeats 1600000 in
theorem copyListLab_any (v : Value) (l : List LV) (w : World) (h : LabSl w v l) (hl : l.length ≤ 1048576) :
    Calls Tryz.prog 147 #[v] w fun e w' => ∃ v', e = .returned v' ∧ LabO w' v' l ∧ (∀ b ∈ blk v', w.heap.size ≤ b) ∧ (blk v').Nodup ∧ Below w.heap.size w w' := by
  obtain ⟨i0, hi0, hz0, hs0, hy0⟩ := info_parts Tryz.infoLab
  obtain ⟨A, c, rfl, _⟩ := h.form
  have HN := Lib.hid h.news
  clear h
  go_enter Tryz.func147, Tryz.ntmps147
  go_wp2_with (at_builtin; refine wpList_spread _ rfl (.const (.slice none 0 0)) (.tmp 3) 44 rfl 120 i0 _ 2 16 Tryz.underlying44 hi0 hz0 hs0 hy0 rfl (by omega) (.slice none 0 0) 0 [] rfl (World.ownsRow_nil _ _ _ _) A l.length c (labL l) rfl (labL_len l) HN.out (labL_one l) (by simp only [maxLen]; omega) (by omega) ?_; intro v' w1 hown1 hg1 hk1)
  have hb1 := none_below hg1
  obtain ⟨hlo, hnd⟩ := none_blk hk1
  rw [Nat.zero_add, List.nil_append] at hown1
  go_ret
  exact ⟨v', rfl, hown1, hlo, hnd, hb1⟩
set_option maxHeartbeats 1600000 in
theorem copyListInt_any (v : Value) (l : List Int) (w : World) (h : IntSl w v l) (hl : l.length ≤ 1048576) :
    Calls Tryz.prog 148 #[v] w fun e w' => ∃ v', e = .returned v' ∧ IntO w' v' l ∧ (∀ b ∈ blk v', w.heap.size ≤ b) ∧ (blk v').Nodup ∧ Below w.heap.size w w' := by
  obtain ⟨i0, hi0, hz0, hs0, hy0⟩ := info_parts Tryz.infoI
  obtain ⟨A, c, rfl, _⟩ := h.form
  have HN := Lib.hid h.news
  clear h
  go_enter Tryz.func148, Tryz.ntmps148
  go_wp2_with (at_builtin; refine wpList_spread _ rfl (.const (.slice none 0 0)) (.tmp 3) 30 rfl 3 i0 _ 1 8 Tryz.underlying30 hi0 hz0 hs0 hy0 rfl (by omega) (.slice none 0 0) 0 [] rfl (World.ownsRow_nil _ _ _ _) A l.length c (intL l) rfl (by simp [intL]) HN.out (intL_one l) (by simp only [maxLen]; omega) (by omega) ?_; intro v' w1 hown1 hg1 hk1)
  have hb1 := none_below hg1
  obtain ⟨hlo, hnd⟩ := none_blk hk1
  rw [Nat.zero_add, List.nil_append] at hown1
  go_ret
  exact ⟨v', rfl, hown1, hlo, hnd, hb1⟩

set_option maxHeartbeats 3200000 in
theorem copyTask_any (t : TV) (cs : List Value) (w : World) (hR : TaskR w t cs) : Calls Tryz.prog 102 #[.agg cs.toArray] w (RetO TaskO w t) := by
  obtain ⟨v1, v2, rfl, sl, si, m1, m2⟩ := hR
  have hc1 := fun w1 hb => copyListLab_any v1 t.want w1 (sl.below hb) m1
  have hc2 := fun w1 hb => copyListInt_any v2 t.tols w1 (si.below hb) m2
  obtain ⟨A1, c1, rfl, _⟩ := sl.form
  obtain ⟨A2, c2, rfl, _⟩ := si.form
  have HC1 := Lib.hid hc1
  have HC2 := Lib.hid hc2
  have M := Lib.hid (And.intro m1 m2)
  clear sl si m1 m2 hc1 hc2
  go_enter Tryz.func102, Tryz.ntmps102
  go_wp2_with fail
  have hX : Below w.heap.size w ((w.alloc (.cells #[.int .i64 t.id, .int .i64 t.prio, .int .i64 t.need.c, .int .i64 t.need.m, .int .i64 t.need.p, .slice A1 t.want.length c1, .slice A2 t.tols.length c2] 46)).alloc (.cells #[.int .i64 0, .int .i64 0, .int .i64 0, .int .i64 0, .int .i64 0, .slice none 0 0, .slice none 0 0] 46)) := (by repeat' (first | exact Below.refl _ _ | refine Below.alloc ?_ ?_ _ | refine Below.setCell ?_ ?_ _ | refine Below.drew ?_ | (apply below_step; assumption) | (simp; done) | (simp; omega) | omega))
  have hXz : ((w.alloc (.cells #[.int .i64 t.id, .int .i64 t.prio, .int .i64 t.need.c, .int .i64 t.need.m, .int .i64 t.need.p, .slice A1 t.want.length c1, .slice A2 t.tols.length c2] 46)).alloc (.cells #[.int .i64 0, .int .i64 0, .int .i64 0, .int .i64 0, .int .i64 0, .slice none 0 0, .slice none 0 0] 46)).heap.size = w.heap.size + 2 := by simp
  refine (HC1.out _ hX).mono ?_
  rintro e w1 ⟨u1, rfl, hL1, hlo1, hnd1, hb1⟩
  obtain ⟨B0, B1⟩ := boxes2 _ _ _ _ _ hb1
  have hC1 := below_of hX hb1
  have hz1 := hb1.size
  rw [hXz] at hz1 hlo1
  obtain ⟨E1, d1, rfl, _⟩ := own_form hL1
  have y5 := B0.cell 5
  have y6 := B0.cell 6
  have yf := B0.frozen
  simp at y5 y6
  have HB0 := Lib.hid B0
  have HB1 := Lib.hid B1
  have HL1 := Lib.hid (And.intro hL1 (And.intro hlo1 hnd1))
  clear B0 B1 hb1 hX hXz hL1 hlo1 hnd1
  go_wp2_with fail
  have hC1' : Below w.heap.size w (w1.setCell ⟨w.heap.size, 5, none⟩ (.slice E1 t.want.length d1)) := hC1.setCell (Nat.le_refl _) _
  have hsz : (w1.setCell ⟨w.heap.size, 5, none⟩ (.slice E1 t.want.length d1)).heap.size = w1.heap.size := by simp [World.setCell]
  refine (HC2.out _ hC1').mono ?_
  rintro e w2 ⟨u2, rfl, hI2, hlo2, hnd2, hb2⟩
  have hC2 := below_of hC1' hb2
  have hz2 := hb2.size
  have B0 := (HB0.out.put 5 (.slice E1 t.want.length d1)).below hb2 (by rw [hsz]; omega)
  have B1 := (HB1.out.far (p := ⟨w.heap.size, 5, none⟩) (by dsimp only; omega) (.slice E1 t.want.length d1)).below hb2 (by rw [hsz]; omega)
  rw [hsz] at hz2 hlo2
  obtain ⟨hL1, hlo1, hnd1⟩ := HL1.out
  have hT1 : TurnB [w.heap.size] w1 w2 := (TurnB.put (TurnB.refl _ _) (List.mem_singleton.2 rfl) _ _).step hb2
  have hl1 := own_lt hL1
  have hL2 := own_agree hL1 (hT1.agree (fun b hb => ⟨hl1 b hb, by have := hlo1 b hb; simp; omega⟩))
  obtain ⟨E2, d2, rfl, _⟩ := own_form hI2
  have y0 := B0.cell 0; have y1 := B0.cell 1; have y2 := B0.cell 2; have y3 := B0.cell 3; have y4 := B0.cell 4; have y5 := B0.cell 5; have y6 := B0.cell 6
  have yf := B0.frozen
  have z0 := B1.cell 0; have z1 := B1.cell 1; have z2 := B1.cell 2; have z3 := B1.cell 3; have z4 := B1.cell 4; have z5 := B1.cell 5; have z6 := B1.cell 6
  have zf := B1.frozen
  simp at y0 y1 y2 y3 y4 y5 y6 z0 z1 z2 z3 z4 z5 z6
  have HB1 := Lib.hid B1
  have HF := Lib.hid (And.intro hL2 (And.intro hI2 (And.intro hlo1 (And.intro hnd1 (And.intro hlo2 (And.intro hnd2 hl1))))))
  clear B0 B1 hb2 hL1 hlo1 hnd1 hT1 hL2 hI2 hlo2 hnd2 HL1 hsz hC1' hl1 HB0
  go_wp2_with fail
  have hZ : BlockIs ((((((((w2.setCell ⟨w.heap.size, 6, none⟩ (.slice E2 t.tols.length d2)).setCell ⟨w.heap.size + 1, 0, none⟩ (.int .i64 t.id)).setCell ⟨w.heap.size + 1, 1, none⟩ (.int .i64 t.prio)).setCell ⟨w.heap.size + 1, 2, none⟩ (.int .i64 t.need.c)).setCell ⟨w.heap.size + 1, 3, none⟩ (.int .i64 t.need.m)).setCell ⟨w.heap.size + 1, 4, none⟩ (.int .i64 t.need.p)).setCell ⟨w.heap.size + 1, 5, none⟩ (.slice E1 t.want.length d1)).setCell ⟨w.heap.size + 1, 6, none⟩ (.slice E2 t.tols.length d2)) (w.heap.size + 1) 46 #[.int .i64 t.id, .int .i64 t.prio, .int .i64 t.need.c, .int .i64 t.need.m, .int .i64 t.need.p, .slice E1 t.want.length d1, .slice E2 t.tols.length d2] := put7 _ _ _ _ _ _ _ (HB1.out.far (p := ⟨w.heap.size, 6, none⟩) (by dsimp only; omega) _) rfl
  have hT : TurnB [w.heap.size, w.heap.size + 1] w2 ((((((((w2.setCell ⟨w.heap.size, 6, none⟩ (.slice E2 t.tols.length d2)).setCell ⟨w.heap.size + 1, 0, none⟩ (.int .i64 t.id)).setCell ⟨w.heap.size + 1, 1, none⟩ (.int .i64 t.prio)).setCell ⟨w.heap.size + 1, 2, none⟩ (.int .i64 t.need.c)).setCell ⟨w.heap.size + 1, 3, none⟩ (.int .i64 t.need.m)).setCell ⟨w.heap.size + 1, 4, none⟩ (.int .i64 t.need.p)).setCell ⟨w.heap.size + 1, 5, none⟩ (.slice E1 t.want.length d1)).setCell ⟨w.heap.size + 1, 6, none⟩ (.slice E2 t.tols.length d2)) :=
    TurnB.putAll (g := w.heap.size + 1) (TurnB.put (g := w.heap.size) (TurnB.refl _ _) (by simp) 6 (.slice E2 t.tols.length d2)) (by simp) 0 [.int .i64 t.id, .int .i64 t.prio, .int .i64 t.need.c, .int .i64 t.need.m, .int .i64 t.need.p, .slice E1 t.want.length d1, .slice E2 t.tols.length d2]
  generalize ((((((((w2.setCell ⟨w.heap.size, 6, none⟩ (.slice E2 t.tols.length d2)).setCell ⟨w.heap.size + 1, 0, none⟩ (.int .i64 t.id)).setCell ⟨w.heap.size + 1, 1, none⟩ (.int .i64 t.prio)).setCell ⟨w.heap.size + 1, 2, none⟩ (.int .i64 t.need.c)).setCell ⟨w.heap.size + 1, 3, none⟩ (.int .i64 t.need.m)).setCell ⟨w.heap.size + 1, 4, none⟩ (.int .i64 t.need.p)).setCell ⟨w.heap.size + 1, 5, none⟩ (.slice E1 t.want.length d1)).setCell ⟨w.heap.size + 1, 6, none⟩ (.slice E2 t.tols.length d2)) = Y at hZ hT ⊢
  have hB : Below w.heap.size w Y := hC2.trans (hT.below hC2.size (by simp))
  have z0 := hZ.cell 0; have z1 := hZ.cell 1; have z2 := hZ.cell 2; have z3 := hZ.cell 3; have z4 := hZ.cell 4; have z5 := hZ.cell 5; have z6 := hZ.cell 6
  simp at z0 z1 z2 z3 z4 z5 z6
  obtain ⟨hL2, hI2, hlo1, hnd1, hlo2, hnd2, hl1⟩ := HF.out
  refine bodyPost_ret (v := .agg #[.int .i64 t.id, .int .i64 t.prio, .int .i64 t.need.c, .int .i64 t.need.m, .int .i64 t.need.p, .slice E1 t.want.length d1, .slice E2 t.tols.length d2]) (by simp [results, Tryz.results102, go_sem, z0, z1, z2, z3, z4, z5, z6]) rfl ⟨_, _, rfl, ⟨_, _, rfl, own_agree hL2 (hT.agree (fun b hb => ⟨own_lt hL2 b hb, by have := hlo1 b hb; simp; omega⟩)), own_agree hI2 (hT.agree (fun b hb => ⟨own_lt hI2 b hb, by have := hlo2 b hb; simp; omega⟩)), rfl, M.out⟩, ?_, ?_, hB⟩
  · rw [List.nodup_append]
    exact ⟨hnd1, hnd2, fun a ha b hb e => by have := hl1 a ha; have := hlo2 b hb; omega⟩
  · intro b hb
    rcases List.mem_append.1 hb with hb | hb
    · have := hlo1 b hb; omega
    · have := hlo2 b hb; omega
set_option maxHeartbeats 3200000 in
theorem copyNode_any (t : NV) (cs : List Value) (w : World) (hR : NodeR w t cs) : Calls Tryz.prog 117 #[.agg cs.toArray] w (RetO NodeO w t) := by
  obtain ⟨v1, v2, rfl, sl, si, m1, m2⟩ := hR
  have hc1 := fun w1 hb => copyListLab_any v1 t.labs w1 (sl.below hb) m1
  have hc2 := fun w1 hb => copyListInt_any v2 t.taints w1 (si.below hb) m2
  obtain ⟨A1, c1, rfl, _⟩ := sl.form
  obtain ⟨A2, c2, rfl, _⟩ := si.form
  have HC1 := Lib.hid hc1
  have HC2 := Lib.hid hc2
  have M := Lib.hid (And.intro m1 m2)
  clear sl si m1 m2 hc1 hc2
  go_enter Tryz.func117, Tryz.ntmps117
  go_wp2_with fail
  have hX : Below w.heap.size w ((w.alloc (.cells #[.int .i64 t.id, .int .i64 t.pool, .int .i64 t.cap.c, .int .i64 t.cap.m, .int .i64 t.cap.p, .slice A1 t.labs.length c1, .slice A2 t.taints.length c2, .bool t.cordon] 60)).alloc (.cells #[.int .i64 0, .int .i64 0, .int .i64 0, .int .i64 0, .int .i64 0, .slice none 0 0, .slice none 0 0, .bool false] 60)) := (by repeat' (first | exact Below.refl _ _ | refine Below.alloc ?_ ?_ _ | refine Below.setCell ?_ ?_ _ | refine Below.drew ?_ | (apply below_step; assumption) | (simp; done) | (simp; omega) | omega))
  have hXz : ((w.alloc (.cells #[.int .i64 t.id, .int .i64 t.pool, .int .i64 t.cap.c, .int .i64 t.cap.m, .int .i64 t.cap.p, .slice A1 t.labs.length c1, .slice A2 t.taints.length c2, .bool t.cordon] 60)).alloc (.cells #[.int .i64 0, .int .i64 0, .int .i64 0, .int .i64 0, .int .i64 0, .slice none 0 0, .slice none 0 0, .bool false] 60)).heap.size = w.heap.size + 2 := by simp
  refine (HC1.out _ hX).mono ?_
  rintro e w1 ⟨u1, rfl, hL1, hlo1, hnd1, hb1⟩
  obtain ⟨B0, B1⟩ := boxes2 _ _ _ _ _ hb1
  have hC1 := below_of hX hb1
  have hz1 := hb1.size
  rw [hXz] at hz1 hlo1
  obtain ⟨E1, d1, rfl, _⟩ := own_form hL1
  have y5 := B0.cell 5
  have y6 := B0.cell 6
  have yf := B0.frozen
  simp at y5 y6
  have HB0 := Lib.hid B0
  have HB1 := Lib.hid B1
  have HL1 := Lib.hid (And.intro hL1 (And.intro hlo1 hnd1))
  clear B0 B1 hb1 hX hXz hL1 hlo1 hnd1
  go_wp2_with fail
  have hC1' : Below w.heap.size w (w1.setCell ⟨w.heap.size, 5, none⟩ (.slice E1 t.labs.length d1)) := hC1.setCell (Nat.le_refl _) _
  have hsz : (w1.setCell ⟨w.heap.size, 5, none⟩ (.slice E1 t.labs.length d1)).heap.size = w1.heap.size := by simp [World.setCell]
  refine (HC2.out _ hC1').mono ?_
  rintro e w2 ⟨u2, rfl, hI2, hlo2, hnd2, hb2⟩
  have hC2 := below_of hC1' hb2
  have hz2 := hb2.size
  have B0 := (HB0.out.put 5 (.slice E1 t.labs.length d1)).below hb2 (by rw [hsz]; omega)
  have B1 := (HB1.out.far (p := ⟨w.heap.size, 5, none⟩) (by dsimp only; omega) (.slice E1 t.labs.length d1)).below hb2 (by rw [hsz]; omega)
  rw [hsz] at hz2 hlo2
  obtain ⟨hL1, hlo1, hnd1⟩ := HL1.out
  have hT1 : TurnB [w.heap.size] w1 w2 := (TurnB.put (TurnB.refl _ _) (List.mem_singleton.2 rfl) _ _).step hb2
  have hl1 := own_lt hL1
  have hL2 := own_agree hL1 (hT1.agree (fun b hb => ⟨hl1 b hb, by have := hlo1 b hb; simp; omega⟩))
  obtain ⟨E2, d2, rfl, _⟩ := own_form hI2
  have y0 := B0.cell 0; have y1 := B0.cell 1; have y2 := B0.cell 2; have y3 := B0.cell 3; have y4 := B0.cell 4; have y5 := B0.cell 5; have y6 := B0.cell 6; have y7 := B0.cell 7
  have yf := B0.frozen
  have z0 := B1.cell 0; have z1 := B1.cell 1; have z2 := B1.cell 2; have z3 := B1.cell 3; have z4 := B1.cell 4; have z5 := B1.cell 5; have z6 := B1.cell 6; have z7 := B1.cell 7
  have zf := B1.frozen
  simp at y0 y1 y2 y3 y4 y5 y6 y7 z0 z1 z2 z3 z4 z5 z6 z7
  have HB1 := Lib.hid B1
  have HF := Lib.hid (And.intro hL2 (And.intro hI2 (And.intro hlo1 (And.intro hnd1 (And.intro hlo2 (And.intro hnd2 hl1))))))
  clear B0 B1 hb2 hL1 hlo1 hnd1 hT1 hL2 hI2 hlo2 hnd2 HL1 hsz hC1' hl1 HB0
  go_wp2_with fail
  have hZ : BlockIs (((((((((w2.setCell ⟨w.heap.size, 6, none⟩ (.slice E2 t.taints.length d2)).setCell ⟨w.heap.size + 1, 0, none⟩ (.int .i64 t.id)).setCell ⟨w.heap.size + 1, 1, none⟩ (.int .i64 t.pool)).setCell ⟨w.heap.size + 1, 2, none⟩ (.int .i64 t.cap.c)).setCell ⟨w.heap.size + 1, 3, none⟩ (.int .i64 t.cap.m)).setCell ⟨w.heap.size + 1, 4, none⟩ (.int .i64 t.cap.p)).setCell ⟨w.heap.size + 1, 5, none⟩ (.slice E1 t.labs.length d1)).setCell ⟨w.heap.size + 1, 6, none⟩ (.slice E2 t.taints.length d2)).setCell ⟨w.heap.size + 1, 7, none⟩ (.bool t.cordon)) (w.heap.size + 1) 60 #[.int .i64 t.id, .int .i64 t.pool, .int .i64 t.cap.c, .int .i64 t.cap.m, .int .i64 t.cap.p, .slice E1 t.labs.length d1, .slice E2 t.taints.length d2, .bool t.cordon] := put8 _ _ _ _ _ _ _ _ (HB1.out.far (p := ⟨w.heap.size, 6, none⟩) (by dsimp only; omega) _) rfl
  have hT : TurnB [w.heap.size, w.heap.size + 1] w2 (((((((((w2.setCell ⟨w.heap.size, 6, none⟩ (.slice E2 t.taints.length d2)).setCell ⟨w.heap.size + 1, 0, none⟩ (.int .i64 t.id)).setCell ⟨w.heap.size + 1, 1, none⟩ (.int .i64 t.pool)).setCell ⟨w.heap.size + 1, 2, none⟩ (.int .i64 t.cap.c)).setCell ⟨w.heap.size + 1, 3, none⟩ (.int .i64 t.cap.m)).setCell ⟨w.heap.size + 1, 4, none⟩ (.int .i64 t.cap.p)).setCell ⟨w.heap.size + 1, 5, none⟩ (.slice E1 t.labs.length d1)).setCell ⟨w.heap.size + 1, 6, none⟩ (.slice E2 t.taints.length d2)).setCell ⟨w.heap.size + 1, 7, none⟩ (.bool t.cordon)) :=
    TurnB.putAll (g := w.heap.size + 1) (TurnB.put (g := w.heap.size) (TurnB.refl _ _) (by simp) 6 (.slice E2 t.taints.length d2)) (by simp) 0 [.int .i64 t.id, .int .i64 t.pool, .int .i64 t.cap.c, .int .i64 t.cap.m, .int .i64 t.cap.p, .slice E1 t.labs.length d1, .slice E2 t.taints.length d2, .bool t.cordon]
  generalize (((((((((w2.setCell ⟨w.heap.size, 6, none⟩ (.slice E2 t.taints.length d2)).setCell ⟨w.heap.size + 1, 0, none⟩ (.int .i64 t.id)).setCell ⟨w.heap.size + 1, 1, none⟩ (.int .i64 t.pool)).setCell ⟨w.heap.size + 1, 2, none⟩ (.int .i64 t.cap.c)).setCell ⟨w.heap.size + 1, 3, none⟩ (.int .i64 t.cap.m)).setCell ⟨w.heap.size + 1, 4, none⟩ (.int .i64 t.cap.p)).setCell ⟨w.heap.size + 1, 5, none⟩ (.slice E1 t.labs.length d1)).setCell ⟨w.heap.size + 1, 6, none⟩ (.slice E2 t.taints.length d2)).setCell ⟨w.heap.size + 1, 7, none⟩ (.bool t.cordon)) = Y at hZ hT ⊢
  have hB : Below w.heap.size w Y := hC2.trans (hT.below hC2.size (by simp))
  have z0 := hZ.cell 0; have z1 := hZ.cell 1; have z2 := hZ.cell 2; have z3 := hZ.cell 3; have z4 := hZ.cell 4; have z5 := hZ.cell 5; have z6 := hZ.cell 6; have z7 := hZ.cell 7
  simp at z0 z1 z2 z3 z4 z5 z6 z7
  obtain ⟨hL2, hI2, hlo1, hnd1, hlo2, hnd2, hl1⟩ := HF.out
  refine bodyPost_ret (v := .agg #[.int .i64 t.id, .int .i64 t.pool, .int .i64 t.cap.c, .int .i64 t.cap.m, .int .i64 t.cap.p, .slice E1 t.labs.length d1, .slice E2 t.taints.length d2, .bool t.cordon]) (by simp [results, Tryz.results117, go_sem, z0, z1, z2, z3, z4, z5, z6, z7]) rfl ⟨_, _, rfl, ⟨_, _, rfl, own_agree hL2 (hT.agree (fun b hb => ⟨own_lt hL2 b hb, by have := hlo1 b hb; simp; omega⟩)), own_agree hI2 (hT.agree (fun b hb => ⟨own_lt hI2 b hb, by have := hlo2 b hb; simp; omega⟩)), rfl, M.out⟩, ?_, ?_, hB⟩
  · rw [List.nodup_append]
    exact ⟨hnd1, hnd2, fun a ha b hb e => by have := hl1 a ha; have := hlo2 b hb; omega⟩
  · intro b hb
    rcases List.mem_append.1 hb with hb | hb
    · have := hlo1 b hb; omega
    · have := hlo2 b hb; omega
end Go.Proofs.YtocfgejceoenmaaGreatDoor

namespace Go.Proofs.YtocfgejceoenmaaGreatDoor
open Go.RowKit

theorem turn_step {bs : List Nat} {w w' w'' : World} (hb : Below w'.heap.size w' w'') (h : TurnB bs w w') : TurnB bs w w'' := h.step hb
theorem TurnB.alloc {bs : List Nat} {w w' : World} (h : TurnB bs w w') (o : Obj) : TurnB bs w (w'.alloc o) := h.step ((Below.refl _ _).alloc (Nat.le_refl _) o)
theorem TurnB.drew {bs : List Nat} {w w' : World} (h : TurnB bs w w') : TurnB bs w w'.drew := h.step (Below.refl _ _).drew
theorem blk_nodup (v : Value) : (blk v).Nodup := by unfold blk; cases v.ownBlock <;> simp
theorem own_ne {w : World} {t u : TypeId} {m n k l : Nat} {v v' : Value} {xs ys : List Value} (h : w.ownsRow 0 t m v k xs) (h' : w.ownsRow 0 u n v' l ys) (hne : t ≠ u) : ∀ a ∈ blk v, ∀ b ∈ blk v', a ≠ b := by
  intro a ha b hb e
  subst e
  rcases h.2 with ⟨rfl, _⟩ | ⟨g, cap, cur, rfl, _, h1, _⟩
  · simp [blk, Value.ownBlock] at ha
  · rcases h'.2 with ⟨rfl, _⟩ | ⟨g', cap', cur', rfl, _, h2, _⟩
    · simp [blk, Value.ownBlock] at hb
    · simp [blk, Value.ownBlock] at ha hb
      subst ha
      subst hb
      rw [h1] at h2
      simp at h2
      exact hne h2.2
/-- The three rows of a cluster have been copied; their elements' lists still lie in X. -/
def CutC (X : World) (c : CV) (s3 : Value) (wx : World) : Prop := ∃ (g : Nat) (D0 D1 D2 : Option Addr) (e0 e1 e2 : Nat) (x0 x1 x2 : List Value), s3 = .pointer (some ⟨g, 0, none⟩) ∧ X.heap.size ≤ g ∧
  wx.cell? ⟨g, 0, none⟩ = some (.slice D0 c.tasks.length e0) ∧ wx.cell? ⟨g, 1, none⟩ = some (.slice D1 c.nodes.length e1) ∧ wx.cell? ⟨g, 2, none⟩ = some (.slice D2 c.binds.length e2) ∧
  wx.ownsRow 0 46 7 (.slice D0 c.tasks.length e0) c.tasks.length x0 ∧ Elems (Bor TaskR X) wx c.tasks x0 [] ∧ wx.ownsRow 0 60 8 (.slice D1 c.nodes.length e1) c.nodes.length x1 ∧ Elems (Bor NodeR X) wx c.nodes x1 [] ∧
  wx.ownsRow 0 70 2 (.slice D2 c.binds.length e2) c.binds.length x2 ∧ Elems (Bor BindR X) wx c.binds x2 [] ∧
  (∀ b ∈ blk (.slice D0 c.tasks.length e0), X.heap.size ≤ b ∧ b ≠ g) ∧ (∀ b ∈ blk (.slice D1 c.nodes.length e1), X.heap.size ≤ b ∧ b ≠ g) ∧ (∀ b ∈ blk (.slice D2 c.binds.length e2), X.heap.size ≤ b ∧ b ≠ g) ∧ Below X.heap.size X wx

theorem TurnB.cell {bs : List Nat} {w w' : World} (h : TurnB bs w w') {p : Addr} {v : Value} (hc : w.cell? p = some v) (hn : p.block ∉ bs) : w'.cell? p = some v :=
  (World.cell?_of_block (h.block p.block (World.block_lt_of_cell? _ _ hc) hn)).trans hc
theorem cutC_mk {X wa wb wd wx : World} {c : CV} {g : Nat} {D0 D1 D2 : Option Addr} {e0 e1 e2 : Nat} {x0 x1 x2 : List Value} (hgX : X.heap.size ≤ g)
    (c0 : wx.cell? ⟨g, 0, none⟩ = some (.slice D0 c.tasks.length e0)) (c1 : wx.cell? ⟨g, 1, none⟩ = some (.slice D1 c.nodes.length e1)) (c2 : wx.cell? ⟨g, 2, none⟩ = some (.slice D2 c.binds.length e2))
    (o0 : wa.ownsRow 0 46 7 (.slice D0 c.tasks.length e0) c.tasks.length x0) (r0 : Elems (Bor TaskR X) wa c.tasks x0 []) (o1 : wb.ownsRow 0 60 8 (.slice D1 c.nodes.length e1) c.nodes.length x1) (r1 : Elems (Bor NodeR X) wb c.nodes x1 [])
    (o2 : wd.ownsRow 0 70 2 (.slice D2 c.binds.length e2) c.binds.length x2) (r2 : Elems (Bor BindR X) wd c.binds x2 [])
    (n0 : ∀ b ∈ blk (.slice D0 c.tasks.length e0), X.heap.size ≤ b ∧ b ≠ g) (n1 : ∀ b ∈ blk (.slice D1 c.nodes.length e1), X.heap.size ≤ b ∧ b ≠ g) (n2 : ∀ b ∈ blk (.slice D2 c.binds.length e2), X.heap.size ≤ b ∧ b ≠ g)
    (t0 : TurnB [g] wa wx) (t1 : TurnB [g] wb wx) (t2 : TurnB [g] wd wx) (hB : Below X.heap.size X wx) : CutC X c (.pointer (some ⟨g, 0, none⟩)) wx :=
  ⟨g, D0, D1, D2, e0, e1, e2, x0, x1, x2, rfl, hgX, c0, c1, c2, own_agree o0 (t0.agree (fun b hb => ⟨own_lt o0 b hb, by simpa using (n0 b hb).2⟩)), r0.agree (Bor.framed _) (fun _ hb => absurd hb (by simp)),
    own_agree o1 (t1.agree (fun b hb => ⟨own_lt o1 b hb, by simpa using (n1 b hb).2⟩)), r1.agree (Bor.framed _) (fun _ hb => absurd hb (by simp)), own_agree o2 (t2.agree (fun b hb => ⟨own_lt o2 b hb, by simpa using (n2 b hb).2⟩)), r2.agree (Bor.framed _) (fun _ hb => absurd hb (by simp)), n0, n1, n2, hB⟩
theorem copyC_own {X wc W1 wr : World} {c : CV} {S0 S1 S2 : Value} {x0 x1 x2 : List Value} {bT bN : List Nat}
    (o0 : W1.ownsRow 0 46 7 S0 c.tasks.length x0) (e0 : Elems TaskO W1 c.tasks x0 bT) (nd0 : bT.Nodup) (lo0 : ∀ b ∈ bT, wc.heap.size ≤ b)
    (o1 : wr.ownsRow 0 60 8 S1 c.nodes.length x1) (e1 : Elems NodeO wr c.nodes x1 bN) (nd1 : bN.Nodup) (lo1 : ∀ b ∈ bN, W1.heap.size ≤ b) (t1 : TurnB (blk S1) W1 wr)
    (o2 : W1.ownsRow 0 70 2 S2 c.binds.length x2) (r2 : Elems (Bor BindR X) wc c.binds x2 [])
    (k0 : ∀ b ∈ blk S0, b < wc.heap.size) (k1 : ∀ b ∈ blk S1, b < wc.heap.size) (k2 : ∀ b ∈ blk S2, b < wc.heap.size) (hz : wc.heap.size ≤ W1.heap.size)
    (d01 : ∀ a ∈ blk S0, ∀ b ∈ blk S1, a ≠ b) (d02 : ∀ a ∈ blk S0, ∀ b ∈ blk S2, a ≠ b) (d12 : ∀ a ∈ blk S1, ∀ b ∈ blk S2, a ≠ b)
    (l : c.tasks.length ≤ 1048576 ∧ c.nodes.length ≤ 1048576 ∧ c.binds.length ≤ 1048576) : CluO wr c S0 S1 S2 ((blk S0 ++ bT) ++ ((blk S1 ++ bN) ++ blk S2)) := by
  have q0 := own_agree o0 (t1.agree (fun b hb => ⟨own_lt o0 b hb, fun hx => d01 b hb b hx rfl⟩))
  have q2 := own_agree o2 (t1.agree (fun b hb => ⟨own_lt o2 b hb, fun hx => d12 b hx b hb rfl⟩))
  have g0 := e0.agree TaskO.framed (t1.agree (fun b hb => ⟨elems_lt (fun _ _ _ h => h.lt) e0 b hb, fun hx => by have := k1 b hx; have := lo0 b hb; omega⟩))
  have lt0 : ∀ b ∈ bT, b < W1.heap.size := elems_lt (fun _ _ _ h => h.lt) e0
  refine ⟨_, _, _, ⟨x0, bT, q0, g0, rfl⟩, ⟨x1, bN, o1, e1, rfl⟩, ⟨x2, [], q2, r2.imp (fun _ _ _ h => ⟨h.1, h.2⟩), (List.append_nil _).symm⟩, rfl, ?_, l⟩
  rw [List.nodup_append, List.nodup_append, List.nodup_append, List.nodup_append]
  refine ⟨⟨blk_nodup _, nd0, fun a ha b hb e => by have := k0 a ha; have := lo0 b hb; omega⟩, ⟨⟨blk_nodup _, nd1, fun a ha b hb e => by have := k1 a ha; have := lo1 b hb; omega⟩, blk_nodup _, fun a ha b hb e => ?_⟩, fun a ha b hb e => ?_⟩
  · rcases List.mem_append.1 ha with ha | ha
    · exact d12 a ha b hb e
    · have := lo1 a ha; have := k2 b hb; omega
  · rcases List.mem_append.1 ha with ha | ha <;> rcases List.mem_append.1 hb with hb | hb
    · rcases List.mem_append.1 hb with hb | hb
      · exact d01 a ha b hb e
      · have := k0 a ha; have := lo1 b hb; omega
    · exact d02 a ha b hb e
    · rcases List.mem_append.1 hb with hb | hb
      · have := lo0 a ha; have := k1 b hb; omega
      · have := lt0 a ha; have := lo1 b hb; omega
    · have := lo0 a ha; have := k2 b hb; omega
set_option maxHeartbeats 6400000 in
set_option maxRecDepth 20000 in
theorem copyCluster_any (c : CV) (a0 a1 a2 : Value) (w : World) (hc : CluR w c a0 a1 a2) : Calls Tryz.prog 101 #[.agg #[a0, a1, a2]] w (RetClu w c) := by
  obtain ⟨h0, h1, h2, l0, l1, l2⟩ := hc
  have hT := fun X (hX : Below w.heap.size w X) w1 hw1 => copyListTask_any a0 c.tasks X w1 hw1 (h0.below hX) l0
  have hN := fun X (hX : Below w.heap.size w X) w1 hw1 => copyListNode_any a1 c.nodes X w1 hw1 (h1.below hX) l1
  have hB := fun X (hX : Below w.heap.size w X) w1 hw1 => copyListBind_any a2 c.binds X w1 hw1 (h2.below hX) l2
  obtain ⟨D0, e0, rfl, _⟩ := h0.form
  obtain ⟨D1, e1, rfl, _⟩ := h1.form
  obtain ⟨D2, e2, rfl, _⟩ := h2.form
  have HT := Lib.hid hT
  have HN := Lib.hid hN
  have HB := Lib.hid hB
  have HL := Lib.hid (And.intro l0 (And.intro l1 l2))
  clear h0 h1 h2 hT hN hB
  go_enter Tryz.func101, Tryz.ntmps101
  go_upto_region 1 with fail
  have hX : Below w.heap.size w ((w.alloc (.cells #[.slice D0 c.tasks.length e0, .slice D1 c.nodes.length e1, .slice D2 c.binds.length e2] 39)).alloc (.cells #[.slice none 0 0, .slice none 0 0, .slice none 0 0] 39)) := (by repeat' (first | exact Below.refl _ _ | refine Below.alloc ?_ ?_ _ | refine Below.setCell ?_ ?_ _ | refine Below.drew ?_ | (apply below_step; assumption) | (simp; done) | (simp; omega) | omega))
  have B0 : BlockIs ((w.alloc (.cells #[.slice D0 c.tasks.length e0, .slice D1 c.nodes.length e1, .slice D2 c.binds.length e2] 39)).alloc (.cells #[.slice none 0 0, .slice none 0 0, .slice none 0 0] 39)) w.heap.size 39 #[.slice D0 c.tasks.length e0, .slice D1 c.nodes.length e1, .slice D2 c.binds.length e2] := (BlockIs.new w _ _).alloc _
  have B1 : BlockIs ((w.alloc (.cells #[.slice D0 c.tasks.length e0, .slice D1 c.nodes.length e1, .slice D2 c.binds.length e2] 39)).alloc (.cells #[.slice none 0 0, .slice none 0 0, .slice none 0 0] 39)) (w.heap.size + 1) 39 #[.slice none 0 0, .slice none 0 0, .slice none 0 0] := BlockIs.new' (by simp)
  have hXz : ((w.alloc (.cells #[.slice D0 c.tasks.length e0, .slice D1 c.nodes.length e1, .slice D2 c.binds.length e2] 39)).alloc (.cells #[.slice none 0 0, .slice none 0 0, .slice none 0 0] 39)).heap.size = w.heap.size + 2 := by simp
  generalize ((w.alloc (.cells #[.slice D0 c.tasks.length e0, .slice D1 c.nodes.length e1, .slice D2 c.binds.length e2] 39)).alloc (.cells #[.slice none 0 0, .slice none 0 0, .slice none 0 0] 39)) = X at hX B0 B1 hXz ⊢
  have HB1 := Lib.hid B1
  have HK := Lib.hid (show ∀ w', Below X.heap.size X w' → (fun w' => Below X.heap.size X w' ∧ (∀ o, w'.cell? ⟨w.heap.size, o, none⟩ = (#[.slice D0 c.tasks.length e0, .slice D1 c.nodes.length e1, .slice D2 c.binds.length e2] : Array Value)[o]?)) w' from fun w' hb => ⟨hb, (B0.below hb B0.lt).cell⟩)
  have HTX := Lib.hid (HT.out X hX)
  have HNX := Lib.hid (HN.out X hX)
  have HBX := Lib.hid (HB.out X hX)
  have hXl : w.heap.size + 1 < X.heap.size := by omega
  have HXZ := Lib.hid hXz
  clear B0 B1 HT HN HB hXz
  go_cut [3] (fun s3 wx => CutC X c s3 wx)
  case first =>
    go_region_held3 (fun w' => Below X.heap.size X w' ∧ (∀ o, w'.cell? ⟨w.heap.size, o, none⟩ = (#[.slice D0 c.tasks.length e0, .slice D1 c.nodes.length e1, .slice D2 c.binds.length e2] : Array Value)[o]?))
      (exact HK.out _ (by repeat' (first | exact Below.refl _ _ | refine Below.alloc ?_ ?_ _ | refine Below.setCell ?_ ?_ _ | refine Below.drew ?_ | (apply below_step; assumption) | (simp; done) | (simp; omega) | omega)))
      (first
        | (go_at_call 144; refine (HTX.out _ (by repeat' (first | exact Below.refl _ _ | refine Below.alloc ?_ ?_ _ | refine Below.setCell ?_ ?_ _ | refine Below.drew ?_ | (apply below_step; assumption) | (simp; done) | (simp; omega) | omega))).mono ?_; rintro e wa ⟨v0, x0, rfl, ho0, he0, hl0, hba⟩; obtain ⟨F0, f0, rfl, -⟩ := own_form ho0; obtain ⟨hca, hfa⟩ := bcell hba; have hza := hba.size; (try simp at hza); (first | have hna : X.heap.size < wa.heap.size := by omega | skip))
        | (go_at_call 145; refine (HNX.out _ (by repeat' (first | exact Below.refl _ _ | refine Below.alloc ?_ ?_ _ | refine Below.setCell ?_ ?_ _ | refine Below.drew ?_ | (apply below_step; assumption) | (simp; done) | (simp; omega) | omega))).mono ?_; rintro e wb ⟨v1, x1, rfl, ho1, he1, hl1, hbb⟩; obtain ⟨F1, f1, rfl, -⟩ := own_form ho1; obtain ⟨hcb, hfb⟩ := bcell hbb; have hzb := hbb.size; (try simp at hzb); (first | have hnb : X.heap.size < wb.heap.size := by omega | skip); (first | have hnb2 : wa.heap.size < wb.heap.size := by omega | skip))
        | (go_at_call 146; refine (HBX.out _ (by repeat' (first | exact Below.refl _ _ | refine Below.alloc ?_ ?_ _ | refine Below.setCell ?_ ?_ _ | refine Below.drew ?_ | (apply below_step; assumption) | (simp; done) | (simp; omega) | omega))).mono ?_; rintro e wd ⟨v2, x2, rfl, ho2, he2, hl2, hbd⟩; obtain ⟨F2, f2, rfl, -⟩ := own_form ho2; obtain ⟨hcd, hfd⟩ := bcell hbd; have hzd := hbd.size; (try simp at hzd); (first | have hnd : X.heap.size < wd.heap.size := by omega | skip); (first | have hnd2 : wa.heap.size < wd.heap.size := by omega | skip); (first | have hnd3 : wb.heap.size < wd.heap.size := by omega | skip)))
    all_goals
      go_wp2_with fail
      go_meet
      refine cutC_mk (by omega) (by (first | (simp; done) | (go_simp; done))) (by (first | (simp; done) | (go_simp; done))) (by (first | (simp; done) | (go_simp; done))) ho0 he0 ho1 he1 ho2 he2 (fun b hb => ?_) (fun b hb => ?_) (fun b hb => ?_) (by repeat' (first | with_reducible exact TurnB.refl _ _ | with_reducible refine TurnB.put ?_ (List.mem_singleton.2 rfl) _ _ | with_reducible refine TurnB.drew ?_ | with_reducible refine TurnB.alloc ?_ _ | (with_reducible apply turn_step; with_reducible assumption))) (by repeat' (first | with_reducible exact TurnB.refl _ _ | with_reducible refine TurnB.put ?_ (List.mem_singleton.2 rfl) _ _ | with_reducible refine TurnB.drew ?_ | with_reducible refine TurnB.alloc ?_ _ | (with_reducible apply turn_step; with_reducible assumption))) (by repeat' (first | with_reducible exact TurnB.refl _ _ | with_reducible refine TurnB.put ?_ (List.mem_singleton.2 rfl) _ _ | with_reducible refine TurnB.drew ?_ | with_reducible refine TurnB.alloc ?_ _ | (with_reducible apply turn_step; with_reducible assumption))) (by repeat' (first | exact Below.refl _ _ | refine Below.alloc ?_ ?_ _ | refine Below.setCell ?_ ?_ _ | refine Below.drew ?_ | (apply below_step; assumption) | (simp; done) | (simp; omega) | omega))
      · have h1 := hl0 b hb; have h2 := own_lt ho0 b hb; (try simp at h1); exact ⟨by omega, by omega⟩
      · have h1 := hl1 b hb; have h2 := own_lt ho1 b hb; (try simp at h1); exact ⟨by omega, by omega⟩
      · have h1 := hl2 b hb; have h2 := own_lt ho2 b hb; (try simp at h1); exact ⟨by omega, by omega⟩
  case rest =>
    obtain ⟨g, F0, F1, F2, f0, f1, f2, x0, x1, x2, rfl, hgX, c0, c1, c2, o0, r0, o1, r1, o2, r2, n0, n1, n2, hBx⟩ := hcut
    have hd01 := own_ne o0 o1 (by decide)
    have hd02 := own_ne o0 o2 (by decide)
    have hd12 := own_ne o1 o2 (by decide)
    have BR := HB1.out.below hBx HB1.out.lt
    have hzX := hBx.size
    have hgl := World.block_lt_of_cell? _ _ c0
    have HO := Lib.hid (And.intro o0 (And.intro r0 (And.intro o1 (And.intro r1 (And.intro o2 r2)))))
    have HNN := Lib.hid (And.intro n0 (And.intro n1 n2))
    have HDD := Lib.hid (And.intro hd01 (And.intro hd02 hd12))
    have HBR := Lib.hid BR
    have HBXX := Lib.hid hBx
    have HC0 := Lib.hid (And.intro c0 (And.intro c1 c2))
    clear o0 r0 o1 r1 o2 r2 n0 n1 n2 hd01 hd02 hd12 BR HB1 HK HTX HNX HBX c1 c2 hBx
    simp only at hgl
    go_wp2_with fail
    go_loopw [21] (fun s21 wr => ∃ (k : Nat) (xa xb : List Value) (ba : List Nat), k ≤ c.tasks.length ∧ s21 = .int .i64 k ∧ wr.ownsRow 0 46 7 (.slice F0 c.tasks.length f0) c.tasks.length (xa ++ xb) ∧ Elems TaskO wr (c.tasks.take k) xa ba ∧ Elems (Bor TaskR X) wr (c.tasks.drop k) xb [] ∧ ba.Nodup ∧ (∀ b ∈ ba, wc.heap.size ≤ b) ∧ TurnB (blk (.slice F0 c.tasks.length f0)) wc wr) (fun s21 _ => (c.tasks.length - intOf s21).toNat)
    case atStart => exact ⟨0, [], x0, [], by omega, rfl, HO.out.1, ⟨rfl, rfl⟩, HO.out.2.1, by simp, by simp, TurnB.refl _ _⟩
    case round =>
      obtain ⟨k, xa, xb, ba, hk, rfl, hown, hel, hbo, hnd, hlo, htn⟩ := hrel
      have hzr := htn.size
      have d0 := htn.cell c0 (fun hb => (HNN.out.1 g hb).2 rfl)
      by_cases hlt : k < c.tasks.length
      · obtain ⟨t, ht⟩ : ∃ t, c.tasks[k]? = some t := ⟨_, List.getElem?_eq_getElem hlt⟩
        rw [drop_at ht] at hbo
        obtain ⟨cs, ys, b1, b2, hxb, hbe, ⟨hR, -⟩, hbo2⟩ := hbo
        obtain ⟨-, rfl⟩ : b1 = [] ∧ b2 = [] := by simpa using hbe.symm
        subst hxb
        obtain ⟨gr, cap, e, hgrl, hcell, hfr⟩ := own_cells hown (by omega)
        simp only [Value.slice.injEq] at e
        obtain ⟨rfl, -, rfl⟩ := e
        have hxl : xa.length = k * 7 := by rw [hel.len (fun _ _ _ h => h.len), List.length_take, Nat.min_eq_left hk]
        have HCT := Lib.hid (fun w1 (hb : Below X.heap.size X w1) => copyTask_any t cs w1 (TaskR.kept _ _ _ _ hb hR))
        obtain ⟨v1, v2, rfl, sl, si, m1, m2⟩ := hR
        obtain ⟨A1, c1, rfl, _⟩ := sl.form
        obtain ⟨A2, c2, rfl, _⟩ := si.form
        have u0 := hcell (k * 7 + 0) _ (by rw [List.getElem?_append_right (by omega), hxl, Nat.add_sub_cancel_left]; rfl); have u1 := hcell (k * 7 + 1) _ (by rw [List.getElem?_append_right (by omega), hxl, Nat.add_sub_cancel_left]; rfl); have u2 := hcell (k * 7 + 2) _ (by rw [List.getElem?_append_right (by omega), hxl, Nat.add_sub_cancel_left]; rfl); have u3 := hcell (k * 7 + 3) _ (by rw [List.getElem?_append_right (by omega), hxl, Nat.add_sub_cancel_left]; rfl); have u4 := hcell (k * 7 + 4) _ (by rw [List.getElem?_append_right (by omega), hxl, Nat.add_sub_cancel_left]; rfl); have u5 := hcell (k * 7 + 5) _ (by rw [List.getElem?_append_right (by omega), hxl, Nat.add_sub_cancel_left]; rfl); have u6 := hcell (k * 7 + 6) _ (by rw [List.getElem?_append_right (by omega), hxl, Nat.add_sub_cancel_left]; rfl)
        simp only [Nat.add_zero] at u0
        have hlti : (k : Int) < (c.tasks.length : Int) := by omega
        have hk0 : (0 : Int) ≤ (k : Int) := by omega
        have hgg : gr ≠ g := (HNN.out.1 gr (by simp [blk, Value.ownBlock])).2
        have hXr : Below X.heap.size X wr := HBXX.out.trans (htn.below hzX (fun b hb => (HNN.out.1 b hb).1))
        have HOW := Lib.hid (And.intro hown (And.intro hel (And.intro hbo2 (And.intro hxl ht))))
        have HND := Lib.hid (And.intro hnd hlo)
        have HTN := Lib.hid htn
        clear hbe hown hel hbo2 hxl ht hnd hlo htn hcell sl si m1 m2
        go_wp2_with fail
        have hY : Below wr.heap.size wr (wr.alloc (.cells #[.int .i64 t.id, .int .i64 t.prio, .int .i64 t.need.c, .int .i64 t.need.m, .int .i64 t.need.p, .slice A1 t.want.length c1, .slice A2 t.tols.length c2] 46)) := (by repeat' (first | exact Below.refl _ _ | refine Below.alloc ?_ ?_ _ | refine Below.setCell ?_ ?_ _ | refine Below.drew ?_ | (apply below_step; assumption) | (simp; done) | (simp; omega) | omega))
        have BY := BlockIs.new wr 46 #[.int .i64 t.id, .int .i64 t.prio, .int .i64 t.need.c, .int .i64 t.need.m, .int .i64 t.need.p, .slice A1 t.want.length c1, .slice A2 t.tols.length c2]
        have hYl : wr.heap.size < (wr.alloc (.cells #[.int .i64 t.id, .int .i64 t.prio, .int .i64 t.need.c, .int .i64 t.need.m, .int .i64 t.need.p, .slice A1 t.want.length c1, .slice A2 t.tols.length c2] 46)).heap.size := by simp
        have p0 := (World.cell?_alloc_lt wr (.cells #[.int .i64 t.id, .int .i64 t.prio, .int .i64 t.need.c, .int .i64 t.need.m, .int .i64 t.need.p, .slice A1 t.want.length c1, .slice A2 t.tols.length c2] 46) ⟨gr, _, none⟩ hgrl).trans u0; have p1 := (World.cell?_alloc_lt wr (.cells #[.int .i64 t.id, .int .i64 t.prio, .int .i64 t.need.c, .int .i64 t.need.m, .int .i64 t.need.p, .slice A1 t.want.length c1, .slice A2 t.tols.length c2] 46) ⟨gr, _, none⟩ hgrl).trans u1; have p2 := (World.cell?_alloc_lt wr (.cells #[.int .i64 t.id, .int .i64 t.prio, .int .i64 t.need.c, .int .i64 t.need.m, .int .i64 t.need.p, .slice A1 t.want.length c1, .slice A2 t.tols.length c2] 46) ⟨gr, _, none⟩ hgrl).trans u2; have p3 := (World.cell?_alloc_lt wr (.cells #[.int .i64 t.id, .int .i64 t.prio, .int .i64 t.need.c, .int .i64 t.need.m, .int .i64 t.need.p, .slice A1 t.want.length c1, .slice A2 t.tols.length c2] 46) ⟨gr, _, none⟩ hgrl).trans u3; have p4 := (World.cell?_alloc_lt wr (.cells #[.int .i64 t.id, .int .i64 t.prio, .int .i64 t.need.c, .int .i64 t.need.m, .int .i64 t.need.p, .slice A1 t.want.length c1, .slice A2 t.tols.length c2] 46) ⟨gr, _, none⟩ hgrl).trans u4; have p5 := (World.cell?_alloc_lt wr (.cells #[.int .i64 t.id, .int .i64 t.prio, .int .i64 t.need.c, .int .i64 t.need.m, .int .i64 t.need.p, .slice A1 t.want.length c1, .slice A2 t.tols.length c2] 46) ⟨gr, _, none⟩ hgrl).trans u5; have p6 := (World.cell?_alloc_lt wr (.cells #[.int .i64 t.id, .int .i64 t.prio, .int .i64 t.need.c, .int .i64 t.need.m, .int .i64 t.need.p, .slice A1 t.want.length c1, .slice A2 t.tols.length c2] 46) ⟨gr, _, none⟩ hgrl).trans u6
        have pf : ∀ o, (wr.alloc (.cells #[.int .i64 t.id, .int .i64 t.prio, .int .i64 t.need.c, .int .i64 t.need.m, .int .i64 t.need.p, .slice A1 t.want.length c1, .slice A2 t.tols.length c2] 46)).frozen? ⟨gr, o, none⟩ = false := fun o => (hY.frozen (p := ⟨gr, o, none⟩) hgrl).trans (hfr o)
        have e0' := (World.cell?_alloc_lt wr (.cells #[.int .i64 t.id, .int .i64 t.prio, .int .i64 t.need.c, .int .i64 t.need.m, .int .i64 t.need.p, .slice A1 t.want.length c1, .slice A2 t.tols.length c2] 46) ⟨g, _, none⟩ (World.block_lt_of_cell? _ _ d0)).trans d0
        generalize (wr.alloc (.cells #[.int .i64 t.id, .int .i64 t.prio, .int .i64 t.need.c, .int .i64 t.need.m, .int .i64 t.need.p, .slice A1 t.want.length c1, .slice A2 t.tols.length c2] 46)) = Y at hY BY hYl p0 p1 p2 p3 p4 p5 p6 pf e0' ⊢
        have hXY := hXr.trans (hY.mono hXr.size)
        have hgrX : X.heap.size ≤ gr := (HNN.out.1 gr (by simp [blk, Value.ownBlock])).1
        have hgrY : gr < Y.heap.size := by omega
        have HKR := Lib.hid (show ∀ w', TurnB [gr] Y w' → (fun w' => Below X.heap.size X w' ∧ w'.cell? ⟨g, 0, none⟩ = some (.slice (some ⟨gr, 0, none⟩) c.tasks.length f0) ∧ (∀ o, w'.cell? ⟨wr.heap.size, o, none⟩ = (#[.int .i64 t.id, .int .i64 t.prio, .int .i64 t.need.c, .int .i64 t.need.m, .int .i64 t.need.p, .slice A1 t.want.length c1, .slice A2 t.tols.length c2] : Array Value)[o]?)) w' from fun w' ht => ⟨hXY.trans (ht.below hXY.size (by simp; omega)), ht.cell e0' (by simpa using hgg.symm), (BY.turn ht (by simp; omega)).cell⟩)
        have HYY := Lib.hid hY
        clear u0 u1 u2 u3 u4 u5 u6 e0' d0 BY hXr hY
        go_region_held3 (fun w' => Below X.heap.size X w' ∧ w'.cell? ⟨g, 0, none⟩ = some (.slice (some ⟨gr, 0, none⟩) c.tasks.length f0) ∧ (∀ o, w'.cell? ⟨wr.heap.size, o, none⟩ = (#[.int .i64 t.id, .int .i64 t.prio, .int .i64 t.need.c, .int .i64 t.need.m, .int .i64 t.need.p, .slice A1 t.want.length c1, .slice A2 t.tols.length c2] : Array Value)[o]?))
          (exact HKR.out _ (by repeat' (first | with_reducible exact TurnB.refl _ _ | with_reducible refine TurnB.put ?_ (List.mem_singleton.2 rfl) _ _ | with_reducible refine TurnB.drew ?_ | with_reducible refine TurnB.alloc ?_ _ | (with_reducible apply turn_step; with_reducible assumption))))
          (first | (go_at_call 102; refine (HCT.out _ (by first | exact hXY | exact Below.drew hXY)).mono ?_; rintro e w3 ⟨ds, bx, rfl, hN3, hnd3, hlo3, hb3⟩; have HN3 := Lib.hid (And.intro hN3 (And.intro hnd3 hlo3)); obtain ⟨v3, v4, rfl, n3, n4, -⟩ := hN3; obtain ⟨E1, d1, rfl, -⟩ := own_form n3; obtain ⟨E2, d2, rfl, -⟩ := own_form n4; clear n3 n4 hnd3 hlo3; have x0 := (hb3.cell (p := ⟨gr, k * 7 + 0, none⟩) (by simpa using hgrY)).trans p0; have x1 := (hb3.cell (p := ⟨gr, k * 7 + 1, none⟩) (by simpa using hgrY)).trans p1; have x2 := (hb3.cell (p := ⟨gr, k * 7 + 2, none⟩) (by simpa using hgrY)).trans p2; have x3 := (hb3.cell (p := ⟨gr, k * 7 + 3, none⟩) (by simpa using hgrY)).trans p3; have x4 := (hb3.cell (p := ⟨gr, k * 7 + 4, none⟩) (by simpa using hgrY)).trans p4; have x5 := (hb3.cell (p := ⟨gr, k * 7 + 5, none⟩) (by simpa using hgrY)).trans p5; have x6 := (hb3.cell (p := ⟨gr, k * 7 + 6, none⟩) (by simpa using hgrY)).trans p6; (try simp only [Nat.add_zero] at x0); have xf := fun o => (hb3.frozen (p := ⟨gr, o, none⟩) (by simpa using hgrY)).trans (pf o); have hz3 := hb3.size; (try simp at hz3)))
        all_goals
          go_wp2_with fail
          go_roundw
          case rel =>
            obtain ⟨hown, hel, hbo2, hxl, ht⟩ := HOW.out
            obtain ⟨hN, hnd3, hlo3⟩ := HN3.out
            obtain ⟨hnd, hlo⟩ := HND.out
            have hW3 : Below wr.heap.size wr w3 := HYY.out.trans (((Below.refl Y.heap.size Y).drew.trans hb3).mono HYY.out.size)
            have hO3 := own_agree hown (Agree.of_below hW3 (own_lt hown))
            have st := own_put (v := .slice (some ⟨gr, 0, none⟩) c.tasks.length f0) (g := gr) (xa := xa) (cs := [.int .i64 t.id, .int .i64 t.prio, .int .i64 t.need.c, .int .i64 t.need.m, .int .i64 t.need.p, .slice A1 t.want.length c1, .slice A2 t.tols.length c2]) (ds := [.int .i64 t.id, .int .i64 t.prio, .int .i64 t.need.c, .int .i64 t.need.m, .int .i64 t.need.p, .slice E1 t.want.length d1, .slice E2 t.tols.length d2]) (xb := ys) hO3 rfl rfl
            rw [hxl] at st
            have hP : TurnB [gr] w3 (putAll w3 gr (k * 7) [.int .i64 t.id, .int .i64 t.prio, .int .i64 t.need.c, .int .i64 t.need.m, .int .i64 t.need.p, .slice E1 t.want.length d1, .slice E2 t.tols.length d2]) := (TurnB.refl _ _).putAll (List.mem_singleton.2 rfl) _ _
            have hE3 := hel.agree TaskO.framed (Agree.of_below hW3 (elems_lt (fun _ _ _ h => h.lt) hel))
            have hgw := own_lt HO.out.1 gr (by simp [blk, Value.ownBlock])
            have hEP := hE3.agree TaskO.framed (hP.agree (fun b hb => ⟨elems_lt (fun _ _ _ h => h.lt) hE3 b hb, by have := hlo b hb; simp; omega⟩))
            have hlo3' : ∀ b ∈ bx, Y.heap.size ≤ b := fun b hb => by have := hlo3 b hb; simpa using this
            have hNP := TaskO.framed _ _ _ _ _ hN (hP.agree (fun b hb => ⟨hN.lt b hb, by have := hlo3' b hb; simp; omega⟩))
            have hYs := HYY.out.size
            refine ⟨k + 1, xa ++ [.int .i64 t.id, .int .i64 t.prio, .int .i64 t.need.c, .int .i64 t.need.m, .int .i64 t.need.p, .slice E1 t.want.length d1, .slice E2 t.tols.length d2], ys, ba ++ bx, by omega, by go_num, by rw [List.append_assoc]; exact st, by rw [take_at ht]; exact hEP.snoc hNP, hbo2.agree (Bor.framed _) (fun _ hb => absurd hb (by simp)), ?_, ?_, ?_⟩
            · rw [List.nodup_append]
              exact ⟨hnd, hnd3, fun a ha b hb e => by have := elems_lt (fun _ _ _ h => h.lt) hel a ha; have := hlo3' b hb; omega⟩
            · intro b hb
              rcases List.mem_append.1 hb with hb | hb
              · exact hlo b hb
              · have := hlo3' b hb; omega
            · exact (HTN.out.step hW3).trans (hP.mono (by simp [blk, Value.ownBlock]))
          case measure => simp [intOf]; omega
      · have hkl : k = c.tasks.length := by omega
        subst hkl
        rw [List.take_length] at hel
        rw [List.drop_length] at hbo
        obtain ⟨rfl, -⟩ := hbo
        rw [List.append_nil] at hown
        have hXW : Below X.heap.size X wr := HBXX.out.trans (htn.below hzX (fun b hb => (HNN.out.1 b hb).1))
        have hd1 := htn.cell HC0.out.2.1 (fun hb => (HNN.out.1 g hb).2 rfl)
        have hd2 := htn.cell HC0.out.2.2 (fun hb => (HNN.out.1 g hb).2 rfl)
        have hn1 : wr.ownsRow 0 60 8 (.slice F1 c.nodes.length f1) c.nodes.length x1 := own_agree HO.out.2.2.1 (htn.agree (fun b hb => ⟨own_lt HO.out.2.2.1 b hb, fun hx => HDD.out.1 b hx b hb rfl⟩))
        have hn2 : wr.ownsRow 0 70 2 (.slice F2 c.binds.length f2) c.binds.length x2 := own_agree HO.out.2.2.2.2.1 (htn.agree (fun b hb => ⟨own_lt HO.out.2.2.2.2.1 b hb, fun hx => HDD.out.2.1 b hx b hb rfl⟩))
        have hbr1 := HBR.out.turn htn (fun hb => by have := (HNN.out.1 _ hb).1; omega)
        have hzX1 : X.heap.size ≤ wr.heap.size := hXW.size
        have HT1 := Lib.hid (And.intro hown (And.intro hel (And.intro hnd (And.intro hlo htn))))
        have HO1 := Lib.hid (And.intro hn1 hn2)
        have HBX1 := Lib.hid hXW
        have HC1 := Lib.hid (And.intro d0 (And.intro hd1 hd2))
        have HBR1 := Lib.hid hbr1
        obtain ⟨baT, hbaT⟩ : ∃ b, b = ba := ⟨_, rfl⟩
        subst hbaT
        obtain ⟨W1, hW1⟩ : ∃ W1, W1 = wr := ⟨_, rfl⟩
        subst hW1
        clear hown hel hnd hlo htn hn1 hn2 hXW hbr1 hd2 d0 c0
        go_wp2_with fail
        go_loopw [36] (fun s36 wr => ∃ (k : Nat) (xa xb : List Value) (ba : List Nat), k ≤ c.nodes.length ∧ s36 = .int .i64 k ∧ wr.ownsRow 0 60 8 (.slice F1 c.nodes.length f1) c.nodes.length (xa ++ xb) ∧ Elems NodeO wr (c.nodes.take k) xa ba ∧ Elems (Bor NodeR X) wr (c.nodes.drop k) xb [] ∧ ba.Nodup ∧ (∀ b ∈ ba, W1.heap.size ≤ b) ∧ TurnB (blk (.slice F1 c.nodes.length f1)) W1 wr) (fun s36 _ => (c.nodes.length - intOf s36).toNat)
        case atStart => exact ⟨0, [], x1, [], by omega, rfl, HO1.out.1, ⟨rfl, rfl⟩, HO.out.2.2.2.1.agree (Bor.framed _) (fun _ hb => absurd hb (by simp)), by simp, by simp, TurnB.refl _ _⟩
        case round =>
          obtain ⟨k, xa, xb, ba, hk, rfl, hown, hel, hbo, hnd, hlo, htn⟩ := hrel
          have hzr := htn.size
          have d0 := htn.cell HC1.out.2.1 (fun hb => (HNN.out.2.1 g hb).2 rfl)
          by_cases hlt : k < c.nodes.length
          · obtain ⟨t, ht⟩ : ∃ t, c.nodes[k]? = some t := ⟨_, List.getElem?_eq_getElem hlt⟩
            rw [drop_at ht] at hbo
            obtain ⟨cs, ys, b1, b2, hxb, hbe, ⟨hR, -⟩, hbo2⟩ := hbo
            obtain ⟨-, rfl⟩ : b1 = [] ∧ b2 = [] := by simpa using hbe.symm
            subst hxb
            obtain ⟨gr, cap, e, hgrl, hcell, hfr⟩ := own_cells hown (by omega)
            simp only [Value.slice.injEq] at e
            obtain ⟨rfl, -, rfl⟩ := e
            have hxl : xa.length = k * 8 := by rw [hel.len (fun _ _ _ h => h.len), List.length_take, Nat.min_eq_left hk]
            have HCT := Lib.hid (fun w1 (hb : Below X.heap.size X w1) => copyNode_any t cs w1 (NodeR.kept _ _ _ _ hb hR))
            obtain ⟨v1, v2, rfl, sl, si, m1, m2⟩ := hR
            obtain ⟨A1, c1, rfl, _⟩ := sl.form
            obtain ⟨A2, c2, rfl, _⟩ := si.form
            have u0 := hcell (k * 8 + 0) _ (by rw [List.getElem?_append_right (by omega), hxl, Nat.add_sub_cancel_left]; rfl); have u1 := hcell (k * 8 + 1) _ (by rw [List.getElem?_append_right (by omega), hxl, Nat.add_sub_cancel_left]; rfl); have u2 := hcell (k * 8 + 2) _ (by rw [List.getElem?_append_right (by omega), hxl, Nat.add_sub_cancel_left]; rfl); have u3 := hcell (k * 8 + 3) _ (by rw [List.getElem?_append_right (by omega), hxl, Nat.add_sub_cancel_left]; rfl); have u4 := hcell (k * 8 + 4) _ (by rw [List.getElem?_append_right (by omega), hxl, Nat.add_sub_cancel_left]; rfl); have u5 := hcell (k * 8 + 5) _ (by rw [List.getElem?_append_right (by omega), hxl, Nat.add_sub_cancel_left]; rfl); have u6 := hcell (k * 8 + 6) _ (by rw [List.getElem?_append_right (by omega), hxl, Nat.add_sub_cancel_left]; rfl); have u7 := hcell (k * 8 + 7) _ (by rw [List.getElem?_append_right (by omega), hxl, Nat.add_sub_cancel_left]; rfl)
            simp only [Nat.add_zero] at u0
            have hlti : (k : Int) < (c.nodes.length : Int) := by omega
            have hk0 : (0 : Int) ≤ (k : Int) := by omega
            have hgg : gr ≠ g := (HNN.out.2.1 gr (by simp [blk, Value.ownBlock])).2
            have hXr : Below X.heap.size X wr := HBX1.out.trans (htn.below hzX1 (fun b hb => (HNN.out.2.1 b hb).1))
            have HOW := Lib.hid (And.intro hown (And.intro hel (And.intro hbo2 (And.intro hxl ht))))
            have HND := Lib.hid (And.intro hnd hlo)
            have HTN := Lib.hid htn
            clear hbe hown hel hbo2 hxl ht hnd hlo htn hcell sl si m1 m2
            go_wp2_with fail
            have hY : Below wr.heap.size wr (wr.alloc (.cells #[.int .i64 t.id, .int .i64 t.pool, .int .i64 t.cap.c, .int .i64 t.cap.m, .int .i64 t.cap.p, .slice A1 t.labs.length c1, .slice A2 t.taints.length c2, .bool t.cordon] 60)) := (by repeat' (first | exact Below.refl _ _ | refine Below.alloc ?_ ?_ _ | refine Below.setCell ?_ ?_ _ | refine Below.drew ?_ | (apply below_step; assumption) | (simp; done) | (simp; omega) | omega))
            have BY := BlockIs.new wr 60 #[.int .i64 t.id, .int .i64 t.pool, .int .i64 t.cap.c, .int .i64 t.cap.m, .int .i64 t.cap.p, .slice A1 t.labs.length c1, .slice A2 t.taints.length c2, .bool t.cordon]
            have hYl : wr.heap.size < (wr.alloc (.cells #[.int .i64 t.id, .int .i64 t.pool, .int .i64 t.cap.c, .int .i64 t.cap.m, .int .i64 t.cap.p, .slice A1 t.labs.length c1, .slice A2 t.taints.length c2, .bool t.cordon] 60)).heap.size := by simp
            have p0 := (World.cell?_alloc_lt wr (.cells #[.int .i64 t.id, .int .i64 t.pool, .int .i64 t.cap.c, .int .i64 t.cap.m, .int .i64 t.cap.p, .slice A1 t.labs.length c1, .slice A2 t.taints.length c2, .bool t.cordon] 60) ⟨gr, _, none⟩ hgrl).trans u0; have p1 := (World.cell?_alloc_lt wr (.cells #[.int .i64 t.id, .int .i64 t.pool, .int .i64 t.cap.c, .int .i64 t.cap.m, .int .i64 t.cap.p, .slice A1 t.labs.length c1, .slice A2 t.taints.length c2, .bool t.cordon] 60) ⟨gr, _, none⟩ hgrl).trans u1; have p2 := (World.cell?_alloc_lt wr (.cells #[.int .i64 t.id, .int .i64 t.pool, .int .i64 t.cap.c, .int .i64 t.cap.m, .int .i64 t.cap.p, .slice A1 t.labs.length c1, .slice A2 t.taints.length c2, .bool t.cordon] 60) ⟨gr, _, none⟩ hgrl).trans u2; have p3 := (World.cell?_alloc_lt wr (.cells #[.int .i64 t.id, .int .i64 t.pool, .int .i64 t.cap.c, .int .i64 t.cap.m, .int .i64 t.cap.p, .slice A1 t.labs.length c1, .slice A2 t.taints.length c2, .bool t.cordon] 60) ⟨gr, _, none⟩ hgrl).trans u3; have p4 := (World.cell?_alloc_lt wr (.cells #[.int .i64 t.id, .int .i64 t.pool, .int .i64 t.cap.c, .int .i64 t.cap.m, .int .i64 t.cap.p, .slice A1 t.labs.length c1, .slice A2 t.taints.length c2, .bool t.cordon] 60) ⟨gr, _, none⟩ hgrl).trans u4; have p5 := (World.cell?_alloc_lt wr (.cells #[.int .i64 t.id, .int .i64 t.pool, .int .i64 t.cap.c, .int .i64 t.cap.m, .int .i64 t.cap.p, .slice A1 t.labs.length c1, .slice A2 t.taints.length c2, .bool t.cordon] 60) ⟨gr, _, none⟩ hgrl).trans u5; have p6 := (World.cell?_alloc_lt wr (.cells #[.int .i64 t.id, .int .i64 t.pool, .int .i64 t.cap.c, .int .i64 t.cap.m, .int .i64 t.cap.p, .slice A1 t.labs.length c1, .slice A2 t.taints.length c2, .bool t.cordon] 60) ⟨gr, _, none⟩ hgrl).trans u6; have p7 := (World.cell?_alloc_lt wr (.cells #[.int .i64 t.id, .int .i64 t.pool, .int .i64 t.cap.c, .int .i64 t.cap.m, .int .i64 t.cap.p, .slice A1 t.labs.length c1, .slice A2 t.taints.length c2, .bool t.cordon] 60) ⟨gr, _, none⟩ hgrl).trans u7
            have pf : ∀ o, (wr.alloc (.cells #[.int .i64 t.id, .int .i64 t.pool, .int .i64 t.cap.c, .int .i64 t.cap.m, .int .i64 t.cap.p, .slice A1 t.labs.length c1, .slice A2 t.taints.length c2, .bool t.cordon] 60)).frozen? ⟨gr, o, none⟩ = false := fun o => (hY.frozen (p := ⟨gr, o, none⟩) hgrl).trans (hfr o)
            have e0' := (World.cell?_alloc_lt wr (.cells #[.int .i64 t.id, .int .i64 t.pool, .int .i64 t.cap.c, .int .i64 t.cap.m, .int .i64 t.cap.p, .slice A1 t.labs.length c1, .slice A2 t.taints.length c2, .bool t.cordon] 60) ⟨g, _, none⟩ (World.block_lt_of_cell? _ _ d0)).trans d0
            generalize (wr.alloc (.cells #[.int .i64 t.id, .int .i64 t.pool, .int .i64 t.cap.c, .int .i64 t.cap.m, .int .i64 t.cap.p, .slice A1 t.labs.length c1, .slice A2 t.taints.length c2, .bool t.cordon] 60)) = Y at hY BY hYl p0 p1 p2 p3 p4 p5 p6 p7 pf e0' ⊢
            have hXY := hXr.trans (hY.mono hXr.size)
            have hgrX : X.heap.size ≤ gr := (HNN.out.2.1 gr (by simp [blk, Value.ownBlock])).1
            have hgrY : gr < Y.heap.size := by omega
            have HKR := Lib.hid (show ∀ w', TurnB [gr] Y w' → (fun w' => Below X.heap.size X w' ∧ w'.cell? ⟨g, 1, none⟩ = some (.slice (some ⟨gr, 0, none⟩) c.nodes.length f1) ∧ (∀ o, w'.cell? ⟨wr.heap.size, o, none⟩ = (#[.int .i64 t.id, .int .i64 t.pool, .int .i64 t.cap.c, .int .i64 t.cap.m, .int .i64 t.cap.p, .slice A1 t.labs.length c1, .slice A2 t.taints.length c2, .bool t.cordon] : Array Value)[o]?)) w' from fun w' ht => ⟨hXY.trans (ht.below hXY.size (by simp; omega)), ht.cell e0' (by simpa using hgg.symm), (BY.turn ht (by simp; omega)).cell⟩)
            have HYY := Lib.hid hY
            clear u0 u1 u2 u3 u4 u5 u6 u7 e0' d0 BY hXr hY
            go_region_held3 (fun w' => Below X.heap.size X w' ∧ w'.cell? ⟨g, 1, none⟩ = some (.slice (some ⟨gr, 0, none⟩) c.nodes.length f1) ∧ (∀ o, w'.cell? ⟨wr.heap.size, o, none⟩ = (#[.int .i64 t.id, .int .i64 t.pool, .int .i64 t.cap.c, .int .i64 t.cap.m, .int .i64 t.cap.p, .slice A1 t.labs.length c1, .slice A2 t.taints.length c2, .bool t.cordon] : Array Value)[o]?))
              (exact HKR.out _ (by repeat' (first | with_reducible exact TurnB.refl _ _ | with_reducible refine TurnB.put ?_ (List.mem_singleton.2 rfl) _ _ | with_reducible refine TurnB.drew ?_ | with_reducible refine TurnB.alloc ?_ _ | (with_reducible apply turn_step; with_reducible assumption))))
              (first | (go_at_call 117; refine (HCT.out _ (by first | exact hXY | exact Below.drew hXY)).mono ?_; rintro e w3 ⟨ds, bx, rfl, hN3, hnd3, hlo3, hb3⟩; have HN3 := Lib.hid (And.intro hN3 (And.intro hnd3 hlo3)); obtain ⟨v3, v4, rfl, n3, n4, -⟩ := hN3; obtain ⟨E1, d1, rfl, -⟩ := own_form n3; obtain ⟨E2, d2, rfl, -⟩ := own_form n4; clear n3 n4 hnd3 hlo3; have x0 := (hb3.cell (p := ⟨gr, k * 8 + 0, none⟩) (by simpa using hgrY)).trans p0; have x1 := (hb3.cell (p := ⟨gr, k * 8 + 1, none⟩) (by simpa using hgrY)).trans p1; have x2 := (hb3.cell (p := ⟨gr, k * 8 + 2, none⟩) (by simpa using hgrY)).trans p2; have x3 := (hb3.cell (p := ⟨gr, k * 8 + 3, none⟩) (by simpa using hgrY)).trans p3; have x4 := (hb3.cell (p := ⟨gr, k * 8 + 4, none⟩) (by simpa using hgrY)).trans p4; have x5 := (hb3.cell (p := ⟨gr, k * 8 + 5, none⟩) (by simpa using hgrY)).trans p5; have x6 := (hb3.cell (p := ⟨gr, k * 8 + 6, none⟩) (by simpa using hgrY)).trans p6; have x7 := (hb3.cell (p := ⟨gr, k * 8 + 7, none⟩) (by simpa using hgrY)).trans p7; (try simp only [Nat.add_zero] at x0); have xf := fun o => (hb3.frozen (p := ⟨gr, o, none⟩) (by simpa using hgrY)).trans (pf o); have hz3 := hb3.size; (try simp at hz3)))
            all_goals
              go_wp2_with fail
              go_roundw
              case rel =>
                obtain ⟨hown, hel, hbo2, hxl, ht⟩ := HOW.out
                obtain ⟨hN, hnd3, hlo3⟩ := HN3.out
                obtain ⟨hnd, hlo⟩ := HND.out
                have hW3 : Below wr.heap.size wr w3 := HYY.out.trans (((Below.refl Y.heap.size Y).drew.trans hb3).mono HYY.out.size)
                have hO3 := own_agree hown (Agree.of_below hW3 (own_lt hown))
                have st := own_put (v := .slice (some ⟨gr, 0, none⟩) c.nodes.length f1) (g := gr) (xa := xa) (cs := [.int .i64 t.id, .int .i64 t.pool, .int .i64 t.cap.c, .int .i64 t.cap.m, .int .i64 t.cap.p, .slice A1 t.labs.length c1, .slice A2 t.taints.length c2, .bool t.cordon]) (ds := [.int .i64 t.id, .int .i64 t.pool, .int .i64 t.cap.c, .int .i64 t.cap.m, .int .i64 t.cap.p, .slice E1 t.labs.length d1, .slice E2 t.taints.length d2, .bool t.cordon]) (xb := ys) hO3 rfl rfl
                rw [hxl] at st
                have hP : TurnB [gr] w3 (putAll w3 gr (k * 8) [.int .i64 t.id, .int .i64 t.pool, .int .i64 t.cap.c, .int .i64 t.cap.m, .int .i64 t.cap.p, .slice E1 t.labs.length d1, .slice E2 t.taints.length d2, .bool t.cordon]) := (TurnB.refl _ _).putAll (List.mem_singleton.2 rfl) _ _
                have hE3 := hel.agree NodeO.framed (Agree.of_below hW3 (elems_lt (fun _ _ _ h => h.lt) hel))
                have hgw := own_lt HO1.out.1 gr (by simp [blk, Value.ownBlock])
                have hEP := hE3.agree NodeO.framed (hP.agree (fun b hb => ⟨elems_lt (fun _ _ _ h => h.lt) hE3 b hb, by have := hlo b hb; simp; omega⟩))
                have hlo3' : ∀ b ∈ bx, Y.heap.size ≤ b := fun b hb => by have := hlo3 b hb; simpa using this
                have hNP := NodeO.framed _ _ _ _ _ hN (hP.agree (fun b hb => ⟨hN.lt b hb, by have := hlo3' b hb; simp; omega⟩))
                have hYs := HYY.out.size
                refine ⟨k + 1, xa ++ [.int .i64 t.id, .int .i64 t.pool, .int .i64 t.cap.c, .int .i64 t.cap.m, .int .i64 t.cap.p, .slice E1 t.labs.length d1, .slice E2 t.taints.length d2, .bool t.cordon], ys, ba ++ bx, by omega, by go_num, by rw [List.append_assoc]; exact st, by rw [take_at ht]; exact hEP.snoc hNP, hbo2.agree (Bor.framed _) (fun _ hb => absurd hb (by simp)), ?_, ?_, ?_⟩
                · rw [List.nodup_append]
                  exact ⟨hnd, hnd3, fun a ha b hb e => by have := elems_lt (fun _ _ _ h => h.lt) hel a ha; have := hlo3' b hb; omega⟩
                · intro b hb
                  rcases List.mem_append.1 hb with hb | hb
                  · exact hlo b hb
                  · have := hlo3' b hb; omega
                · exact (HTN.out.step hW3).trans (hP.mono (by simp [blk, Value.ownBlock]))
              case measure => simp [intOf]; omega
          · have hkl : k = c.nodes.length := by omega
            subst hkl
            rw [List.take_length] at hel
            rw [List.drop_length] at hbo
            obtain ⟨rfl, -⟩ := hbo
            rw [List.append_nil] at hown
            have q0 := htn.cell HC1.out.1 (fun hb => (HNN.out.2.1 g hb).2 rfl)
            have q1 := htn.cell HC1.out.2.1 (fun hb => (HNN.out.2.1 g hb).2 rfl)
            have q2 := htn.cell HC1.out.2.2 (fun hb => (HNN.out.2.1 g hb).2 rfl)
            have hbr := HBR1.out.turn htn (fun hb => by have := (HNN.out.2.1 _ hb).1; omega)
            have z0 := hbr.cell 0
            have z1 := hbr.cell 1
            have z2 := hbr.cell 2
            have zf := hbr.frozen
            simp at z0 z1 z2
            have HBR2 := Lib.hid hbr
            have HF := Lib.hid (And.intro hown (And.intro hel (And.intro hnd (And.intro hlo htn))))
            clear hown hel hnd hlo htn hbr hd1 d0
            go_wp2_with fail
            have hV : BlockIs (((wr.setCell ⟨w.heap.size + 1, 0, none⟩ (.slice F0 c.tasks.length f0)).setCell ⟨w.heap.size + 1, 1, none⟩ (.slice F1 c.nodes.length f1)).setCell ⟨w.heap.size + 1, 2, none⟩ (.slice F2 c.binds.length f2)) (w.heap.size + 1) 39 #[.slice F0 c.tasks.length f0, .slice F1 c.nodes.length f1, .slice F2 c.binds.length f2] := by
              have := ((HBR2.out.put 0 (.slice F0 c.tasks.length f0)).put 1 (.slice F1 c.nodes.length f1)).put 2 (.slice F2 c.binds.length f2)
              simpa using this
            have hTY : TurnB [w.heap.size + 1] wr (((wr.setCell ⟨w.heap.size + 1, 0, none⟩ (.slice F0 c.tasks.length f0)).setCell ⟨w.heap.size + 1, 1, none⟩ (.slice F1 c.nodes.length f1)).setCell ⟨w.heap.size + 1, 2, none⟩ (.slice F2 c.binds.length f2)) := (((TurnB.refl _ _).put (List.mem_singleton.2 rfl) _ _).put (List.mem_singleton.2 rfl) _ _).put (List.mem_singleton.2 rfl) _ _
            generalize (((wr.setCell ⟨w.heap.size + 1, 0, none⟩ (.slice F0 c.tasks.length f0)).setCell ⟨w.heap.size + 1, 1, none⟩ (.slice F1 c.nodes.length f1)).setCell ⟨w.heap.size + 1, 2, none⟩ (.slice F2 c.binds.length f2)) = Y at hV hTY ⊢
            have y0 := hV.cell 0
            have y1 := hV.cell 1
            have y2 := hV.cell 2
            simp at y0 y1 y2
            obtain ⟨o0, e0', nd0, lo0, t0⟩ := HT1.out
            obtain ⟨o1, e1', nd1, lo1, t1⟩ := HF.out
            have hzX2 := HXZ.out
            have hCO := copyC_own o0 e0' nd0 lo0 o1 e1' nd1 lo1 t1 HO1.out.2 HO.out.2.2.2.2.2 (own_lt HO.out.1) (own_lt HO.out.2.2.1) (own_lt HO.out.2.2.2.2.1) t0.size HDD.out.1 HDD.out.2.1 HDD.out.2.2 HL.out
            have hloC : ∀ b ∈ (blk (.slice F0 c.tasks.length f0) ++ baT) ++ ((blk (.slice F1 c.nodes.length f1) ++ ba) ++ blk (.slice F2 c.binds.length f2)), X.heap.size ≤ b := by
              intro b hb
              rcases List.mem_append.1 hb with hb | hb
              · rcases List.mem_append.1 hb with hb | hb
                · exact (HNN.out.1 b hb).1
                · have := lo0 b hb; omega
              · rcases List.mem_append.1 hb with hb | hb
                · rcases List.mem_append.1 hb with hb | hb
                  · exact (HNN.out.2.1 b hb).1
                  · have := lo1 b hb; omega
                · exact (HNN.out.2.2 b hb).1
            have hXr : Below X.heap.size X wr := HBX1.out.trans (t1.below hzX1 (fun b hb => (HNN.out.2.1 b hb).1))
            have hwr := hX.trans (hXr.mono hX.size)
            refine bodyPost_ret (v := .agg #[.slice F0 c.tasks.length f0, .slice F1 c.nodes.length f1, .slice F2 c.binds.length f2]) (by simp [results, Tryz.results101, go_sem, y0, y1, y2]) rfl ⟨_, _, _, _, rfl, hCO.agree (hTY.agree (fun b hb => ⟨hCO.lt b hb, by have := hloC b hb; simp; omega⟩)), fun b hb => by have := hloC b hb; omega, hwr.trans (hTY.below hwr.size (by simp))⟩
end Go.Proofs.YtocfgejceoenmaaGreatDoor

namespace Go.Proofs.YtocfgejceoenmaaGreatDoor
open Go.RowKit

section
variable {P : Program} {ops : Array Oper} {Q : Exit → Act → World → Prop} {md : Region.Mode} {S : World → Prop}
theorem hTwo {i j : Nat} {o1 o2 : Oper} {fuel : Nat} {listed : Array Bool} {a : Act} {w : World} (h1 : ops[i]? = some o1) (h2 : ops[j]? = some o2) (hr : Region.ready md ops listed = [i, j])
    (w1 : Region.wanted o1 (yielded ops a.tmps) = true) (w2 : Region.wanted o2 (yielded ops a.tmps) = true)
    (b1 : ∀ K' : Act → World → Prop, Shut (∀ a w, S w → (S w → wpAnyH P md ops Q S fuel (listed.setIfInBounds i true) a w) → K' a w) → Oper.wp P o1 a w K' Q)
    (b2 : ∀ K' : Act → World → Prop, Shut (∀ a w, S w → (S w → wpAnyH P md ops Q S fuel (listed.setIfInBounds j true) a w) → K' a w) → Oper.wp P o2 a w K' Q) : wpAnyH P md ops Q S (fuel + 1) listed a w :=
  wpAnyH_ready hr (by simp) (AllReadyH.cons h1 (fun K' hK => by rw [if_pos w1]; exact b1 K' hK) (AllReadyH.cons h2 (fun K' hK => by rw [if_pos w2]; exact b2 K' hK) AllReadyH.nil))
end
theorem add_bad {c : CV} {t : TV} (h : codeAdd (!t.ok) (clusterOk c) (fstBy TV.id c.tasks t.id).isSome (decide (c.tasks.length = 30)) ≠ 0) : taskAddG c t = (CV.zero, codeAdd (!t.ok) (clusterOk c) (fstBy TV.id c.tasks t.id).isSome (decide (c.tasks.length = 30))) := by
  cases h1 : clusterOk c <;> cases h2 : t.ok
  · rw [taskAddG_form (by rw [h1]; rfl)]; rfl
  · rw [taskAddG_form (by rw [h1]; rfl)]; rfl
  · rw [taskAddG_form (by rw [h1, h2]; rfl)]; rfl
  · have hk : (clusterOk c && t.ok) = true := by rw [h1, h2]; rfl
    cases hf : fstBy TV.id c.tasks t.id with
    | some x => rw [taskAddG_twice hk hf]; rfl
    | none =>
      by_cases h30 : c.tasks.length = 30
      · rw [taskAddG_full hk hf h30]; simp [codeAdd, h30]
      · simp [codeAdd, h1, h2, hf, h30] at h
theorem add_good {c : CV} {t : TV} (h : codeAdd (!t.ok) (clusterOk c) (fstBy TV.id c.tasks t.id).isSome (decide (c.tasks.length = 30)) = 0) : (clusterOk c && t.ok) = true ∧ fstBy TV.id c.tasks t.id = none ∧ c.tasks.length ≠ 30 := by
  unfold codeAdd at h
  cases h1 : clusterOk c <;> cases h2 : t.ok <;> cases h3 : fstBy TV.id c.tasks t.id <;> by_cases h4 : c.tasks.length = 30 <;> simp_all
/-- The request stands in block g. -/
def CutQ (X : World) (cs : Array Value) (s8 : Value) (wx : World) : Prop := ∃ g, s8 = .pointer (some ⟨g, 0, none⟩) ∧ X.heap.size ≤ g ∧ BlockIs wx g 130 cs ∧ Below X.heap.size X wx
set_option maxHeartbeats 6400000 in
set_option maxRecDepth 20000 in
theorem withTask_any (c : CV) (a0 a1 a2 : Value) (t : TV) (cs : List Value) (w : World) (x : Addr) (hg : ErrAt x w) (hc : CluR w c a0 a1 a2) (hR : TaskR w t cs) :
    Calls Tryz.prog 58 #[.agg #[a0, a1, a2], .agg cs.toArray] w (RetCluE w (taskAddG c t).1 (taskAddG c t).2) := by
  obtain ⟨i0, hi0, hz0, hs0, hy0⟩ := info_parts Tryz.infoTask
  have hfi := fun w1 hw1 => findTask_any c a0 a1 a2 t.id w w1 hw1 hc
  have hcp := fun w1 h => copyCluster_any c a0 a1 a2 w1 h
  have hbad := @add_bad c t
  have hgood := @add_good c t
  obtain ⟨D0, D1, D2, e0, e1, e2, rfl, rfl, rfl, hF⟩ := hc.full
  have hck := fun inv ex full w1 hg1 h => checkFull_any c D0 D1 D2 e0 e1 e2 inv ex full w1 x hg1 h
  have l0 := hF.l0
  have HC := Lib.hid hc
  have HG := Lib.hid hg
  have HR := Lib.hid hR
  obtain ⟨v1, v2, rfl, sl, si, m1, m2⟩ := hR
  obtain ⟨A1, c1, rfl, _⟩ := sl.form
  obtain ⟨A2, c2, rfl, _⟩ := si.form
  have hto := fun w h1 h2 h3 => TaskOk_any t (.slice A1 t.want.length c1) (.slice A2 t.tols.length c2) w x h1 h2 h3 m1 m2
  have SL := Lib.hid sl
  have SI := Lib.hid si
  have HADD := Lib.hid (And.intro hbad hgood)
  have HE30 := Lib.hid (show ((c.tasks.length : Int) == 30) = decide (c.tasks.length = 30) by rw [Bool.eq_iff_iff]; simp; omega)
  obtain ⟨tok, hq2⟩ : ∃ b, b = t.ok := ⟨_, rfl⟩
  rw [← hq2] at hto
  have HQ := Lib.hid hq2
  have HTO := Lib.hid hto
  have HFI := Lib.hid hfi
  have HCP := Lib.hid hcp
  have HCKF := Lib.hid hck
  clear hto hfi hcp hck hc hg hF sl si m1 m2 hq2 hbad hgood
  go_enter Tryz.func58, Tryz.ntmps58
  go_wp2_with fail
  have hX0 : Below w.heap.size w (((w.alloc (.cells #[.slice D0 c.tasks.length e0, .slice D1 c.nodes.length e1, .slice D2 c.binds.length e2] 39)).alloc (.cells #[.int .i64 t.id, .int .i64 t.prio, .int .i64 t.need.c, .int .i64 t.need.m, .int .i64 t.need.p, .slice A1 t.want.length c1, .slice A2 t.tols.length c2] 46)).alloc (.cells #[.slice none 0 0, .slice none 0 0, .slice none 0 0] 39)) := (by repeat' (first | exact Below.refl _ _ | refine Below.alloc ?_ ?_ _ | refine Below.setCell ?_ ?_ _ | refine Below.drew ?_ | (apply below_step; assumption) | (simp; done) | (simp; omega) | omega))
  refine (HFI.out _ hX0).mono ?_
  rintro e w1 ⟨fs, rfl, hRF, hb1⟩
  have hC1 := below_of hX0 hb1
  have hz1 := hb1.size
  simp at hz1
  have BC : BlockIs w1 w.heap.size 39 #[.slice D0 c.tasks.length e0, .slice D1 c.nodes.length e1, .slice D2 c.binds.length e2] := (((BlockIs.new w _ _).alloc _).alloc _).below hb1 (by simp; omega)
  have BT : BlockIs w1 (w.heap.size + 1) 46 #[.int .i64 t.id, .int .i64 t.prio, .int .i64 t.need.c, .int .i64 t.need.m, .int .i64 t.need.p, .slice A1 t.want.length c1, .slice A2 t.tols.length c2] := (BlockIs.alloc (BlockIs.new' (by simp)) _).below hb1 (by simp)
  have BR : BlockIs w1 (w.heap.size + 1 + 1) 39 #[.slice none 0 0, .slice none 0 0, .slice none 0 0] := (BlockIs.new' (by simp)).below hb1 (by simp)
  generalize (fstBy TV.id c.tasks t.id).getD TV.zero = tf at hRF
  obtain ⟨ex, hex⟩ : ∃ b, b = (fstBy TV.id c.tasks t.id).isSome := ⟨_, rfl⟩
  rw [← hex]
  have HEX := Lib.hid hex
  obtain ⟨u1, u2, rfl, sf, sg, _, _⟩ := hRF
  obtain ⟨B1, d1, rfl, _⟩ := sf.form
  obtain ⟨B2, d2, rfl, _⟩ := sg.form
  clear sf sg hex hb1 hX0
  go_upto_region 2 with fail
  have hX : Below w1.heap.size w1 (w1.alloc (.cells #[.int .i64 tf.id, .int .i64 tf.prio, .int .i64 tf.need.c, .int .i64 tf.need.m, .int .i64 tf.need.p, .slice B1 tf.want.length d1, .slice B2 tf.tols.length d2] 46)) := (by repeat' (first | exact Below.refl _ _ | refine Below.alloc ?_ ?_ _ | refine Below.setCell ?_ ?_ _ | refine Below.drew ?_ | (apply below_step; assumption) | (simp; done) | (simp; omega) | omega))
  have BC := BC.alloc (.cells #[.int .i64 tf.id, .int .i64 tf.prio, .int .i64 tf.need.c, .int .i64 tf.need.m, .int .i64 tf.need.p, .slice B1 tf.want.length d1, .slice B2 tf.tols.length d2] 46)
  have BT := BT.alloc (.cells #[.int .i64 tf.id, .int .i64 tf.prio, .int .i64 tf.need.c, .int .i64 tf.need.m, .int .i64 tf.need.p, .slice B1 tf.want.length d1, .slice B2 tf.tols.length d2] 46)
  have BR := BR.alloc (.cells #[.int .i64 tf.id, .int .i64 tf.prio, .int .i64 tf.need.c, .int .i64 tf.need.m, .int .i64 tf.need.p, .slice B1 tf.want.length d1, .slice B2 tf.tols.length d2] 46)
  have hXl : w.heap.size + 3 < (w1.alloc (.cells #[.int .i64 tf.id, .int .i64 tf.prio, .int .i64 tf.need.c, .int .i64 tf.need.m, .int .i64 tf.need.p, .slice B1 tf.want.length d1, .slice B2 tf.tols.length d2] 46)).heap.size := by simp; omega
  have hCX := below_of hC1 hX
  generalize (w1.alloc (.cells #[.int .i64 tf.id, .int .i64 tf.prio, .int .i64 tf.need.c, .int .i64 tf.need.m, .int .i64 tf.need.p, .slice B1 tf.want.length d1, .slice B2 tf.tols.length d2] 46)) = X at hX BC BT BR hXl hCX ⊢
  have HBX := Lib.hid (And.intro BC (And.intro BT BR))
  have HK := Lib.hid (show ∀ w', Below X.heap.size X w' → (fun w' => Below X.heap.size X w' ∧ (∀ o, w'.cell? ⟨w.heap.size, o, none⟩ = (#[.slice D0 c.tasks.length e0, .slice D1 c.nodes.length e1, .slice D2 c.binds.length e2] : Array Value)[o]?) ∧ (∀ o, w'.cell? ⟨w.heap.size + 1, o, none⟩ = (#[.int .i64 t.id, .int .i64 t.prio, .int .i64 t.need.c, .int .i64 t.need.m, .int .i64 t.need.p, .slice A1 t.want.length c1, .slice A2 t.tols.length c2] : Array Value)[o]?)) w' from fun w' hb => ⟨hb, (BC.below hb BC.lt).cell, (BT.below hb BT.lt).cell⟩)
  have HTX := Lib.hid (show ∀ w', Below X.heap.size X w' → _ from fun w' hb => HTO.out w' (HG.out.below (below_of hCX hb) (Nat.le_refl _)) (SL.out.below (below_of hCX hb)) (SI.out.below (below_of hCX hb)))
  clear BC BT BR hX hC1 hz1
  go_cut [8] (fun s8 wx => CutQ X #[.slice D0 c.tasks.length e0, .slice D1 c.nodes.length e1, .slice D2 c.binds.length e2, .bool (!tok), .bool ex, .bool (decide (c.tasks.length = 30)), .int .i64 0, .int .i64 0, .int .i64 0, .int .i64 0, .int .i64 0, .slice none 0 0, .slice none 0 0, .int .i64 0, .int .i64 0, .int .i64 0, .int .i64 0, .int .i64 0, .slice none 0 0, .slice none 0 0, .bool false] s8 wx)
  case first =>
    refine wp_region_held_drew (S := (fun w' => Below X.heap.size X w' ∧ (∀ o, w'.cell? ⟨w.heap.size, o, none⟩ = (#[.slice D0 c.tasks.length e0, .slice D1 c.nodes.length e1, .slice D2 c.binds.length e2] : Array Value)[o]?) ∧ (∀ o, w'.cell? ⟨w.heap.size + 1, o, none⟩ = (#[.int .i64 t.id, .int .i64 t.prio, .int .i64 t.need.c, .int .i64 t.need.m, .int .i64 t.need.p, .slice A1 t.want.length c1, .slice A2 t.tols.length c2] : Array Value)[o]?))) (by kernel_rfl) (by (try dsimp only); exact HK.out _ (by repeat' (first | with_reducible exact Below.refl _ _ | with_reducible refine Below.alloc ?_ ?_ _ | with_reducible refine Below.setCell ?_ ?_ _ | with_reducible refine Below.drew ?_ | with_reducible refine below_setRow ?_ ?_ _ | (with_reducible apply below_step; with_reducible assumption) | (simp; done) | (simp; omega) | omega))) (fun hHeld => ?_)
    refine hTake (i := 0) (oi := ?a2) (v := ?f2) (d := ?g2) ?b2 ?c2 (by kernel_rfl) ?d2 ?e2 ?h2 (by assumption) ?_; (case b2 => simp only [rhN]; try rfl); (case c2 => (try dsimp only); rfl); (case e2 => rfl); (case d2 => exact fun _ _ _ h => h); (case h2 => intro w hSw; (try dsimp only at hSw); go_simp <;> with_reducible rfl); simp only [Act.put, rhA, rhS, rhT]
    refine hTake (i := 1) (oi := ?a4) (v := ?f4) (d := ?g4) ?b4 ?c4 (by kernel_rfl) ?d4 ?e4 ?h4 (by assumption) ?_; (case b4 => simp only [rhN, rhM]; try rfl); (case c4 => (try dsimp only); rfl); (case e4 => rfl); (case d4 => exact fun _ _ _ h => h); (case h4 => intro w hSw; (try dsimp only at hSw); go_simp <;> with_reducible rfl); simp only [Act.put, rhA, rhS, rhT]
    refine hTake (i := 4) (oi := ?a6) (v := ?f6) (d := ?g6) ?b6 ?c6 (by kernel_rfl) ?d6 ?e6 ?h6 (by assumption) ?_; (case b6 => simp only [rhN, rhM]; try rfl); (case c6 => (try dsimp only); rfl); (case e6 => rfl); (case d6 => exact fun _ _ _ h => h); (case h6 => intro w hSw; (try dsimp only at hSw); go_simp <;> with_reducible rfl); simp only [Act.put, rhA, rhS, rhT]
    refine hTake (i := 5) (oi := ?a7) (v := ?f7) (d := ?g7) ?b7 ?c7 (by kernel_rfl) ?d7 ?e7 ?h7 (by assumption) ?_; (case b7 => simp only [rhN, rhM]; try rfl); (case c7 => (try dsimp only); rfl); (case e7 => rfl); (case d7 => exact fun _ _ _ h => h); (case h7 => intro w hSw; (try dsimp only at hSw); go_simp <;> with_reducible rfl); simp only [Act.put, rhA, rhS, rhT]
    refine hTake (i := 6) (oi := ?a8) (v := ?f8) (d := ?g8) ?b8 ?c8 (by kernel_rfl) ?d8 ?e8 ?h8 (by assumption) ?_; (case b8 => simp only [rhN, rhM]; try rfl); (case c8 => (try dsimp only); rfl); (case e8 => rfl); (case d8 => exact fun _ _ _ h => h); (case h8 => intro w hSw; (try dsimp only at hSw); go_simp <;> with_reducible rfl); simp only [Act.put, rhA, rhS, rhT]
    refine hTake (i := 7) (oi := ?a9) (v := ?f9) (d := ?g9) ?b9 ?c9 (by kernel_rfl) ?d9 ?e9 ?h9 (by assumption) ?_; (case b9 => simp only [rhN, rhM]; try rfl); (case c9 => (try dsimp only); rfl); (case e9 => rfl); (case d9 => exact fun _ _ _ h => h); (case h9 => intro w hSw; (try dsimp only at hSw); go_simp <;> with_reducible rfl); simp only [Act.put, rhA, rhS, rhT]
    refine hTake (i := 8) (oi := ?a10) (v := ?f10) (d := ?g10) ?b10 ?c10 (by kernel_rfl) ?d10 ?e10 ?h10 (by assumption) ?_; (case b10 => simp only [rhN, rhM]; try rfl); (case c10 => (try dsimp only); rfl); (case e10 => rfl); (case d10 => exact fun _ _ _ h => h); (case h10 => intro w hSw; (try dsimp only at hSw); go_simp <;> with_reducible rfl); simp only [Act.put, rhA, rhS, rhT]
    refine hTwo (i := 2) (j := 10) (o1 := ?oa) (o2 := ?ob) ?ha ?hb (by kernel_rfl) ?wa ?wb (fun K hK => ?ca) (fun K hK => ?cb)
    case ha => simp only [rhN, rhM]; try rfl
    case hb => simp only [rhN, rhM]; try rfl
    case wa => rfl
    case wb => rfl
    case ca =>
      go_simp
      go_at_call 99
      refine (HTX.out _ (by repeat' (first | with_reducible exact Below.refl _ _ | with_reducible refine Below.alloc ?_ ?_ _ | with_reducible refine Below.setCell ?_ ?_ _ | with_reducible refine Below.drew ?_ | with_reducible refine below_setRow ?_ ?_ _ | (with_reducible apply below_step; with_reducible assumption) | (simp; done) | (simp; omega) | omega))).mono ?_
      rintro e wa ⟨rfl, hba⟩
      obtain ⟨hca, hfa⟩ := bcell hba
      have hza := hba.size
      (try simp at hza)
      refine hK.out _ _ (by (try dsimp only); exact HK.out _ (by repeat' (first | with_reducible exact Below.refl _ _ | with_reducible refine Below.alloc ?_ ?_ _ | with_reducible refine Below.setCell ?_ ?_ _ | with_reducible refine Below.drew ?_ | with_reducible refine below_setRow ?_ ?_ _ | (with_reducible apply below_step; with_reducible assumption) | (simp; done) | (simp; omega) | omega))) (fun hHeld => ?_)
      clear hK K
      try simp only [Act.put, rhA, rhS, rhT]
      refine hTake (i := 3) (oi := ?a12) (v := ?f12) (d := ?g12) ?b12 ?c12 (by kernel_rfl) ?d12 ?e12 ?h12 (by assumption) ?_; (case b12 => simp only [rhN, rhM]; try rfl); (case c12 => (try dsimp only); rfl); (case e12 => rfl); (case d12 => exact fun _ _ _ h => h); (case h12 => intro w hSw; (try dsimp only at hSw); go_simp <;> with_reducible rfl); simp only [Act.put, rhA, rhS, rhT]
      refine hTake (i := 9) (oi := ?a14) (v := ?f14) (d := ?g14) ?b14 ?c14 (by kernel_rfl) ?d14 ?e14 ?h14 (by assumption) ?_; (case b14 => simp only [rhN, rhM]; try rfl); (case c14 => (try dsimp only); rfl); (case e14 => rfl); (case d14 => exact fun _ _ _ h => h); (case h14 => intro w hSw; (try dsimp only at hSw); go_simp <;> with_reducible rfl); simp only [Act.put, rhA, rhS, rhT]
      refine hCall (i := 10) (o := ?a15) ?b15 (by kernel_rfl) ?c15 (fun K hK => ?d15)
      case b15 => simp only [rhN, rhM]; try rfl
      case c15 => rfl
      go_simp
      refine hK.out _ _ (by (try dsimp only); exact HK.out _ (by repeat' (first | with_reducible exact Below.refl _ _ | with_reducible refine Below.alloc ?_ ?_ _ | with_reducible refine Below.setCell ?_ ?_ _ | with_reducible refine Below.drew ?_ | with_reducible refine below_setRow ?_ ?_ _ | (with_reducible apply below_step; with_reducible assumption) | (simp; done) | (simp; omega) | omega))) (fun hHeld => ?_)
      clear hK K
      try simp only [Act.put, rhA, rhS, rhT]
      have hbl := BlockIs.new wa 130 #[.slice none 0 0, .slice none 0 0, .slice none 0 0, .bool false, .bool false, .bool false, .int .i64 0, .int .i64 0, .int .i64 0, .int .i64 0, .int .i64 0, .slice none 0 0, .slice none 0 0, .int .i64 0, .int .i64 0, .int .i64 0, .int .i64 0, .int .i64 0, .slice none 0 0, .slice none 0 0, .bool false]
      refine hCall (i := 11) (o := ?a16) ?b16 (by kernel_rfl) ?c16 (fun K hK => ?d16)
      case b16 => simp only [rhN, rhM]; try rfl
      case c16 => rfl
      refine wp_store_row 130 _ _ rfl wa.heap.size _ rfl rfl 130 _ hbl (by kernel_rfl) rfl (by simp [Value.oneCell']) ?_
      refine hK.out _ _ (by (try dsimp only); exact HK.out _ (by repeat' (first | with_reducible exact Below.refl _ _ | with_reducible refine Below.alloc ?_ ?_ _ | with_reducible refine Below.setCell ?_ ?_ _ | with_reducible refine Below.drew ?_ | with_reducible refine below_setRow ?_ ?_ _ | (with_reducible apply below_step; with_reducible assumption) | (simp; done) | (simp; omega) | omega))) (fun hHeld => ?_)
      clear hK K
      try simp only [Act.put]
      refine wpAnyH_done (by kernel_rfl) ?_ _
      go_wp2_with fail
      go_meet
      exact ⟨_, rfl, by omega, by rw [HE30.out]; exact setRow_heap _ _ _ _ _ _ hbl, (by repeat' (first | with_reducible exact Below.refl _ _ | with_reducible refine Below.alloc ?_ ?_ _ | with_reducible refine Below.setCell ?_ ?_ _ | with_reducible refine Below.drew ?_ | with_reducible refine below_setRow ?_ ?_ _ | (with_reducible apply below_step; with_reducible assumption) | (simp; done) | (simp; omega) | omega))⟩
    case cb =>
      go_simp
      refine hK.out _ _ (by (try dsimp only); exact HK.out _ (by repeat' (first | with_reducible exact Below.refl _ _ | with_reducible refine Below.alloc ?_ ?_ _ | with_reducible refine Below.setCell ?_ ?_ _ | with_reducible refine Below.drew ?_ | with_reducible refine below_setRow ?_ ?_ _ | (with_reducible apply below_step; with_reducible assumption) | (simp; done) | (simp; omega) | omega))) (fun hHeld => ?_)
      clear hK K
      try simp only [Act.put, rhA, rhS, rhT]
      refine hCall (i := 2) (o := ?a17) ?b17 (by kernel_rfl) ?c17 (fun K hK => ?d17)
      case b17 => simp only [rhN, rhM]; try rfl
      case c17 => rfl
      go_simp; go_at_call 99; refine (HTX.out _ (by repeat' (first | with_reducible exact Below.refl _ _ | with_reducible refine Below.alloc ?_ ?_ _ | with_reducible refine Below.setCell ?_ ?_ _ | with_reducible refine Below.drew ?_ | with_reducible refine below_setRow ?_ ?_ _ | (with_reducible apply below_step; with_reducible assumption) | (simp; done) | (simp; omega) | omega))).mono ?_; rintro e wa ⟨rfl, hba⟩; have hza := hba.size; (try simp at hza); have hbl : BlockIs wa X.heap.size 130 #[.slice none 0 0, .slice none 0 0, .slice none 0 0, .bool false, .bool false, .bool false, .int .i64 0, .int .i64 0, .int .i64 0, .int .i64 0, .int .i64 0, .slice none 0 0, .slice none 0 0, .int .i64 0, .int .i64 0, .int .i64 0, .int .i64 0, .int .i64 0, .slice none 0 0, .slice none 0 0, .bool false] := (BlockIs.new X.drew _ _).below hba (by simp)
      refine hK.out _ _ (by (try dsimp only); exact HK.out _ (by repeat' (first | with_reducible exact Below.refl _ _ | with_reducible refine Below.alloc ?_ ?_ _ | with_reducible refine Below.setCell ?_ ?_ _ | with_reducible refine Below.drew ?_ | with_reducible refine below_setRow ?_ ?_ _ | (with_reducible apply below_step; with_reducible assumption) | (simp; done) | (simp; omega) | omega))) (fun hHeld => ?_)
      clear hK K
      try simp only [Act.put, rhA, rhS, rhT]
      refine hTake (i := 3) (oi := ?a19) (v := ?f19) (d := ?g19) ?b19 ?c19 (by kernel_rfl) ?d19 ?e19 ?h19 (by assumption) ?_; (case b19 => simp only [rhN, rhM]; try rfl); (case c19 => (try dsimp only); rfl); (case e19 => rfl); (case d19 => exact fun _ _ _ h => h); (case h19 => intro w hSw; (try dsimp only at hSw); go_simp <;> with_reducible rfl); simp only [Act.put, rhA, rhS, rhT]
      refine hTake (i := 9) (oi := ?a21) (v := ?f21) (d := ?g21) ?b21 ?c21 (by kernel_rfl) ?d21 ?e21 ?h21 (by assumption) ?_; (case b21 => simp only [rhN, rhM]; try rfl); (case c21 => (try dsimp only); rfl); (case e21 => rfl); (case d21 => exact fun _ _ _ h => h); (case h21 => intro w hSw; (try dsimp only at hSw); go_simp <;> with_reducible rfl); simp only [Act.put, rhA, rhS, rhT]
      refine hCall (i := 11) (o := ?a22) ?b22 (by kernel_rfl) ?c22 (fun K hK => ?d22)
      case b22 => simp only [rhN, rhM]; try rfl
      case c22 => rfl
      refine wp_store_row 130 _ _ rfl X.heap.size _ rfl rfl 130 _ hbl (by kernel_rfl) rfl (by simp [Value.oneCell']) ?_
      refine hK.out _ _ (by (try dsimp only); exact HK.out _ (by repeat' (first | with_reducible exact Below.refl _ _ | with_reducible refine Below.alloc ?_ ?_ _ | with_reducible refine Below.setCell ?_ ?_ _ | with_reducible refine Below.drew ?_ | with_reducible refine below_setRow ?_ ?_ _ | (with_reducible apply below_step; with_reducible assumption) | (simp; done) | (simp; omega) | omega))) (fun hHeld => ?_)
      clear hK K
      try simp only [Act.put]
      refine wpAnyH_done (by kernel_rfl) ?_ _
      go_wp2_with fail
      go_meet
      exact ⟨_, rfl, by omega, by rw [HE30.out]; exact setRow_heap _ _ _ _ _ _ hbl, (by repeat' (first | with_reducible exact Below.refl _ _ | with_reducible refine Below.alloc ?_ ?_ _ | with_reducible refine Below.setCell ?_ ?_ _ | with_reducible refine Below.drew ?_ | with_reducible refine below_setRow ?_ ?_ _ | (with_reducible apply below_step; with_reducible assumption) | (simp; done) | (simp; omega) | omega))⟩
  case rest =>
    obtain ⟨q, rfl, hqX, BQ, hBx⟩ := hcut
    have hC2 := below_of hCX hBx
    have hz2 := hBx.size
    have BC := HBX.out.1.below hBx HBX.out.1.lt
    have BT := HBX.out.2.1.below hBx HBX.out.2.1.lt
    have BR := HBX.out.2.2.below hBx HBX.out.2.2.lt
    have HB2 := Lib.hid (And.intro BC (And.intro BT BR))
    have HBQ := Lib.hid BQ
    clear BC BT BR BQ hBx HBX HK HTX HTO HFI
    go_wp2_with (refine wpList_load_row rfl 130 (.tmp 8) rfl q rfl 130 _ (0, 0) _ HBQ.out Tryz.underlying130 rfl (by kernel_rfl) ?_)
    refine (HCKF.out (!tok) ex (decide (c.tasks.length = 30)) _ (HG.out.below hC2 (Nat.le_refl _)) (HC.out.below hC2)).mono ?_
    rintro e w3 ⟨rfl, hb3⟩
    have hC3 := below_of hC2 hb3
    have hz3 := hb3.size
    have BC := HB2.out.1.below hb3 HB2.out.1.lt
    have BT := HB2.out.2.1.below hb3 HB2.out.2.1.lt
    have BR := HB2.out.2.2.below hb3 HB2.out.2.2.lt
    have HBT3 := Lib.hid BT
    have HBR3 := Lib.hid BR
    have r0 := BR.cell 0
    have r1 := BR.cell 1
    have r2 := BR.cell 2
    have rf := BR.frozen
    have g0 := BC.cell 0
    have g1 := BC.cell 1
    have g2 := BC.cell 2
    simp at r0 r1 r2 g0 g1 g2
    have hADD := HADD.out
    rw [← HQ.out, ← HEX.out] at hADD
    generalize codeAdd (!tok) (clusterOk c) ex (decide (c.tasks.length = 30)) = z at hADD ⊢
    have HADZ := Lib.hid hADD
    clear BC BT BR hb3 HBQ HB2 hADD HADD HEX HE30
    by_cases h0 : z = 0
    · subst h0
      rw [errV_zero]
      obtain ⟨hok2, hff, h30⟩ := HADZ.out.2 rfl
      rw [HQ.out] at hok2
      have HOK2 := Lib.hid hok2
      have HFF := Lib.hid hff
      have H30 := Lib.hid h30
      have HCK := Lib.hid (show clusterOk c = true by simp only [Bool.and_eq_true] at hok2; exact hok2.1)
      clear hok2 hff h30
      go_wp2_with fail
      refine (HCP.out _ (HC.out.below hC3)).mono ?_
      rintro e w4 ⟨b0, b1, b2, bs, rfl, hCO, hlo, hb4⟩
      obtain ⟨bT, bN, bB, hrT, hrN, hrB, rfl, hnd, _, ln, lb⟩ := hCO
      have hC4 := below_of hC3 hb4
      have hz4 := hb4.size
      have hltT := rowO_lt (fun _ _ _ h => h.lt) hrT
      have hltN := rowO_lt (fun _ _ _ h => h.lt) hrN
      have hltB := rowO_lt (fun _ _ _ h => h.lt) hrB
      obtain ⟨xN, yN, oN, eN, rfl⟩ := hrN
      obtain ⟨FN, fN, rfl, _⟩ := own_form oN
      obtain ⟨xB, yB, oB, eB, rfl⟩ := hrB
      obtain ⟨FB, fB, rfl, _⟩ := own_form oB
      obtain ⟨xs, bi, hown, hel, rfl⟩ := hrT
      obtain ⟨F, f, rfl, _⟩ := own_form hown
      have hY : Below w4.heap.size w4 (w4.alloc (.cells #[.slice F c.tasks.length f, .slice FN c.nodes.length fN, .slice FB c.binds.length fB] 39)) := (by repeat' (first | exact Below.refl _ _ | refine Below.alloc ?_ ?_ _ | refine Below.setCell ?_ ?_ _ | refine Below.drew ?_ | (apply below_step; assumption) | (simp; done) | (simp; omega) | omega))
      have BO : BlockIs (w4.alloc (.cells #[.slice F c.tasks.length f, .slice FN c.nodes.length fN, .slice FB c.binds.length fB] 39)) w4.heap.size 39 #[.slice F c.tasks.length f, .slice FN c.nodes.length fN, .slice FB c.binds.length fB] := BlockIs.new _ _ _
      have BT := (HBT3.out.below hb4 HBT3.out.lt).alloc (.cells #[.slice F c.tasks.length f, .slice FN c.nodes.length fN, .slice FB c.binds.length fB] 39)
      have BR := (HBR3.out.below hb4 HBR3.out.lt).alloc (.cells #[.slice F c.tasks.length f, .slice FN c.nodes.length fN, .slice FB c.binds.length fB] 39)
      have hYz : w4.heap.size < (w4.alloc (.cells #[.slice F c.tasks.length f, .slice FN c.nodes.length fN, .slice FB c.binds.length fB] 39)).heap.size := by simp
      have hCY := below_of hC4 hY
      have HTH := Lib.hid (And.intro (own_agree hown (Agree.of_below hY (own_lt hown))) (hel.agree TaskO.framed (Agree.of_below hY (elems_lt (fun _ _ _ h => h.lt) hel))))
      have HNB := Lib.hid (And.intro (show RowO NodeO 60 8 w4 (.slice FN c.nodes.length fN) c.nodes _ from ⟨xN, yN, oN, eN, rfl⟩) (show RowO BindO 70 2 w4 (.slice FB c.binds.length fB) c.binds _ from ⟨xB, yB, oB, eB, rfl⟩))
      have HND := Lib.hid hnd
      have HLO := Lib.hid hlo
      have HLT := Lib.hid (And.intro hltT (And.intro hltN hltB))
      go_wp2_with fail
      generalize w4.alloc (.cells #[.slice F c.tasks.length f, .slice FN c.nodes.length fN, .slice FB c.binds.length fB] 39) = Y at hY BO BT BR hYz hCY HTH ⊢
      have o0 := BO.cell 0
      have t0 := BT.cell 0
      have t1 := BT.cell 1
      have t2 := BT.cell 2
      have t3 := BT.cell 3
      have t4 := BT.cell 4
      have t5 := BT.cell 5
      have t6 := BT.cell 6
      simp at o0 t0 t1 t2 t3 t4 t5 t6
      have HBO := Lib.hid BO
      have HBRY := Lib.hid BR
      have hTl := BT.lt
      have HRY := Lib.hid (TaskR.kept _ _ _ _ hCY HR.out)
      have hlen : c.tasks.length ≤ 30 := (clusterOk_len HCK.out).1
      clear hown hel oN eN oB eB hnd hlo hltT hltN hltB BO BT BR r0 r1 r2 rf g0 g1 g2
      go_region_law
        (first
          | (go_simp; go_at_call 102; refine (copyTask_any t _ _ (TaskR.kept _ _ _ _ (by repeat' (first | exact Below.refl _ _ | refine Below.alloc ?_ ?_ _ | refine Below.setCell ?_ ?_ _ | refine Below.drew ?_ | (apply below_step; assumption) | (simp; done) | (simp; omega) | omega)) HRY.out)).mono ?_; rintro e w5 ⟨ds, bx, rfl, hO5, hnd5, hlo5, hb5⟩; have hz5 := hb5.size; (try simp at hz5); have o5 := (hb5.cell (p := ⟨w4.heap.size, 0, none⟩) (by simpa using hYz)).trans o0; have hG5 : w4.heap.size < w5.heap.size := (by omega); have HO5 := Lib.hid (And.intro hO5 (And.intro hnd5 hlo5)); obtain ⟨y1, y2, hdse, hy1, hy2, _, _, _⟩ := hO5; obtain ⟨F1, f1, rfl, _⟩ := own_form hy1; obtain ⟨F2, f2, rfl, _⟩ := own_form hy2; subst hdse; clear hnd5 hlo5 hy1 hy2)
          | (refine step_spread_if _ (by rfl) (.tmp 37) (.tmp 40) 35 (by rfl) 46 i0 _ 7 88 Tryz.underlying35 hi0 hz0 hs0 hy0 (by rfl) (by omega) (.slice F c.tasks.length f) c.tasks.length xs (by rfl) (own_agree HTH.out.1 (Agree.of_below (B := Y.heap.size) (by repeat' (first | exact Below.refl _ _ | refine Below.alloc ?_ ?_ _ | refine Below.setCell ?_ ?_ _ | refine Below.drew ?_ | (apply below_step; assumption) | (simp; done) | (simp; omega) | omega)) (own_lt HTH.out.1))) (some ⟨w5.heap.size, 0, none⟩) 1 1 [.int .i64 t.id, .int .i64 t.prio, .int .i64 t.need.c, .int .i64 t.need.m, .int .i64 t.need.p, .slice F1 t.want.length f1, .slice F2 t.tols.length f2] (by rfl) (by rfl) (fun _ => ⟨_, 0, rfl, CellsAt.of_block (BlockIs.new w5 _ #[.int .i64 t.id, .int .i64 t.prio, .int .i64 t.need.c, .int .i64 t.need.m, .int .i64 t.need.p, .slice F1 t.want.length f1, .slice F2 t.tols.length f2]) (fun j u hu => by rw [Nat.zero_add]; simpa using hu)⟩) (by intro u hu; simp at hu; rcases hu with rfl | rfl | rfl | rfl | rfl | rfl | rfl <;> rfl) (by unfold maxLen; omega) (by omega) ?_; intro v' w6 hown6 hg6 hk6; obtain ⟨F6, f6, rfl, _⟩ := own_form hown6; have hrow : ∀ q, (Value.slice F c.tasks.length f).ownBlock = some q → w3.heap.size ≤ q ∧ q < w4.heap.size := (fun q hq => ⟨HLO.out q (List.mem_append_left _ (List.mem_append_left _ (by simp [blk, hq]))), HLT.out.1 q (List.mem_append_left _ (by simp [blk, hq]))⟩); have hbYw : Below Y.heap.size Y (w5.alloc (.cells #[.int .i64 t.id, .int .i64 t.prio, .int .i64 t.need.c, .int .i64 t.need.m, .int .i64 t.need.p, .slice F1 t.want.length f1, .slice F2 t.tols.length f2] 46)) := (by repeat' (first | exact Below.refl _ _ | refine Below.alloc ?_ ?_ _ | refine Below.setCell ?_ ?_ _ | refine Below.drew ?_ | (apply below_step; assumption) | (simp; done) | (simp; omega) | omega)); have BO6 : BlockIs w6 w4.heap.size 39 #[.slice F c.tasks.length f, .slice FN c.nodes.length fN, .slice FB c.binds.length fB] := (hg6.block w4.heap.size (by simp; omega) (fun e => by have := (hrow _ e.symm).2; omega)).trans (HBO.out.below hbYw hYz); have BR6 : BlockIs w6 (w.heap.size + 1 + 1) 39 #[.slice none 0 0, .slice none 0 0, .slice none 0 0] := (hg6.block (w.heap.size + 1 + 1) (by simp; omega) (fun e => by have := (hrow _ e.symm).1; omega)).trans (HBRY.out.below hbYw HBRY.out.lt); have o6 := BO6.cell 0; have p6 := BO6.cell 1; have q6 := BO6.cell 2; have of6 := BO6.frozen; have r0 := BR6.cell 0; have r1 := BR6.cell 1; have r2 := BR6.cell 2; have rf := BR6.frozen; simp at o6 p6 q6 r0 r1 r2; have HG6 := Lib.hid (And.intro hg6 (And.intro hk6 (And.intro hown6 (And.intro BO6 (And.intro BR6 (And.intro hrow hbYw)))))); have hne6 : w4.heap.size ≠ w.heap.size + 1 + 1 := (by omega); clear hg6 hk6 hown6 BO6 BR6 hrow hbYw))
      all_goals
        go_wp2_with fail
        obtain ⟨hO5, hnd5, hlo5⟩ := HO5.out
        obtain ⟨hg6, hk6, hown6, BO6, BR6, hrow, hbYw⟩ := HG6.out
        have hbY5 : Below Y.heap.size Y w5 := (by repeat' (first | exact Below.refl _ _ | refine Below.alloc ?_ ?_ _ | refine Below.setCell ?_ ?_ _ | refine Below.drew ?_ | (apply below_step; assumption) | (simp; done) | (simp; omega) | omega))
        have hnd := HND.out
        rw [List.nodup_append] at hnd
        obtain ⟨nT, nNB, nX⟩ := hnd
        obtain ⟨hltT, hltN, hltB⟩ := HLT.out
        obtain ⟨bT', r1, r2, r3⟩ := copy_push (G := w4.heap.size) (off := 0) (u := .slice F6 (c.tasks.length + 1) f6) TaskO.framed (fun _ _ _ _ h => h.lt) rfl HTH.out.1 HTH.out.2 nT (fun b hb => by have := hltT b hb; omega) hYz hbY5 hO5 hnd5 (by simpa using hlo5) hg6 hk6 hown6
        have AG : ∀ b, b < w4.heap.size → some b ≠ (Value.slice F c.tasks.length f).ownBlock → (w6.setCell ⟨w4.heap.size, 0, none⟩ (.slice F6 (c.tasks.length + 1) f6)).heap[b]? = w4.heap[b]? := fun b hb hne => by
          rw [Below.heap_setCell _ _ _ b (by dsimp only; omega), hg6.block b (by simp; omega) hne, hbYw.block b (by omega)]
          exact hY.block b hb
        have hne : ∀ b ∈ (blk (.slice FN c.nodes.length fN) ++ yN) ++ (blk (.slice FB c.binds.length fB) ++ yB), some b ≠ (Value.slice F c.tasks.length f).ownBlock := fun b hb e => nX b (List.mem_append_left _ (by simp [blk, ← e])) b hb rfl
        have hCO : CluO (w6.setCell ⟨w4.heap.size, 0, none⟩ (.slice F6 (c.tasks.length + 1) f6)) { c with tasks := c.tasks ++ [t] } (.slice F6 (c.tasks.length + 1) f6) (.slice FN c.nodes.length fN) (.slice FB c.binds.length fB) (bT' ++ ((blk (.slice FN c.nodes.length fN) ++ yN) ++ (blk (.slice FB c.binds.length fB) ++ yB))) := by
          refine ⟨_, _, _, r1, HNB.out.1.agree NodeO.framed (fun b hb => AG b (hltN b hb) (hne b (List.mem_append_left _ hb))), HNB.out.2.agree BindO.framed (fun b hb => AG b (hltB b hb) (hne b (List.mem_append_right _ hb))), rfl, ?_, by simp; omega, ln, lb⟩
          rw [List.nodup_append]
          refine ⟨r2, nNB, fun a ha b hb e => ?_⟩
          have hb4' : b < w4.heap.size := by
            rcases List.mem_append.1 hb with h | h
            · exact hltN b h
            · exact hltB b h
          rcases r3 a ha with h | h
          · exact nX a h b hb e
          · omega
        have hlo' : ∀ b ∈ bT' ++ ((blk (.slice FN c.nodes.length fN) ++ yN) ++ (blk (.slice FB c.binds.length fB) ++ yB)), w3.heap.size ≤ b := by
          intro b hb
          rcases List.mem_append.1 hb with h | h
          · rcases r3 b h with h | h
            · exact HLO.out b (List.mem_append_left _ h)
            · omega
          · exact HLO.out b (List.mem_append_right _ h)
        have hZ := clu_put (BR6.far (p := ⟨w4.heap.size, 0, none⟩) (by dsimp only; omega) (.slice F6 (c.tasks.length + 1) f6)) (.slice F6 (c.tasks.length + 1) f6) (.slice FN c.nodes.length fN) (.slice FB c.binds.length fB)
        have hA := hCO.agree (w' := ((((w6.setCell ⟨w4.heap.size, 0, none⟩ (.slice F6 (c.tasks.length + 1) f6)).setCell ⟨w.heap.size + 1 + 1, 0, none⟩ (.slice F6 (c.tasks.length + 1) f6)).setCell ⟨w.heap.size + 1 + 1, 1, none⟩ (.slice FN c.nodes.length fN)).setCell ⟨w.heap.size + 1 + 1, 2, none⟩ (.slice FB c.binds.length fB))) (fun b hb => putAll_block (o := 0) (ds := [.slice F6 (c.tasks.length + 1) f6, .slice FN c.nodes.length fN, .slice FB c.binds.length fB]) (by have := hlo' b hb; omega))
        have hB6 : Below w.heap.size w w6 := (hCY.trans (hbYw.mono (by omega))).grown hg6 (by simp; omega) (fun k hk => by have := (hrow k hk).1; omega)
        have hB := clu_below (g := w.heap.size + 1 + 1) (hB6.setCell (p := ⟨w4.heap.size, 0, none⟩) (by dsimp only; omega) (.slice F6 (c.tasks.length + 1) f6)) (by omega) (.slice F6 (c.tasks.length + 1) f6) (.slice FN c.nodes.length fN) (.slice FB c.binds.length fB)
        generalize ((((w6.setCell ⟨w4.heap.size, 0, none⟩ (.slice F6 (c.tasks.length + 1) f6)).setCell ⟨w.heap.size + 1 + 1, 0, none⟩ (.slice F6 (c.tasks.length + 1) f6)).setCell ⟨w.heap.size + 1 + 1, 1, none⟩ (.slice FN c.nodes.length fN)).setCell ⟨w.heap.size + 1 + 1, 2, none⟩ (.slice FB c.binds.length fB)) = V at hZ hA hB ⊢
        have x0 := hZ.cell 0
        have x1 := hZ.cell 1
        have x2 := hZ.cell 2
        simp at x0 x1 x2
        have hG := taskAddG_fine HOK2.out HFF.out H30.out
        exact bodyPost_ret (v := .tuple #[.agg #[.slice F6 (c.tasks.length + 1) f6, .slice FN c.nodes.length fN, .slice FB c.binds.length fB], .nilIface]) (by simp [results, Tryz.results58, go_sem, x0, x1, x2]) rfl (by rw [hG]; exact ⟨_, _, _, _, rfl, hA, fun b hb => by have := hlo' b hb; omega, hB⟩)
    · rw [errV_ne h0]
      have HZ0 := Lib.hid h0
      clear h0
      go_wp2_with fail
      have hZ := clu_put HBR3.out (.slice none 0 0) (.slice none 0 0) (.slice none 0 0)
      have hB := clu_below (g := w.heap.size + 1 + 1) hC3 (by omega) (.slice none 0 0) (.slice none 0 0) (.slice none 0 0)
      generalize (((w3.setCell ⟨w.heap.size + 1 + 1, 0, none⟩ (.slice none 0 0)).setCell ⟨w.heap.size + 1 + 1, 1, none⟩ (.slice none 0 0)).setCell ⟨w.heap.size + 1 + 1, 2, none⟩ (.slice none 0 0)) = V at hZ hB ⊢
      have x0 := hZ.cell 0
      have x1 := hZ.cell 1
      have x2 := hZ.cell 2
      simp at x0 x1 x2
      exact bodyPost_ret (v := .tuple #[.agg #[.slice none 0 0, .slice none 0 0, .slice none 0 0], .iface 124 (.agg #[.int .i64 z])]) (by simp [results, Tryz.results58, go_sem, x0, x1, x2]) rfl (by rw [HADZ.out.1 HZ0.out]; exact ⟨_, _, _, [], by rw [errV_ne HZ0.out], CluO.zero _, by simp, hB⟩)
theorem TaskAdd_any (c : CV) (a0 a1 a2 : Value) (t : TV) (cs : List Value) (w : World) (x : Addr) (hg : ErrAt x w) (hT : TypAt w) (hc : CluR w c a0 a1 a2) (hR : TaskR w t cs) :
    Calls Tryz.prog 16 #[.agg #[a0, a1, a2], .agg cs.toArray] w (RetCluI w (taskAddG c t).1 (taskAddG c t).2) :=
  TaskAdd_of c a0 a1 a2 t cs w hT hc hR (fun w1 hb => withTask_any c a0 a1 a2 t cs w1 x (hg.below hb (Nat.le_refl _)) (hc.below hb) (TaskR.kept _ _ _ _ hb hR))
end Go.Proofs.YtocfgejceoenmaaGreatDoor

namespace Go.Proofs.YtocfgejceoenmaaGreatDoor
open Go.RowKit

/-- In every world of Inv the function value tells of each element whether p holds. -/
def Tells {α : Type} (R : World → α → List Value → Prop) (g : Nat) (lb : Array Value) (p : α → Bool) (Inv : World → Prop) : Prop :=
  ∀ (w : World) (x : α) (cs : List Value), Inv w → R w x cs → Calls Tryz.prog g (#[.agg cs.toArray] ++ lb) w fun e w' => e = .returned (.bool (p x)) ∧ Below w.heap.size w w'
/-- The first place at which p holds, or -1. -/
def pIdxGo {α : Type} (p : α → Bool) : Int → List α → Int
  | _, [] => -1
  | k, x :: r => if p x then k else pIdxGo p (k + 1) r
def pIdx {α : Type} (p : α → Bool) (l : List α) : Int := pIdxGo p 0 l
section
variable {α : Type} {p : α → Bool} {l : List α}
theorem pIdxGo_hit {k : Int} {x : α} {r : List α} (h : p x = true) : pIdxGo p k (x :: r) = k := by rw [pIdxGo, if_pos h]
theorem pIdxGo_miss {k : Int} {x : α} {r : List α} (h : p x = false) : pIdxGo p k (x :: r) = pIdxGo p (k + 1) r := by rw [pIdxGo, h]; rfl
theorem pIdxGo_spec (k : Int) : (pIdxGo p k l = -1 ∧ ∀ x ∈ l, p x = false) ∨ ∃ (j : Nat) (x : α), pIdxGo p k l = k + j ∧ l[j]? = some x ∧ p x = true ∧ ∀ y ∈ l.take j, p y = false := by
  induction l generalizing k with
  | nil => exact .inl ⟨rfl, by simp⟩
  | cons x r ih =>
    cases h : p x with
    | true => exact .inr ⟨0, x, by rw [pIdxGo_hit h]; simp, rfl, h, by simp⟩
    | false =>
      rcases ih (k + 1) with ⟨e, ha⟩ | ⟨j, y, e, h1, h2, h3⟩
      · exact .inl ⟨by rw [pIdxGo_miss h, e], by simpa [h] using ha⟩
      · exact .inr ⟨j + 1, y, by rw [pIdxGo_miss h, e]; simp; omega, by simpa using h1, h2, by simpa [h] using h3⟩
theorem pIdx_spec : (pIdx p l = -1 ∧ ∀ x ∈ l, p x = false) ∨ ∃ (j : Nat) (x : α), pIdx p l = j ∧ l[j]? = some x ∧ p x = true ∧ ∀ y ∈ l.take j, p y = false := by
  rcases pIdxGo_spec (p := p) (l := l) 0 with h | ⟨j, x, e, h⟩
  · exact .inl h
  · exact .inr ⟨j, x, by unfold pIdx; rw [e]; omega, h⟩
theorem filter_none (h : ∀ x ∈ l, p x = false) : (l.filter fun x => !p x) = l := List.filter_eq_self.2 (fun x hx => by simp [h x hx])
end

set_option maxHeartbeats 1600000 in
theorem indexTask_by (g : Nat) (lb : Array Value) (p : TV → Bool) (Inv : World → Prop) (eg : ∀ args w, (callFunc g args).run Tryz.prog w = .ok (.enter g args) w) (hT : Tells TaskR g lb p Inv) (hK : ∀ w w', Below w.heap.size w w' → Inv w → Inv w')
    (v : Value) (l : List TV) (w : World) (hv : TaskSl w v l) (hlen : l.length ≤ 1048576) (hI : Inv w) :
    Calls Tryz.prog 149 #[v, .func (.func g) #[] lb] w fun e w' => e = .returned (.int .i64 (pIdx p l)) ∧ Below w.heap.size w w' := by
  obtain ⟨A, c, rfl, hA⟩ := hv.form
  have HA := Lib.hid hA
  have HI0 := Lib.hid hI
  have HT := Lib.hid hT
  have HK := Lib.hid hK
  clear hA hv hI hT hK
  go_enter Tryz.func149, Tryz.ntmps149
  go_wp2_with fail
  go_loopw [8] (fun s8 wr => ∃ k : Nat, k ≤ l.length ∧ s8 = .int .i64 k ∧ pIdx p l = pIdxGo p k (l.drop k) ∧ Below w.heap.size w wr) (fun s8 _ => (l.length - intOf s8).toNat)
  case atStart => exact ⟨0, by omega, rfl, by simp [pIdx], Below.refl _ _⟩
  case round =>
    obtain ⟨k, hk, rfl, hidx, hBr⟩ := hrel
    have HI := Lib.hid hidx
    have hzr := hBr.size
    clear hidx
    by_cases hlt : k < l.length
    · obtain ⟨b, off, rfl, hbw, hat⟩ := HA.out (by omega)
      obtain ⟨t, ht⟩ : ∃ t, l[k]? = some t := ⟨_, List.getElem?_eq_getElem hlt⟩
      obtain ⟨cs, hR, hC⟩ := (hat.below TaskR.kept hBr hbw) k t ht
      have HD := Lib.hid (drop_at ht)
      have hcall := HT.out wr t cs (HK.out _ _ hBr HI0.out) hR
      generalize hq : p t = q at hcall
      have HQ := Lib.hid hq
      obtain ⟨v1, v2, rfl, sl, si, m1, m2⟩ := hR; obtain ⟨A1, c1, rfl, _⟩ := sl.form; obtain ⟨A2, c2, rfl, _⟩ := si.form
      clear sl si m1 m2
      obtain ⟨q0, q1, q2, q3, q4, q5, q6⟩ := task_cells hC
      clear hat hC ht hq
      cases q
      · go_wp2_with (go_at_fn g; refine hcall.mono ?_; rintro e w2 ⟨rfl, hb2⟩)
        go_roundw
        case rel => exact ⟨k + 1, by omega, by go_num, by rw [HI.out, HD.out, pIdxGo_miss HQ.out]; simp, (by repeat' (first | exact Below.refl _ _ | refine Below.alloc ?_ ?_ _ | refine Below.setCell ?_ ?_ _ | refine Below.drew ?_ | (apply below_step; assumption) | (simp; done) | (simp; omega) | omega))⟩
        case measure => simp [intOf]; omega
      · go_wp2_with (go_at_fn g; refine hcall.mono ?_; rintro e w2 ⟨rfl, hb2⟩)
        go_ret
        refine ⟨?_, (by repeat' (first | exact Below.refl _ _ | refine Below.alloc ?_ ?_ _ | refine Below.setCell ?_ ?_ _ | refine Below.drew ?_ | (apply below_step; assumption) | (simp; done) | (simp; omega) | omega))⟩
        rw [HI.out, HD.out, pIdxGo_hit HQ.out]; rfl
    · have hkl : k = l.length := by omega
      have HF := Lib.hid (show pIdx p l = -1 by rw [HI.out, hkl, List.drop_length]; rfl)
      clear hkl
      go_wp2_with fail
      go_ret
      exact ⟨by rw [HF.out]; rfl, hBr⟩
set_option maxHeartbeats 1600000 in
theorem indexNode_by (g : Nat) (lb : Array Value) (p : NV → Bool) (Inv : World → Prop) (eg : ∀ args w, (callFunc g args).run Tryz.prog w = .ok (.enter g args) w) (hT : Tells NodeR g lb p Inv) (hK : ∀ w w', Below w.heap.size w w' → Inv w → Inv w')
    (v : Value) (l : List NV) (w : World) (hv : NodeSl w v l) (hlen : l.length ≤ 1048576) (hI : Inv w) :
    Calls Tryz.prog 156 #[v, .func (.func g) #[] lb] w fun e w' => e = .returned (.int .i64 (pIdx p l)) ∧ Below w.heap.size w w' := by
  obtain ⟨A, c, rfl, hA⟩ := hv.form
  have HA := Lib.hid hA
  have HI0 := Lib.hid hI
  have HT := Lib.hid hT
  have HK := Lib.hid hK
  clear hA hv hI hT hK
  go_enter Tryz.func156, Tryz.ntmps156
  go_wp2_with fail
  go_loopw [8] (fun s8 wr => ∃ k : Nat, k ≤ l.length ∧ s8 = .int .i64 k ∧ pIdx p l = pIdxGo p k (l.drop k) ∧ Below w.heap.size w wr) (fun s8 _ => (l.length - intOf s8).toNat)
  case atStart => exact ⟨0, by omega, rfl, by simp [pIdx], Below.refl _ _⟩
  case round =>
    obtain ⟨k, hk, rfl, hidx, hBr⟩ := hrel
    have HI := Lib.hid hidx
    have hzr := hBr.size
    clear hidx
    by_cases hlt : k < l.length
    · obtain ⟨b, off, rfl, hbw, hat⟩ := HA.out (by omega)
      obtain ⟨t, ht⟩ : ∃ t, l[k]? = some t := ⟨_, List.getElem?_eq_getElem hlt⟩
      obtain ⟨cs, hR, hC⟩ := (hat.below NodeR.kept hBr hbw) k t ht
      have HD := Lib.hid (drop_at ht)
      have hcall := HT.out wr t cs (HK.out _ _ hBr HI0.out) hR
      generalize hq : p t = q at hcall
      have HQ := Lib.hid hq
      obtain ⟨v1, v2, rfl, sl, si, m1, m2⟩ := hR; obtain ⟨A1, c1, rfl, _⟩ := sl.form; obtain ⟨A2, c2, rfl, _⟩ := si.form
      clear sl si m1 m2
      obtain ⟨q0, q1, q2, q3, q4, q5, q6, q7⟩ := node_cells hC
      clear hat hC ht hq
      cases q
      · go_wp2_with (go_at_fn g; refine hcall.mono ?_; rintro e w2 ⟨rfl, hb2⟩)
        go_roundw
        case rel => exact ⟨k + 1, by omega, by go_num, by rw [HI.out, HD.out, pIdxGo_miss HQ.out]; simp, (by repeat' (first | exact Below.refl _ _ | refine Below.alloc ?_ ?_ _ | refine Below.setCell ?_ ?_ _ | refine Below.drew ?_ | (apply below_step; assumption) | (simp; done) | (simp; omega) | omega))⟩
        case measure => simp [intOf]; omega
      · go_wp2_with (go_at_fn g; refine hcall.mono ?_; rintro e w2 ⟨rfl, hb2⟩)
        go_ret
        refine ⟨?_, (by repeat' (first | exact Below.refl _ _ | refine Below.alloc ?_ ?_ _ | refine Below.setCell ?_ ?_ _ | refine Below.drew ?_ | (apply below_step; assumption) | (simp; done) | (simp; omega) | omega))⟩
        rw [HI.out, HD.out, pIdxGo_hit HQ.out]; rfl
    · have hkl : k = l.length := by omega
      have HF := Lib.hid (show pIdx p l = -1 by rw [HI.out, hkl, List.drop_length]; rfl)
      clear hkl
      go_wp2_with fail
      go_ret
      exact ⟨by rw [HF.out]; rfl, hBr⟩
set_option maxHeartbeats 1600000 in
theorem indexBind_by (g : Nat) (lb : Array Value) (p : BV → Bool) (Inv : World → Prop) (eg : ∀ args w, (callFunc g args).run Tryz.prog w = .ok (.enter g args) w) (hT : Tells BindR g lb p Inv) (hK : ∀ w w', Below w.heap.size w w' → Inv w → Inv w')
    (v : Value) (l : List BV) (w : World) (hv : BindSl w v l) (hlen : l.length ≤ 1048576) (hI : Inv w) :
    Calls Tryz.prog 150 #[v, .func (.func g) #[] lb] w fun e w' => e = .returned (.int .i64 (pIdx p l)) ∧ Below w.heap.size w w' := by
  obtain ⟨A, c, rfl, hA⟩ := hv.form
  have HA := Lib.hid hA
  have HI0 := Lib.hid hI
  have HT := Lib.hid hT
  have HK := Lib.hid hK
  clear hA hv hI hT hK
  go_enter Tryz.func150, Tryz.ntmps150
  go_wp2_with fail
  go_loopw [8] (fun s8 wr => ∃ k : Nat, k ≤ l.length ∧ s8 = .int .i64 k ∧ pIdx p l = pIdxGo p k (l.drop k) ∧ Below w.heap.size w wr) (fun s8 _ => (l.length - intOf s8).toNat)
  case atStart => exact ⟨0, by omega, rfl, by simp [pIdx], Below.refl _ _⟩
  case round =>
    obtain ⟨k, hk, rfl, hidx, hBr⟩ := hrel
    have HI := Lib.hid hidx
    have hzr := hBr.size
    clear hidx
    by_cases hlt : k < l.length
    · obtain ⟨b, off, rfl, hbw, hat⟩ := HA.out (by omega)
      obtain ⟨t, ht⟩ : ∃ t, l[k]? = some t := ⟨_, List.getElem?_eq_getElem hlt⟩
      obtain ⟨cs, hR, hC⟩ := (hat.below BindR.kept hBr hbw) k t ht
      have HD := Lib.hid (drop_at ht)
      have hcall := HT.out wr t cs (HK.out _ _ hBr HI0.out) hR
      generalize hq : p t = q at hcall
      have HQ := Lib.hid hq
      obtain rfl := hR
      skip
      obtain ⟨q0, q1⟩ := bind_cells hC
      clear hat hC ht hq
      cases q
      · go_wp2_with (go_at_fn g; refine hcall.mono ?_; rintro e w2 ⟨rfl, hb2⟩)
        go_roundw
        case rel => exact ⟨k + 1, by omega, by go_num, by rw [HI.out, HD.out, pIdxGo_miss HQ.out]; simp, (by repeat' (first | exact Below.refl _ _ | refine Below.alloc ?_ ?_ _ | refine Below.setCell ?_ ?_ _ | refine Below.drew ?_ | (apply below_step; assumption) | (simp; done) | (simp; omega) | omega))⟩
        case measure => simp [intOf]; omega
      · go_wp2_with (go_at_fn g; refine hcall.mono ?_; rintro e w2 ⟨rfl, hb2⟩)
        go_ret
        refine ⟨?_, (by repeat' (first | exact Below.refl _ _ | refine Below.alloc ?_ ?_ _ | refine Below.setCell ?_ ?_ _ | refine Below.drew ?_ | (apply below_step; assumption) | (simp; done) | (simp; omega) | omega))⟩
        rw [HI.out, HD.out, pIdxGo_hit HQ.out]; rfl
    · have hkl : k = l.length := by omega
      have HF := Lib.hid (show pIdx p l = -1 by rw [HI.out, hkl, List.drop_length]; rfl)
      clear hkl
      go_wp2_with fail
      go_ret
      exact ⟨by rw [HF.out]; rfl, hBr⟩
end Go.Proofs.YtocfgejceoenmaaGreatDoor

namespace Go.Proofs.YtocfgejceoenmaaGreatDoor
open Go.RowKit

theorem putAll_setCells (w : World) (g o : Nat) (ds : List Value) : w.setCells g o ds = putAll w g o ds := by
  induction ds generalizing w o with
  | nil => rfl
  | cons u r ih => rw [World.setCells, putAll, ih]
/-- 'clear(s)': its cells hold the zero value's. -/
theorem run_clear_row {P : Program} (w : World) (t e ty : TypeId) (z : Value) (ht : P.underlying t = some (.slice e)) (hv : ∀ w, (zeroValue e).run P w = .ok z w) (h1 : (z.cells.toList.all fun u => u.oneCell') = true) (b o n c : Nat) (hn : 0 < n)
    (hc : ∀ j, j < n * z.cells.size → (w.cell? ⟨b, o + j, none⟩).isSome = true) (hf : ∀ j, w.frozen? ⟨b, o + j, none⟩ = false) :
    (Builtin.clear_ #[t] ty #[.slice (some ⟨b, o, none⟩) n c]).run P w = .ok (.tuple #[]) (putAll w b o (Builtin.zeroCells z.cells n).toList) := by
  have hl : (Builtin.zeroCells z.cells n).toList.length = n * z.cells.size := by simp [Builtin.zeroCells]
  have hst := run_storeCells_cells (P := P) b o (Builtin.zeroCells z.cells n).toList 0 w (fun j hj => by rw [hl] at hj; simpa using hc j hj) (fun j _ => by simpa using hf j) (by
    intro u hu
    simp only [Builtin.zeroCells, Array.toList_map, List.mem_map] at hu
    obtain ⟨i, hi, rfl⟩ := hu
    simp at hi
    have hp : 0 < z.cells.size := Nat.pos_of_ne_zero (fun e => by rw [e] at hi; simp at hi)
    have hm := Nat.mod_lt i hp
    rw [getElem!_pos z.cells (i % z.cells.size) hm]
    exact List.all_eq_true.1 h1 _ (by simp))
  simp only [Nat.add_zero] at hst
  obtain ⟨m, rfl⟩ : ∃ m, n = m + 1 := ⟨n - 1, by omega⟩
  simp [Builtin.clear_, run_underlying ht, hv, hst, putAll_setCells]

section
variable {α : Type} {R : World → α → List Value → List Nat → Prop} {n cap gr : Nat} {ty : TypeId} {p : α → Bool} {w wr : World} {l : List α} {bi : List Nat} {i j : Nat}
/-- Of the first j elements those that stay lie at the front, i of them. -/
def DelInv (R : World → α → List Value → List Nat → Prop) (n : Nat) (ty : TypeId) (p : α → Bool) (w : World) (gr cap : Nat) (l : List α) (bi : List Nat) (i j : Nat) (wr : World) : Prop :=
  ∃ xa xm xb ba bb, i < j ∧ j ≤ l.length ∧ wr.ownsRow 0 ty n (.slice (some ⟨gr, 0, none⟩) l.length cap) l.length (xa ++ (xm ++ xb)) ∧ Elems R wr ((l.take j).filter fun x => !p x) xa ba ∧ ((l.take j).filter fun x => !p x).length = i ∧
    xm.length = (j - i) * n ∧ Elems R wr (l.drop j) xb bb ∧ (ba ++ bb).Nodup ∧ (∀ b ∈ ba ++ bb, b ∈ bi) ∧ TurnB [gr] w wr
theorem DelInv.start {xs : List Value} {x : α} (hR : Framed R) (hlen : ∀ (w : World) x cs b, R w x cs b → cs.length = n) (hRlt : ∀ (w : World) x cs b, R w x cs b → ∀ c ∈ b, c < w.heap.size) (ho : w.ownsRow 0 ty n (.slice (some ⟨gr, 0, none⟩) l.length cap) l.length xs) (he : Elems R w l xs bi) (hnd : bi.Nodup)
    (hx : l[j]? = some x) (hp : p x = true) (ha : ∀ y ∈ l.take j, p y = false) (hb : Below w.heap.size w wr) : DelInv R n ty p w gr cap l bi j (j + 1) wr := by
  have hj : j < l.length := (List.getElem?_eq_some_iff.1 hx).1
  have hl : l = l.take j ++ (x :: l.drop (j + 1)) := by rw [← drop_at hx, List.take_append_drop]
  have he' := he
  rw [hl] at he'
  obtain ⟨xa, xr, ba, br, e1, e2, h1, h2⟩ := he'.split
  obtain ⟨cs, ys, b1, b2, e3, e4, h3, h4⟩ := h2
  subst e1 e2 e3 e4
  have ho2 := own_agree ho (Agree.of_below hb (own_lt ho))
  have hlt := elems_lt (fun x cs b h => hRlt _ x cs b h) he
  have hag : Agree (ba ++ (b1 ++ b2)) w wr := Agree.of_below hb hlt
  have hf : ((l.take (j + 1)).filter fun x => !p x) = l.take j := by
    rw [take_at hx, List.filter_append, filter_none ha]
    simp [hp]
  refine ⟨xa, cs, ys, ba, b2, by omega, by omega, ho2, by rw [hf]; exact h1.agree hR hag.left, by rw [hf, List.length_take]; omega, by rw [hlen _ _ _ _ h3]; simp, h4.agree hR hag.right.right, ?_, ?_, TurnB.of_below hb⟩
  · simp only [List.nodup_append, List.mem_append] at hnd ⊢
    exact ⟨hnd.1, hnd.2.1.2.1, fun a ha b hb => hnd.2.2 a ha b (.inr hb)⟩
  · intro b hb
    rcases List.mem_append.1 hb with h | h
    · exact List.mem_append_left _ h
    · exact List.mem_append_right _ (List.mem_append_right _ h)
theorem DelInv.turn (h : DelInv R n ty p w gr cap l bi i j wr) : TurnB [gr] w wr := by
  obtain ⟨_, _, _, _, _, _, _, _, _, _, _, _, _, _, h⟩ := h; exact h
theorem DelInv.lt (h : DelInv R n ty p w gr cap l bi i j wr) : i < j ∧ j ≤ l.length := by
  obtain ⟨_, _, _, _, _, h1, h2, _⟩ := h; exact ⟨h1, h2⟩
theorem DelInv.capLe (h : DelInv R n ty p w gr cap l bi i j wr) : l.length ≤ cap := by
  obtain ⟨_, _, _, _, _, _, _, ho, _⟩ := h
  rcases ho.2 with ⟨e, _⟩ | ⟨g, cap', cur, e, _, _, hnc, _⟩
  · cases e
  · simp only [Value.slice.injEq] at e
    obtain ⟨_, _, rfl⟩ := e
    exact hnc
theorem DelInv.block (h : DelInv R n ty p w gr cap l bi i j wr) : gr < wr.heap.size ∧ (∀ q, q < l.length * n → ∃ u, wr.cell? ⟨gr, q, none⟩ = some u) ∧ ∀ o, wr.frozen? ⟨gr, o, none⟩ = false := by
  obtain ⟨_, _, _, _, _, h1, h2, ho, _⟩ := h
  have hl := ho.1
  obtain ⟨g, c, e, hg, hc, hf⟩ := own_cells ho (by omega)
  simp only [Value.slice.injEq, Option.some.injEq, Addr.mk.injEq] at e
  obtain ⟨⟨rfl, -, -⟩, -, -⟩ := e
  refine ⟨hg, fun q hq => ?_, hf⟩
  obtain ⟨u, hu⟩ : ∃ u, (_ : List Value)[q]? = some u := ⟨_, List.getElem?_eq_getElem (by rw [hl]; exact hq)⟩
  exact ⟨u, hc q u hu⟩
theorem DelInv.round {u : α} (hR : Framed R) (hlen : ∀ (w : World) x cs b, R w x cs b → cs.length = n) (hRlt : ∀ (w : World) x cs b, R w x cs b → ∀ c ∈ b, c < w.heap.size) (hgi : gr ∉ bi) (h : DelInv R n ty p w gr cap l bi i j wr) (hu : l[j]? = some u) :
    ∃ cs b1, R wr u cs b1 ∧ (∀ q x, cs[q]? = some x → wr.cell? ⟨gr, j * n + q, none⟩ = some x) ∧
      (∀ w2, Below wr.heap.size wr w2 → p u = false → DelInv R n ty p w gr cap l bi (i + 1) (j + 1) (putAll w2 gr (i * n) cs)) ∧
      (∀ w2, Below wr.heap.size wr w2 → p u = true → DelInv R n ty p w gr cap l bi i (j + 1) w2) := by
  obtain ⟨xa, xm, xb, ba, bb, hij, hjl, ho, ha, hi, hm, hb, hnd, hin, ht⟩ := h
  rw [drop_at hu] at hb
  obtain ⟨cs, ys, b1, b2, rfl, rfl, h1, h2⟩ := hb
  have hc := hlen _ _ _ _ h1
  have hxa : xa.length = i * n := by rw [Elems.len (fun x cs b h => hlen _ x cs b h) ha, hi]
  have hj : j < l.length := (List.getElem?_eq_some_iff.1 hu).1
  have hjn : i * n + (j - i) * n = j * n := by rw [← Nat.add_mul]; congr 1; omega
  obtain ⟨g, c, e, hg, hcell, hf⟩ := own_cells ho (by omega)
  simp only [Value.slice.injEq, Option.some.injEq, Addr.mk.injEq] at e
  obtain ⟨⟨rfl, -, -⟩, -, -⟩ := e
  have hlta := elems_lt (fun x cs b h => hRlt _ x cs b h) ha
  have hltb := elems_lt (fun x cs b h => hRlt _ x cs b h) h2
  have hlt1 := hRlt _ _ _ _ h1
  have hgn : ∀ b ∈ ba ++ (b1 ++ b2), b ≠ gr := fun b hb e => hgi (by rw [← e]; exact hin b hb)
  refine ⟨cs, b1, h1, fun q x hx => ?_, fun w2 hb2 hp => ?_, fun w2 hb2 hp => ?_⟩
  · have hq : q < cs.length := (List.getElem?_eq_some_iff.1 hx).1
    refine hcell _ _ ?_
    rw [List.getElem?_append_right (by omega), List.getElem?_append_right (by omega), List.getElem?_append_left (by omega)]
    rw [show j * n + q - xa.length - xm.length = q by omega]; exact hx
  · have hn0 : n ≤ xm.length := by
      rw [hm]
      have := Nat.mul_le_mul_right n (show 1 ≤ j - i by omega)
      omega
    have ho2 := own_agree ho (Agree.of_below hb2 (own_lt ho))
    have hxm : xm = xm.take n ++ xm.drop n := (List.take_append_drop _ _).symm
    rw [hxm, List.append_assoc] at ho2
    have st := own_put (g := gr) (ds := cs) ho2 (by rw [List.length_take]; omega) rfl
    rw [hxa] at st
    have hP : TurnB [gr] w2 (putAll w2 gr (i * n) cs) := (TurnB.refl _ _).putAll (List.mem_singleton.2 rfl) _ _
    have hs2 := hb2.size
    have hE : ∀ bs : List Nat, (∀ b ∈ bs, b < wr.heap.size) → (∀ b ∈ bs, b ≠ gr) → Agree bs wr (putAll w2 gr (i * n) cs) := fun bs hl hne => (Agree.of_below hb2 hl).trans (hP.agree (fun b hb => ⟨by have := hl b hb; omega, by simpa using hne b hb⟩))
    have hfl : ((l.take (j + 1)).filter fun x => !p x) = ((l.take j).filter fun x => !p x) ++ [u] := by
      rw [take_at hu, List.filter_append]
      simp [hp]
    refine ⟨xa ++ cs, xm.drop n ++ cs, ys, ba ++ b1, b2, by omega, by omega, ?_, ?_, by rw [hfl, List.length_append, hi]; rfl, ?_, ?_, by rw [List.append_assoc]; exact hnd, fun b hb => hin b (by rw [List.append_assoc] at hb; exact hb), (ht.step hb2).trans hP⟩
    · simpa [List.append_assoc] using st
    · rw [hfl]
      exact (ha.agree hR (hE ba hlta (fun b hb => hgn b (List.mem_append_left _ hb)))).snoc (hR _ _ _ _ _ h1 (hE b1 hlt1 (fun b hb => hgn b (List.mem_append_right _ (List.mem_append_left _ hb)))))
    · rw [List.length_append, List.length_drop, hm, hc]
      rw [show j + 1 - (i + 1) = j - i by omega]
      rw [hm] at hn0; omega
    · exact h2.agree hR (hE b2 hltb (fun b hb => hgn b (List.mem_append_right _ (List.mem_append_right _ hb))))
  · have hag : Agree (ba ++ (b1 ++ b2)) wr w2 := Agree.of_below hb2 (fun b hb => by
      rcases List.mem_append.1 hb with h | h
      · exact hlta b h
      · rcases List.mem_append.1 h with h | h
        · exact hlt1 b h
        · exact hltb b h)
    have hfl : ((l.take (j + 1)).filter fun x => !p x) = ((l.take j).filter fun x => !p x) := by
      rw [take_at hu, List.filter_append]
      simp [hp]
    refine ⟨xa, xm ++ cs, ys, ba, b2, by omega, by omega, ?_, by rw [hfl]; exact ha.agree hR hag.left, by rw [hfl]; exact hi, ?_, h2.agree hR hag.right.right, ?_, ?_, ht.step hb2⟩
    · rw [List.append_assoc]
      exact own_agree ho (Agree.of_below hb2 (own_lt ho))
    · rw [List.length_append, hm, hc, show j + 1 - i = (j - i) + 1 by omega, Nat.add_mul, Nat.one_mul]
    · simp only [List.nodup_append, List.mem_append] at hnd ⊢
      exact ⟨hnd.1, hnd.2.1.2.1, fun a ha b hb => hnd.2.2 a ha b (.inr hb)⟩
    · intro b hb
      rcases List.mem_append.1 hb with h | h
      · exact hin b (List.mem_append_left _ h)
      · exact hin b (List.mem_append_right _ (List.mem_append_right _ h))
theorem DelInv.done {zs : List Value} (hR : Framed R) (hlen : ∀ (w : World) x cs b, R w x cs b → cs.length = n) (hRlt : ∀ (w : World) x cs b, R w x cs b → ∀ c ∈ b, c < w.heap.size) (hgi : gr ∉ bi) (h : DelInv R n ty p w gr cap l bi i l.length wr) (hz : zs.length = (l.length - i) * n) :
    ∃ bs, RowO R ty n (putAll wr gr (i * n) zs) (.slice (some ⟨gr, 0, none⟩) i cap) (l.filter fun x => !p x) bs ∧ (l.filter fun x => !p x).length = i ∧ bs.Nodup ∧ (∀ b ∈ bs, b ∈ gr :: bi) ∧ TurnB [gr] w (putAll wr gr (i * n) zs) := by
  obtain ⟨xa, xm, xb, ba, bb, hij, hjl, ho, ha, hi, hm, hb, hnd, hin, ht⟩ := h
  rw [List.drop_length] at hb
  obtain ⟨rfl, rfl⟩ := hb
  rw [List.take_length] at ha hi
  rw [List.append_nil] at ho hnd hin
  have hxa : xa.length = i * n := by rw [Elems.len (fun x cs b h => hlen _ x cs b h) ha, hi]
  have ho' : wr.ownsRow 0 ty n (.slice (some ⟨gr, 0, none⟩) l.length cap) l.length (xa ++ (xm ++ [])) := by simpa using ho
  have st := own_put (g := gr) (ds := zs) ho' (by omega) rfl
  rw [hxa] at st
  have hP : TurnB [gr] wr (putAll wr gr (i * n) zs) := (TurnB.refl _ _).putAll (List.mem_singleton.2 rfl) _ _
  have hlta := elems_lt (fun x cs b h => hRlt _ x cs b h) ha
  refine ⟨gr :: ba, ⟨xa, ba, ?_, ha.agree hR (hP.agree (fun b hb => ⟨hlta b hb, by simp; intro e; exact hgi (by rw [← e]; exact hin b hb)⟩)), by simp [blk, Value.ownBlock]⟩, hi, ?_, ?_, ht.trans hP⟩
  · rw [hi]
    obtain ⟨_, h2⟩ := st
    refine ⟨hxa, ?_⟩
    rcases h2 with ⟨e, _⟩ | ⟨g, cap', cur, e, hg, hh, hnc, hcm, hs, ht2⟩
    · cases e
    · simp only [Value.slice.injEq, Option.some.injEq, Addr.mk.injEq] at e
      obtain ⟨⟨rfl, -, -⟩, -, rfl⟩ := e
      refine .inr ⟨gr, cap, cur, rfl, hg, hh, by omega, hcm, hs, ?_⟩
      have hle : i * n ≤ l.length * n := Nat.mul_le_mul_right n (by omega)
      have := congrArg (List.take (i * n)) ht2
      rw [List.take_take, Nat.min_eq_left hle, ← hxa, List.take_left'] at this
      · rw [← hxa]; exact this
      · rfl
  · simp only [List.nodup_cons]
    exact ⟨fun h => hgi (hin gr h), hnd⟩
  · intro b hb
    rcases List.mem_cons.1 hb with h | h
    · exact List.mem_cons.2 (.inl h)
    · exact List.mem_cons.2 (.inr (hin b h))
end

theorem zeroTask (w : World) : (zeroValue 46).run Tryz.prog w = .ok (.agg #[.int .i64 0, .int .i64 0, .int .i64 0, .int .i64 0, .int .i64 0, .slice none 0 0, .slice none 0 0]) w := by
  obtain ⟨i, hi, hzz⟩ := Option.map_eq_some_iff.1 Tryz.infoTask
  simp only [Prod.mk.injEq] at hzz
  simp [zeroValue, typeInfo, hi, hzz.1]
set_option maxHeartbeats 3200000 in
set_option maxRecDepth 20000 in
theorem deleteTask_any (g : Nat) (lb : Array Value) (p : TV → Bool) (Inv : World → Prop) (eg : ∀ args w, (callFunc g args).run Tryz.prog w = .ok (.enter g args) w) (hT : Tells TaskR g lb p Inv) (v : Value) (hK : ∀ w w', TurnB (blk v) w w' → Inv w → Inv w')
    (l : List TV) (bs : List Nat) (w : World) (h : RowO TaskO 46 7 w v l bs) (hnd : bs.Nodup) (hlen : l.length ≤ 1048576) (hI : Inv w) :
    Calls Tryz.prog 107 #[v, .func (.func g) #[] lb] w fun e w' => ∃ v' bs', e = .returned v' ∧ RowO TaskO 46 7 w' v' (l.filter fun x => !p x) bs' ∧ bs'.Nodup ∧ (∀ b ∈ bs', b ∈ bs) ∧ TurnB (blk v) w w' := by
  have hsl : TaskSl w v l := RowO.sl (fun _ _ _ h => h.len) (fun _ _ _ h => h.r) h
  have hix := indexTask_by g lb p Inv eg hT (fun w w' hb => hK w w' (TurnB.of_below hb)) v l w hsl hlen hI
  obtain ⟨A, c, rfl, -⟩ := hsl.form
  have HROW := Lib.hid h
  have HT := Lib.hid hT
  have HK := Lib.hid hK
  have HI := Lib.hid hI
  have HIX := Lib.hid hix
  clear hix hT hK hI hsl
  rcases pIdx_spec (p := p) (l := l) with ⟨e1, hall⟩ | ⟨j0, x0, e1, hx0, hp0, hall⟩
  · have HP := Lib.hid (And.intro e1 (And.intro hall hnd))
    clear e1 hall hnd h
    go_enter Tryz.func107, Tryz.ntmps107
    go_wp2_with fail
    refine HIX.out.mono ?_
    rintro e w1 ⟨rfl, hb1⟩
    rw [HP.out.1]
    go_wp2_with fail
    go_ret
    refine ⟨_, bs, rfl, ?_, HP.out.2.2, fun _ h => h, TurnB.of_below hb1⟩
    rw [filter_none HP.out.2.1]
    exact HROW.out.agree TaskO.framed (Agree.of_below hb1 (rowO_lt (fun _ _ _ h => h.lt) HROW.out))
  · obtain ⟨xs, bi, ho, he, rfl⟩ := h
    have hj0 : j0 < l.length := (List.getElem?_eq_some_iff.1 hx0).1
    obtain ⟨gr, cap, e, hgrl, -, -⟩ := own_cells ho (by omega)
    simp only [Value.slice.injEq] at e
    obtain ⟨rfl, -, rfl⟩ := e
    have hblk : blk (.slice (some ⟨gr, 0, none⟩) l.length c) = [gr] := rfl
    rw [hblk] at hnd
    have hnd2 : bi.Nodup := (List.nodup_append.1 hnd).2.1
    have hgi : gr ∉ bi := fun hm => (List.nodup_append.1 hnd).2.2 gr (by simp) gr hm rfl
    have HST := Lib.hid (fun wr (hb : Below w.heap.size w wr) => DelInv.start (p := p) TaskO.framed (fun _ _ _ _ h => h.len) (fun _ _ _ _ h => h.lt) ho he hnd2 hx0 hp0 hall hb)
    have HGI := Lib.hid hgi
    have HE1 := Lib.hid e1
    clear ho he hnd hnd2 hx0 hp0 hall hgi e1 hgrl HROW
    go_enter Tryz.func107, Tryz.ntmps107
    go_wp2_with fail
    refine HIX.out.mono ?_
    rintro e w1 ⟨rfl, hb1⟩
    rw [HE1.out]
    have hI1 := HST.out w1 hb1
    have hne1 : ((j0 : Int) == -1) = false := beq_eq_false_iff_ne.2 (by omega)
    have HI1 := Lib.hid hI1
    clear hI1 HST HIX HE1 hblk
    go_wp2_with fail
    go_loopw [5, 6] (fun s5 s6 wr => ∃ i j : Nat, s5 = .int .i64 i ∧ s6 = .int .i64 j ∧ DelInv TaskO 7 46 p w gr c l bi i j wr) (fun _ s6 _ => (l.length - intOf s6).toNat)
    case atStart => exact ⟨j0, j0 + 1, rfl, by go_num, HI1.out⟩
    case round =>
      obtain ⟨i, j, rfl, rfl, hinv⟩ := hrel
      obtain ⟨hij, hjl⟩ := hinv.lt
      obtain ⟨hgl, hcs, hfr⟩ := hinv.block
      have hIr := HK.out _ _ hinv.turn HI.out
      have HINV := Lib.hid hinv
      by_cases hlt : j < l.length
      · obtain ⟨t, ht⟩ : ∃ t, l[j]? = some t := ⟨_, List.getElem?_eq_getElem hlt⟩
        obtain ⟨cs, b1, hO, hC, hkeep, hskip⟩ := hinv.round TaskO.framed (fun _ _ _ _ h => h.len) (fun _ _ _ _ h => h.lt) HGI.out ht
        have hcall := fun W (hb : Below wr.heap.size wr W) => HT.out W t cs (HK.out _ _ (TurnB.of_below hb) hIr) (TaskR.kept _ _ _ _ hb hO.r)
        have HKEEP := Lib.hid hkeep
        have HSKIP := Lib.hid hskip
        obtain ⟨v1, v2, rfl, hO1, hO2, -⟩ := hO
        obtain ⟨A1, c1, rfl, -⟩ := own_form hO1
        obtain ⟨A2, c2, rfl, -⟩ := own_form hO2
        clear hO1 hO2
        obtain ⟨y0, p0⟩ := hcs (i * 7 + 0) (by omega); obtain ⟨y1, p1⟩ := hcs (i * 7 + 1) (by omega); obtain ⟨y2, p2⟩ := hcs (i * 7 + 2) (by omega); obtain ⟨y3, p3⟩ := hcs (i * 7 + 3) (by omega); obtain ⟨y4, p4⟩ := hcs (i * 7 + 4) (by omega); obtain ⟨y5, p5⟩ := hcs (i * 7 + 5) (by omega); obtain ⟨y6, p6⟩ := hcs (i * 7 + 6) (by omega)
        have q0 := hC 0 _ rfl; have q1 := hC 1 _ rfl; have q2 := hC 2 _ rfl; have q3 := hC 3 _ rfl; have q4 := hC 4 _ rfl; have q5 := hC 5 _ rfl; have q6 := hC 6 _ rfl
        simp only [Nat.add_zero] at p0 q0
        generalize hq : p t = q at hcall
        have HQ := Lib.hid hq
        have HCALL := Lib.hid hcall
        have hlti : (j : Int) < (l.length : Int) := by omega
        have hilt : (i : Int) < (l.length : Int) := by omega
        clear hq hcall hkeep hskip hC hcs hinv ht hIr
        cases q
        · go_wp2_with (go_at_fn g; refine (HCALL.out _ (by repeat' (first | exact Below.refl _ _ | refine Below.alloc ?_ ?_ _ | refine Below.setCell ?_ ?_ _ | refine Below.drew ?_ | (apply below_step; assumption) | (simp; done) | (simp; omega) | omega))).mono ?_; rintro e w2 ⟨rfl, hb2⟩; have hz2 := hb2.size; (try simp at hz2); have BV := (BlockIs.new wr 46 #[.int .i64 t.id, .int .i64 t.prio, .int .i64 t.need.c, .int .i64 t.need.m, .int .i64 t.need.p, .slice A1 t.want.length c1, .slice A2 t.tols.length c2]).below hb2 (by simp); have v0 := BV.cell 0; have v1 := BV.cell 1; have v2 := BV.cell 2; have v3 := BV.cell 3; have v4 := BV.cell 4; have v5 := BV.cell 5; have v6 := BV.cell 6; simp at v0 v1 v2 v3 v4 v5 v6; have x0 : w2.cell? ⟨gr, i * 7 + 0, none⟩ = some y0 := (hb2.cell (p := ⟨gr, i * 7 + 0, none⟩) (by simp; omega)).trans ((World.cell?_alloc_lt wr _ ⟨gr, i * 7 + 0, none⟩ hgl).trans p0); have x1 : w2.cell? ⟨gr, i * 7 + 1, none⟩ = some y1 := (hb2.cell (p := ⟨gr, i * 7 + 1, none⟩) (by simp; omega)).trans ((World.cell?_alloc_lt wr _ ⟨gr, i * 7 + 1, none⟩ hgl).trans p1); have x2 : w2.cell? ⟨gr, i * 7 + 2, none⟩ = some y2 := (hb2.cell (p := ⟨gr, i * 7 + 2, none⟩) (by simp; omega)).trans ((World.cell?_alloc_lt wr _ ⟨gr, i * 7 + 2, none⟩ hgl).trans p2); have x3 : w2.cell? ⟨gr, i * 7 + 3, none⟩ = some y3 := (hb2.cell (p := ⟨gr, i * 7 + 3, none⟩) (by simp; omega)).trans ((World.cell?_alloc_lt wr _ ⟨gr, i * 7 + 3, none⟩ hgl).trans p3); have x4 : w2.cell? ⟨gr, i * 7 + 4, none⟩ = some y4 := (hb2.cell (p := ⟨gr, i * 7 + 4, none⟩) (by simp; omega)).trans ((World.cell?_alloc_lt wr _ ⟨gr, i * 7 + 4, none⟩ hgl).trans p4); have x5 : w2.cell? ⟨gr, i * 7 + 5, none⟩ = some y5 := (hb2.cell (p := ⟨gr, i * 7 + 5, none⟩) (by simp; omega)).trans ((World.cell?_alloc_lt wr _ ⟨gr, i * 7 + 5, none⟩ hgl).trans p5); have x6 : w2.cell? ⟨gr, i * 7 + 6, none⟩ = some y6 := (hb2.cell (p := ⟨gr, i * 7 + 6, none⟩) (by simp; omega)).trans ((World.cell?_alloc_lt wr _ ⟨gr, i * 7 + 6, none⟩ hgl).trans p6); (try simp only [Nat.add_zero] at x0); have xf : ∀ o, w2.frozen? ⟨gr, o, none⟩ = false := (fun o => (hb2.frozen (p := ⟨gr, o, none⟩) (by simp; omega)).trans ((((Below.refl wr.heap.size wr).alloc (Nat.le_refl _) _).frozen (p := ⟨gr, o, none⟩) hgl).trans (hfr o))); clear BV)
          go_roundw
          case rel => exact ⟨i + 1, j + 1, by go_num, by go_num, HKEEP.out _ (by repeat' (first | exact Below.refl _ _ | refine Below.alloc ?_ ?_ _ | refine Below.setCell ?_ ?_ _ | refine Below.drew ?_ | (apply below_step; assumption) | (simp; done) | (simp; omega) | omega)) HQ.out⟩
          case measure => simp [intOf]; omega
        · go_wp2_with (go_at_fn g; refine (HCALL.out _ (by repeat' (first | exact Below.refl _ _ | refine Below.alloc ?_ ?_ _ | refine Below.setCell ?_ ?_ _ | refine Below.drew ?_ | (apply below_step; assumption) | (simp; done) | (simp; omega) | omega))).mono ?_; rintro e w2 ⟨rfl, hb2⟩; have hz2 := hb2.size; (try simp at hz2))
          go_roundw
          case rel => exact ⟨i, j + 1, rfl, by go_num, HSKIP.out _ (by repeat' (first | exact Below.refl _ _ | refine Below.alloc ?_ ?_ _ | refine Below.setCell ?_ ?_ _ | refine Below.drew ?_ | (apply below_step; assumption) | (simp; done) | (simp; omega) | omega)) HQ.out⟩
          case measure => simp [intOf]; omega
      · have hje : j = l.length := by omega
        subst hje
        have hmul : i * 7 + (l.length - i) * 7 = l.length * 7 := by rw [← Nat.add_mul]; congr 1; omega
        have hsome : ∀ k, k < (l.length - i) * 7 → (wr.cell? ⟨gr, i * 7 + k, none⟩).isSome = true := fun k hk => by
          obtain ⟨u, hu⟩ := hcs (i * 7 + k) (by omega)
          rw [hu]; rfl
        have hcl : ∀ ty', (Builtin.clear_ #[35] ty' #[.slice (some ⟨gr, i * 7, none⟩) (l.length - i) (c - i)]).run Tryz.prog wr = .ok (.tuple #[]) (putAll wr gr (i * 7) (Builtin.zeroCells #[.int .i64 0, .int .i64 0, .int .i64 0, .int .i64 0, .int .i64 0, .slice none 0 0, .slice none 0 0] (l.length - i)).toList) := fun ty' =>
          run_clear_row wr _ _ ty' (.agg #[.int .i64 0, .int .i64 0, .int .i64 0, .int .i64 0, .int .i64 0, .slice none 0 0, .slice none 0 0]) Tryz.underlying35 zeroTask (by rfl) gr (i * 7) _ _ (by omega) hsome (fun k => hfr _)
        have HEND := Lib.hid (hinv.done TaskO.framed (fun _ _ _ _ h => h.len) (fun _ _ _ _ h => h.lt) HGI.out (zs := (Builtin.zeroCells #[.int .i64 0, .int .i64 0, .int .i64 0, .int .i64 0, .int .i64 0, .slice none 0 0, .slice none 0 0] (l.length - i)).toList) (by simp [Builtin.zeroCells]))
        have hcap := hinv.capLe
        have hic : (i : Int) ≤ (l.length : Int) := by omega
        have hicc : (i : Int) ≤ (c : Int) := by omega
        have hicc' : i ≤ c := by omega
        generalize putAll wr gr (i * 7) (Builtin.zeroCells #[.int .i64 0, .int .i64 0, .int .i64 0, .int .i64 0, .int .i64 0, .slice none 0 0, .slice none 0 0] (l.length - i)).toList = V at hcl HEND
        clear hinv hcs hIr hmul hsome
        go_wp2_with fail
        go_ret
        obtain ⟨bs', hrow, -, hndr, hsub, htn⟩ := HEND.out
        exact ⟨_, bs', rfl, hrow, hndr, fun b hb => by simpa [blk, Value.ownBlock] using hsub b hb, htn⟩
theorem zeroNode (w : World) : (zeroValue 60).run Tryz.prog w = .ok (.agg #[.int .i64 0, .int .i64 0, .int .i64 0, .int .i64 0, .int .i64 0, .slice none 0 0, .slice none 0 0, .bool false]) w := by
  obtain ⟨i, hi, hzz⟩ := Option.map_eq_some_iff.1 Tryz.infoNode
  simp only [Prod.mk.injEq] at hzz
  simp [zeroValue, typeInfo, hi, hzz.1]
set_option maxHeartbeats 3200000 in
set_option maxRecDepth 20000 in
theorem deleteNode_any (g : Nat) (lb : Array Value) (p : NV → Bool) (Inv : World → Prop) (eg : ∀ args w, (callFunc g args).run Tryz.prog w = .ok (.enter g args) w) (hT : Tells NodeR g lb p Inv) (v : Value) (hK : ∀ w w', TurnB (blk v) w w' → Inv w → Inv w')
    (l : List NV) (bs : List Nat) (w : World) (h : RowO NodeO 60 8 w v l bs) (hnd : bs.Nodup) (hlen : l.length ≤ 1048576) (hI : Inv w) :
    Calls Tryz.prog 118 #[v, .func (.func g) #[] lb] w fun e w' => ∃ v' bs', e = .returned v' ∧ RowO NodeO 60 8 w' v' (l.filter fun x => !p x) bs' ∧ bs'.Nodup ∧ (∀ b ∈ bs', b ∈ bs) ∧ TurnB (blk v) w w' := by
  have hsl : NodeSl w v l := RowO.sl (fun _ _ _ h => h.len) (fun _ _ _ h => h.r) h
  have hix := indexNode_by g lb p Inv eg hT (fun w w' hb => hK w w' (TurnB.of_below hb)) v l w hsl hlen hI
  obtain ⟨A, c, rfl, -⟩ := hsl.form
  have HROW := Lib.hid h
  have HT := Lib.hid hT
  have HK := Lib.hid hK
  have HI := Lib.hid hI
  have HIX := Lib.hid hix
  clear hix hT hK hI hsl
  rcases pIdx_spec (p := p) (l := l) with ⟨e1, hall⟩ | ⟨j0, x0, e1, hx0, hp0, hall⟩
  · have HP := Lib.hid (And.intro e1 (And.intro hall hnd))
    clear e1 hall hnd h
    go_enter Tryz.func118, Tryz.ntmps118
    go_wp2_with fail
    refine HIX.out.mono ?_
    rintro e w1 ⟨rfl, hb1⟩
    rw [HP.out.1]
    go_wp2_with fail
    go_ret
    refine ⟨_, bs, rfl, ?_, HP.out.2.2, fun _ h => h, TurnB.of_below hb1⟩
    rw [filter_none HP.out.2.1]
    exact HROW.out.agree NodeO.framed (Agree.of_below hb1 (rowO_lt (fun _ _ _ h => h.lt) HROW.out))
  · obtain ⟨xs, bi, ho, he, rfl⟩ := h
    have hj0 : j0 < l.length := (List.getElem?_eq_some_iff.1 hx0).1
    obtain ⟨gr, cap, e, hgrl, -, -⟩ := own_cells ho (by omega)
    simp only [Value.slice.injEq] at e
    obtain ⟨rfl, -, rfl⟩ := e
    have hblk : blk (.slice (some ⟨gr, 0, none⟩) l.length c) = [gr] := rfl
    rw [hblk] at hnd
    have hnd2 : bi.Nodup := (List.nodup_append.1 hnd).2.1
    have hgi : gr ∉ bi := fun hm => (List.nodup_append.1 hnd).2.2 gr (by simp) gr hm rfl
    have HST := Lib.hid (fun wr (hb : Below w.heap.size w wr) => DelInv.start (p := p) NodeO.framed (fun _ _ _ _ h => h.len) (fun _ _ _ _ h => h.lt) ho he hnd2 hx0 hp0 hall hb)
    have HGI := Lib.hid hgi
    have HE1 := Lib.hid e1
    clear ho he hnd hnd2 hx0 hp0 hall hgi e1 hgrl HROW
    go_enter Tryz.func118, Tryz.ntmps118
    go_wp2_with fail
    refine HIX.out.mono ?_
    rintro e w1 ⟨rfl, hb1⟩
    rw [HE1.out]
    have hI1 := HST.out w1 hb1
    have hne1 : ((j0 : Int) == -1) = false := beq_eq_false_iff_ne.2 (by omega)
    have HI1 := Lib.hid hI1
    clear hI1 HST HIX HE1 hblk
    go_wp2_with fail
    go_loopw [5, 6] (fun s5 s6 wr => ∃ i j : Nat, s5 = .int .i64 i ∧ s6 = .int .i64 j ∧ DelInv NodeO 8 60 p w gr c l bi i j wr) (fun _ s6 _ => (l.length - intOf s6).toNat)
    case atStart => exact ⟨j0, j0 + 1, rfl, by go_num, HI1.out⟩
    case round =>
      obtain ⟨i, j, rfl, rfl, hinv⟩ := hrel
      obtain ⟨hij, hjl⟩ := hinv.lt
      obtain ⟨hgl, hcs, hfr⟩ := hinv.block
      have hIr := HK.out _ _ hinv.turn HI.out
      have HINV := Lib.hid hinv
      by_cases hlt : j < l.length
      · obtain ⟨t, ht⟩ : ∃ t, l[j]? = some t := ⟨_, List.getElem?_eq_getElem hlt⟩
        obtain ⟨cs, b1, hO, hC, hkeep, hskip⟩ := hinv.round NodeO.framed (fun _ _ _ _ h => h.len) (fun _ _ _ _ h => h.lt) HGI.out ht
        have hcall := fun W (hb : Below wr.heap.size wr W) => HT.out W t cs (HK.out _ _ (TurnB.of_below hb) hIr) (NodeR.kept _ _ _ _ hb hO.r)
        have HKEEP := Lib.hid hkeep
        have HSKIP := Lib.hid hskip
        obtain ⟨v1, v2, rfl, hO1, hO2, -⟩ := hO
        obtain ⟨A1, c1, rfl, -⟩ := own_form hO1
        obtain ⟨A2, c2, rfl, -⟩ := own_form hO2
        clear hO1 hO2
        obtain ⟨y0, p0⟩ := hcs (i * 8 + 0) (by omega); obtain ⟨y1, p1⟩ := hcs (i * 8 + 1) (by omega); obtain ⟨y2, p2⟩ := hcs (i * 8 + 2) (by omega); obtain ⟨y3, p3⟩ := hcs (i * 8 + 3) (by omega); obtain ⟨y4, p4⟩ := hcs (i * 8 + 4) (by omega); obtain ⟨y5, p5⟩ := hcs (i * 8 + 5) (by omega); obtain ⟨y6, p6⟩ := hcs (i * 8 + 6) (by omega); obtain ⟨y7, p7⟩ := hcs (i * 8 + 7) (by omega)
        have q0 := hC 0 _ rfl; have q1 := hC 1 _ rfl; have q2 := hC 2 _ rfl; have q3 := hC 3 _ rfl; have q4 := hC 4 _ rfl; have q5 := hC 5 _ rfl; have q6 := hC 6 _ rfl; have q7 := hC 7 _ rfl
        simp only [Nat.add_zero] at p0 q0
        generalize hq : p t = q at hcall
        have HQ := Lib.hid hq
        have HCALL := Lib.hid hcall
        have hlti : (j : Int) < (l.length : Int) := by omega
        have hilt : (i : Int) < (l.length : Int) := by omega
        clear hq hcall hkeep hskip hC hcs hinv ht hIr
        cases q
        · go_wp2_with (go_at_fn g; refine (HCALL.out _ (by repeat' (first | exact Below.refl _ _ | refine Below.alloc ?_ ?_ _ | refine Below.setCell ?_ ?_ _ | refine Below.drew ?_ | (apply below_step; assumption) | (simp; done) | (simp; omega) | omega))).mono ?_; rintro e w2 ⟨rfl, hb2⟩; have hz2 := hb2.size; (try simp at hz2); have BV := (BlockIs.new wr 60 #[.int .i64 t.id, .int .i64 t.pool, .int .i64 t.cap.c, .int .i64 t.cap.m, .int .i64 t.cap.p, .slice A1 t.labs.length c1, .slice A2 t.taints.length c2, .bool t.cordon]).below hb2 (by simp); have v0 := BV.cell 0; have v1 := BV.cell 1; have v2 := BV.cell 2; have v3 := BV.cell 3; have v4 := BV.cell 4; have v5 := BV.cell 5; have v6 := BV.cell 6; have v7 := BV.cell 7; simp at v0 v1 v2 v3 v4 v5 v6 v7; have x0 : w2.cell? ⟨gr, i * 8 + 0, none⟩ = some y0 := (hb2.cell (p := ⟨gr, i * 8 + 0, none⟩) (by simp; omega)).trans ((World.cell?_alloc_lt wr _ ⟨gr, i * 8 + 0, none⟩ hgl).trans p0); have x1 : w2.cell? ⟨gr, i * 8 + 1, none⟩ = some y1 := (hb2.cell (p := ⟨gr, i * 8 + 1, none⟩) (by simp; omega)).trans ((World.cell?_alloc_lt wr _ ⟨gr, i * 8 + 1, none⟩ hgl).trans p1); have x2 : w2.cell? ⟨gr, i * 8 + 2, none⟩ = some y2 := (hb2.cell (p := ⟨gr, i * 8 + 2, none⟩) (by simp; omega)).trans ((World.cell?_alloc_lt wr _ ⟨gr, i * 8 + 2, none⟩ hgl).trans p2); have x3 : w2.cell? ⟨gr, i * 8 + 3, none⟩ = some y3 := (hb2.cell (p := ⟨gr, i * 8 + 3, none⟩) (by simp; omega)).trans ((World.cell?_alloc_lt wr _ ⟨gr, i * 8 + 3, none⟩ hgl).trans p3); have x4 : w2.cell? ⟨gr, i * 8 + 4, none⟩ = some y4 := (hb2.cell (p := ⟨gr, i * 8 + 4, none⟩) (by simp; omega)).trans ((World.cell?_alloc_lt wr _ ⟨gr, i * 8 + 4, none⟩ hgl).trans p4); have x5 : w2.cell? ⟨gr, i * 8 + 5, none⟩ = some y5 := (hb2.cell (p := ⟨gr, i * 8 + 5, none⟩) (by simp; omega)).trans ((World.cell?_alloc_lt wr _ ⟨gr, i * 8 + 5, none⟩ hgl).trans p5); have x6 : w2.cell? ⟨gr, i * 8 + 6, none⟩ = some y6 := (hb2.cell (p := ⟨gr, i * 8 + 6, none⟩) (by simp; omega)).trans ((World.cell?_alloc_lt wr _ ⟨gr, i * 8 + 6, none⟩ hgl).trans p6); have x7 : w2.cell? ⟨gr, i * 8 + 7, none⟩ = some y7 := (hb2.cell (p := ⟨gr, i * 8 + 7, none⟩) (by simp; omega)).trans ((World.cell?_alloc_lt wr _ ⟨gr, i * 8 + 7, none⟩ hgl).trans p7); (try simp only [Nat.add_zero] at x0); have xf : ∀ o, w2.frozen? ⟨gr, o, none⟩ = false := (fun o => (hb2.frozen (p := ⟨gr, o, none⟩) (by simp; omega)).trans ((((Below.refl wr.heap.size wr).alloc (Nat.le_refl _) _).frozen (p := ⟨gr, o, none⟩) hgl).trans (hfr o))); clear BV)
          go_roundw
          case rel => exact ⟨i + 1, j + 1, by go_num, by go_num, HKEEP.out _ (by repeat' (first | exact Below.refl _ _ | refine Below.alloc ?_ ?_ _ | refine Below.setCell ?_ ?_ _ | refine Below.drew ?_ | (apply below_step; assumption) | (simp; done) | (simp; omega) | omega)) HQ.out⟩
          case measure => simp [intOf]; omega
        · go_wp2_with (go_at_fn g; refine (HCALL.out _ (by repeat' (first | exact Below.refl _ _ | refine Below.alloc ?_ ?_ _ | refine Below.setCell ?_ ?_ _ | refine Below.drew ?_ | (apply below_step; assumption) | (simp; done) | (simp; omega) | omega))).mono ?_; rintro e w2 ⟨rfl, hb2⟩; have hz2 := hb2.size; (try simp at hz2))
          go_roundw
          case rel => exact ⟨i, j + 1, rfl, by go_num, HSKIP.out _ (by repeat' (first | exact Below.refl _ _ | refine Below.alloc ?_ ?_ _ | refine Below.setCell ?_ ?_ _ | refine Below.drew ?_ | (apply below_step; assumption) | (simp; done) | (simp; omega) | omega)) HQ.out⟩
          case measure => simp [intOf]; omega
      · have hje : j = l.length := by omega
        subst hje
        have hmul : i * 8 + (l.length - i) * 8 = l.length * 8 := by rw [← Nat.add_mul]; congr 1; omega
        have hsome : ∀ k, k < (l.length - i) * 8 → (wr.cell? ⟨gr, i * 8 + k, none⟩).isSome = true := fun k hk => by
          obtain ⟨u, hu⟩ := hcs (i * 8 + k) (by omega)
          rw [hu]; rfl
        have hcl : ∀ ty', (Builtin.clear_ #[36] ty' #[.slice (some ⟨gr, i * 8, none⟩) (l.length - i) (c - i)]).run Tryz.prog wr = .ok (.tuple #[]) (putAll wr gr (i * 8) (Builtin.zeroCells #[.int .i64 0, .int .i64 0, .int .i64 0, .int .i64 0, .int .i64 0, .slice none 0 0, .slice none 0 0, .bool false] (l.length - i)).toList) := fun ty' =>
          run_clear_row wr _ _ ty' (.agg #[.int .i64 0, .int .i64 0, .int .i64 0, .int .i64 0, .int .i64 0, .slice none 0 0, .slice none 0 0, .bool false]) Tryz.underlying36 zeroNode (by rfl) gr (i * 8) _ _ (by omega) hsome (fun k => hfr _)
        have HEND := Lib.hid (hinv.done NodeO.framed (fun _ _ _ _ h => h.len) (fun _ _ _ _ h => h.lt) HGI.out (zs := (Builtin.zeroCells #[.int .i64 0, .int .i64 0, .int .i64 0, .int .i64 0, .int .i64 0, .slice none 0 0, .slice none 0 0, .bool false] (l.length - i)).toList) (by simp [Builtin.zeroCells]))
        have hcap := hinv.capLe
        have hic : (i : Int) ≤ (l.length : Int) := by omega
        have hicc : (i : Int) ≤ (c : Int) := by omega
        have hicc' : i ≤ c := by omega
        generalize putAll wr gr (i * 8) (Builtin.zeroCells #[.int .i64 0, .int .i64 0, .int .i64 0, .int .i64 0, .int .i64 0, .slice none 0 0, .slice none 0 0, .bool false] (l.length - i)).toList = V at hcl HEND
        clear hinv hcs hIr hmul hsome
        go_wp2_with fail
        go_ret
        obtain ⟨bs', hrow, -, hndr, hsub, htn⟩ := HEND.out
        exact ⟨_, bs', rfl, hrow, hndr, fun b hb => by simpa [blk, Value.ownBlock] using hsub b hb, htn⟩
theorem zeroBind (w : World) : (zeroValue 70).run Tryz.prog w = .ok (.agg #[.int .i64 0, .int .i64 0]) w := by
  obtain ⟨i, hi, hzz⟩ := Option.map_eq_some_iff.1 Tryz.infoBind
  simp only [Prod.mk.injEq] at hzz
  simp [zeroValue, typeInfo, hi, hzz.1]
set_option maxHeartbeats 3200000 in
set_option maxRecDepth 20000 in
theorem deleteBind_any (g : Nat) (lb : Array Value) (p : BV → Bool) (Inv : World → Prop) (eg : ∀ args w, (callFunc g args).run Tryz.prog w = .ok (.enter g args) w) (hT : Tells BindR g lb p Inv) (v : Value) (hK : ∀ w w', TurnB (blk v) w w' → Inv w → Inv w')
    (l : List BV) (bs : List Nat) (w : World) (h : RowO BindO 70 2 w v l bs) (hnd : bs.Nodup) (hlen : l.length ≤ 1048576) (hI : Inv w) :
    Calls Tryz.prog 109 #[v, .func (.func g) #[] lb] w fun e w' => ∃ v' bs', e = .returned v' ∧ RowO BindO 70 2 w' v' (l.filter fun x => !p x) bs' ∧ bs'.Nodup ∧ (∀ b ∈ bs', b ∈ bs) ∧ TurnB (blk v) w w' := by
  have hsl : BindSl w v l := RowO.sl (fun _ _ _ h => h.len) (fun _ _ _ h => h.r) h
  have hix := indexBind_by g lb p Inv eg hT (fun w w' hb => hK w w' (TurnB.of_below hb)) v l w hsl hlen hI
  obtain ⟨A, c, rfl, -⟩ := hsl.form
  have HROW := Lib.hid h
  have HT := Lib.hid hT
  have HK := Lib.hid hK
  have HI := Lib.hid hI
  have HIX := Lib.hid hix
  clear hix hT hK hI hsl
  rcases pIdx_spec (p := p) (l := l) with ⟨e1, hall⟩ | ⟨j0, x0, e1, hx0, hp0, hall⟩
  · have HP := Lib.hid (And.intro e1 (And.intro hall hnd))
    clear e1 hall hnd h
    go_enter Tryz.func109, Tryz.ntmps109
    go_wp2_with fail
    refine HIX.out.mono ?_
    rintro e w1 ⟨rfl, hb1⟩
    rw [HP.out.1]
    go_wp2_with fail
    go_ret
    refine ⟨_, bs, rfl, ?_, HP.out.2.2, fun _ h => h, TurnB.of_below hb1⟩
    rw [filter_none HP.out.2.1]
    exact HROW.out.agree BindO.framed (Agree.of_below hb1 (rowO_lt (fun _ _ _ h => h.lt) HROW.out))
  · obtain ⟨xs, bi, ho, he, rfl⟩ := h
    have hj0 : j0 < l.length := (List.getElem?_eq_some_iff.1 hx0).1
    obtain ⟨gr, cap, e, hgrl, -, -⟩ := own_cells ho (by omega)
    simp only [Value.slice.injEq] at e
    obtain ⟨rfl, -, rfl⟩ := e
    have hblk : blk (.slice (some ⟨gr, 0, none⟩) l.length c) = [gr] := rfl
    rw [hblk] at hnd
    have hnd2 : bi.Nodup := (List.nodup_append.1 hnd).2.1
    have hgi : gr ∉ bi := fun hm => (List.nodup_append.1 hnd).2.2 gr (by simp) gr hm rfl
    have HST := Lib.hid (fun wr (hb : Below w.heap.size w wr) => DelInv.start (p := p) BindO.framed (fun _ _ _ _ h => h.len) (fun _ _ _ _ h => h.lt) ho he hnd2 hx0 hp0 hall hb)
    have HGI := Lib.hid hgi
    have HE1 := Lib.hid e1
    clear ho he hnd hnd2 hx0 hp0 hall hgi e1 hgrl HROW
    go_enter Tryz.func109, Tryz.ntmps109
    go_wp2_with fail
    refine HIX.out.mono ?_
    rintro e w1 ⟨rfl, hb1⟩
    rw [HE1.out]
    have hI1 := HST.out w1 hb1
    have hne1 : ((j0 : Int) == -1) = false := beq_eq_false_iff_ne.2 (by omega)
    have HI1 := Lib.hid hI1
    clear hI1 HST HIX HE1 hblk
    go_wp2_with fail
    go_loopw [5, 6] (fun s5 s6 wr => ∃ i j : Nat, s5 = .int .i64 i ∧ s6 = .int .i64 j ∧ DelInv BindO 2 70 p w gr c l bi i j wr) (fun _ s6 _ => (l.length - intOf s6).toNat)
    case atStart => exact ⟨j0, j0 + 1, rfl, by go_num, HI1.out⟩
    case round =>
      obtain ⟨i, j, rfl, rfl, hinv⟩ := hrel
      obtain ⟨hij, hjl⟩ := hinv.lt
      obtain ⟨hgl, hcs, hfr⟩ := hinv.block
      have hIr := HK.out _ _ hinv.turn HI.out
      have HINV := Lib.hid hinv
      by_cases hlt : j < l.length
      · obtain ⟨t, ht⟩ : ∃ t, l[j]? = some t := ⟨_, List.getElem?_eq_getElem hlt⟩
        obtain ⟨cs, b1, hO, hC, hkeep, hskip⟩ := hinv.round BindO.framed (fun _ _ _ _ h => h.len) (fun _ _ _ _ h => h.lt) HGI.out ht
        have hcall := fun W (hb : Below wr.heap.size wr W) => HT.out W t cs (HK.out _ _ (TurnB.of_below hb) hIr) (BindR.kept _ _ _ _ hb hO.r)
        have HKEEP := Lib.hid hkeep
        have HSKIP := Lib.hid hskip
        obtain ⟨rfl, -⟩ := hO
        
        
        
        obtain ⟨y0, p0⟩ := hcs (i * 2 + 0) (by omega); obtain ⟨y1, p1⟩ := hcs (i * 2 + 1) (by omega)
        have q0 := hC 0 _ rfl; have q1 := hC 1 _ rfl
        simp only [Nat.add_zero] at p0 q0
        generalize hq : p t = q at hcall
        have HQ := Lib.hid hq
        have HCALL := Lib.hid hcall
        have hlti : (j : Int) < (l.length : Int) := by omega
        have hilt : (i : Int) < (l.length : Int) := by omega
        clear hq hcall hkeep hskip hC hcs hinv ht hIr
        cases q
        · go_wp2_with (go_at_fn g; refine (HCALL.out _ (by repeat' (first | exact Below.refl _ _ | refine Below.alloc ?_ ?_ _ | refine Below.setCell ?_ ?_ _ | refine Below.drew ?_ | (apply below_step; assumption) | (simp; done) | (simp; omega) | omega))).mono ?_; rintro e w2 ⟨rfl, hb2⟩; have hz2 := hb2.size; (try simp at hz2); have BV := (BlockIs.new wr 70 #[.int .i64 t.task, .int .i64 t.node]).below hb2 (by simp); have v0 := BV.cell 0; have v1 := BV.cell 1; simp at v0 v1; have x0 : w2.cell? ⟨gr, i * 2 + 0, none⟩ = some y0 := (hb2.cell (p := ⟨gr, i * 2 + 0, none⟩) (by simp; omega)).trans ((World.cell?_alloc_lt wr _ ⟨gr, i * 2 + 0, none⟩ hgl).trans p0); have x1 : w2.cell? ⟨gr, i * 2 + 1, none⟩ = some y1 := (hb2.cell (p := ⟨gr, i * 2 + 1, none⟩) (by simp; omega)).trans ((World.cell?_alloc_lt wr _ ⟨gr, i * 2 + 1, none⟩ hgl).trans p1); (try simp only [Nat.add_zero] at x0); have xf : ∀ o, w2.frozen? ⟨gr, o, none⟩ = false := (fun o => (hb2.frozen (p := ⟨gr, o, none⟩) (by simp; omega)).trans ((((Below.refl wr.heap.size wr).alloc (Nat.le_refl _) _).frozen (p := ⟨gr, o, none⟩) hgl).trans (hfr o))); clear BV)
          go_roundw
          case rel => exact ⟨i + 1, j + 1, by go_num, by go_num, HKEEP.out _ (by repeat' (first | exact Below.refl _ _ | refine Below.alloc ?_ ?_ _ | refine Below.setCell ?_ ?_ _ | refine Below.drew ?_ | (apply below_step; assumption) | (simp; done) | (simp; omega) | omega)) HQ.out⟩
          case measure => simp [intOf]; omega
        · go_wp2_with (go_at_fn g; refine (HCALL.out _ (by repeat' (first | exact Below.refl _ _ | refine Below.alloc ?_ ?_ _ | refine Below.setCell ?_ ?_ _ | refine Below.drew ?_ | (apply below_step; assumption) | (simp; done) | (simp; omega) | omega))).mono ?_; rintro e w2 ⟨rfl, hb2⟩; have hz2 := hb2.size; (try simp at hz2))
          go_roundw
          case rel => exact ⟨i, j + 1, rfl, by go_num, HSKIP.out _ (by repeat' (first | exact Below.refl _ _ | refine Below.alloc ?_ ?_ _ | refine Below.setCell ?_ ?_ _ | refine Below.drew ?_ | (apply below_step; assumption) | (simp; done) | (simp; omega) | omega)) HQ.out⟩
          case measure => simp [intOf]; omega
      · have hje : j = l.length := by omega
        subst hje
        have hmul : i * 2 + (l.length - i) * 2 = l.length * 2 := by rw [← Nat.add_mul]; congr 1; omega
        have hsome : ∀ k, k < (l.length - i) * 2 → (wr.cell? ⟨gr, i * 2 + k, none⟩).isSome = true := fun k hk => by
          obtain ⟨u, hu⟩ := hcs (i * 2 + k) (by omega)
          rw [hu]; rfl
        have hcl : ∀ ty', (Builtin.clear_ #[37] ty' #[.slice (some ⟨gr, i * 2, none⟩) (l.length - i) (c - i)]).run Tryz.prog wr = .ok (.tuple #[]) (putAll wr gr (i * 2) (Builtin.zeroCells #[.int .i64 0, .int .i64 0] (l.length - i)).toList) := fun ty' =>
          run_clear_row wr _ _ ty' (.agg #[.int .i64 0, .int .i64 0]) Tryz.underlying37 zeroBind (by rfl) gr (i * 2) _ _ (by omega) hsome (fun k => hfr _)
        have HEND := Lib.hid (hinv.done BindO.framed (fun _ _ _ _ h => h.len) (fun _ _ _ _ h => h.lt) HGI.out (zs := (Builtin.zeroCells #[.int .i64 0, .int .i64 0] (l.length - i)).toList) (by simp [Builtin.zeroCells]))
        have hcap := hinv.capLe
        have hic : (i : Int) ≤ (l.length : Int) := by omega
        have hicc : (i : Int) ≤ (c : Int) := by omega
        have hicc' : i ≤ c := by omega
        generalize putAll wr gr (i * 2) (Builtin.zeroCells #[.int .i64 0, .int .i64 0] (l.length - i)).toList = V at hcl HEND
        clear hinv hcs hIr hmul hsome
        go_wp2_with fail
        go_ret
        obtain ⟨bs', hrow, -, hndr, hsub, htn⟩ := HEND.out
        exact ⟨_, bs', rfl, hrow, hndr, fun b hb => by simpa [blk, Value.ownBlock] using hsub b hb, htn⟩
end Go.Proofs.YtocfgejceoenmaaGreatDoor

namespace Go.Proofs.YtocfgejceoenmaaGreatDoor
open Go.RowKit

/-- Slices.DeleteFunc on one list of a cluster that a call owns. -/
theorem nd_sub {a b c a' : List Nat} (h : (a ++ (b ++ c)).Nodup) (hs : ∀ x ∈ a', x ∈ a) (hn : a'.Nodup) : (a' ++ (b ++ c)).Nodup := by
  rw [List.nodup_append] at h ⊢
  exact ⟨hn, h.2.1, fun x hx y hy => h.2.2 x (hs x hx) y hy⟩
theorem CluO.delTask (g : Nat) (lb : Array Value) (p : TV → Bool) (Inv : World → Prop) (eg : ∀ args w, (callFunc g args).run Tryz.prog w = .ok (.enter g args) w) (hT : Tells TaskR g lb p Inv) {w : World} {c : CV} {a0 a1 a2 : Value} {bs : List Nat} (h : CluO w c a0 a1 a2 bs) (hK : ∀ w w', TurnB bs w w' → Inv w → Inv w') (hI : Inv w) :
    Calls Tryz.prog 107 #[a0, .func (.func g) #[] lb] w fun e w' => ∃ v' bs', e = .returned v' ∧ CluO w' { c with tasks := c.tasks.filter fun x => !p x } v' a1 a2 bs' ∧ (∀ b ∈ bs', b ∈ bs) ∧ TurnB bs w w' := by
  obtain ⟨b0, b1, b2, h0, h1, h2, rfl, hnd, l0, l1, l2⟩ := h
  obtain ⟨n0, n1, n2, d0, d1, d2⟩ := nd3 hnd
  have hsub : ∀ b ∈ blk a0, b ∈ b0 := rowO_blk h0
  have hin : ∀ b ∈ b0, b ∈ b0 ++ (b1 ++ b2) := fun b hb => by simp [hb]
  refine (deleteTask_any g lb p Inv eg hT a0 (fun w w' ht hi => hK w w' (ht.mono (fun b hb => hin b (hsub b hb))) hi) c.tasks b0 w h0 n0 l0 hI).mono ?_
  rintro e w' ⟨v', b', rfl, hr, hn', hs', ht⟩
  have k1 := h1.agree NodeO.framed (ht.agree (fun b hb => ⟨rowO_lt (fun _ _ _ h => h.lt) h1 b hb, fun hx => (d1 b hb).1 (hsub b hx)⟩))
  have k2 := h2.agree BindO.framed (ht.agree (fun b hb => ⟨rowO_lt (fun _ _ _ h => h.lt) h2 b hb, fun hx => (d2 b hb).1 (hsub b hx)⟩))
  refine ⟨v', b' ++ (b1 ++ b2), rfl, ⟨b', b1, b2, hr, k1, k2, rfl, ?_, Nat.le_trans (List.length_filter_le _ _) l0, l1, l2⟩, ?_, ht.mono (fun b hb => hin b (hsub b hb))⟩
  · simp only [List.nodup_append, List.mem_append] at hnd ⊢
    exact ⟨hn', hnd.2.1, fun x hx y hy => hnd.2.2 x (hs' x hx) y hy⟩
  · intro b hb
    simp only [List.mem_append] at hb ⊢
    exact hb.imp (hs' b) id
theorem CluO.delNode (g : Nat) (lb : Array Value) (p : NV → Bool) (Inv : World → Prop) (eg : ∀ args w, (callFunc g args).run Tryz.prog w = .ok (.enter g args) w) (hT : Tells NodeR g lb p Inv) {w : World} {c : CV} {a0 a1 a2 : Value} {bs : List Nat} (h : CluO w c a0 a1 a2 bs) (hK : ∀ w w', TurnB bs w w' → Inv w → Inv w') (hI : Inv w) :
    Calls Tryz.prog 118 #[a1, .func (.func g) #[] lb] w fun e w' => ∃ v' bs', e = .returned v' ∧ CluO w' { c with nodes := c.nodes.filter fun x => !p x } a0 v' a2 bs' ∧ (∀ b ∈ bs', b ∈ bs) ∧ TurnB bs w w' := by
  obtain ⟨b0, b1, b2, h0, h1, h2, rfl, hnd, l0, l1, l2⟩ := h
  obtain ⟨n0, n1, n2, d0, d1, d2⟩ := nd3 hnd
  have hsub : ∀ b ∈ blk a1, b ∈ b1 := rowO_blk h1
  have hin : ∀ b ∈ b1, b ∈ b0 ++ (b1 ++ b2) := fun b hb => by simp [hb]
  refine (deleteNode_any g lb p Inv eg hT a1 (fun w w' ht hi => hK w w' (ht.mono (fun b hb => hin b (hsub b hb))) hi) c.nodes b1 w h1 n1 l1 hI).mono ?_
  rintro e w' ⟨v', b', rfl, hr, hn', hs', ht⟩
  have k0 := h0.agree TaskO.framed (ht.agree (fun b hb => ⟨rowO_lt (fun _ _ _ h => h.lt) h0 b hb, fun hx => (d0 b hb).1 (hsub b hx)⟩))
  have k2 := h2.agree BindO.framed (ht.agree (fun b hb => ⟨rowO_lt (fun _ _ _ h => h.lt) h2 b hb, fun hx => (d2 b hb).2 (hsub b hx)⟩))
  refine ⟨v', b0 ++ (b' ++ b2), rfl, ⟨b0, b', b2, k0, hr, k2, rfl, ?_, l0, Nat.le_trans (List.length_filter_le _ _) l1, l2⟩, ?_, ht.mono (fun b hb => hin b (hsub b hb))⟩
  · simp only [List.nodup_append, List.mem_append] at hnd ⊢
    obtain ⟨q0, ⟨q1, q2, q3⟩, q4⟩ := hnd
    exact ⟨q0, ⟨hn', q2, fun x hx y hy => q3 x (hs' x hx) y hy⟩, fun x hx y hy => q4 x hx y (hy.imp (hs' y) id)⟩
  · intro b hb
    simp only [List.mem_append] at hb ⊢
    exact hb.imp id (fun h => h.imp (hs' b) id)
theorem CluO.delBind (g : Nat) (lb : Array Value) (p : BV → Bool) (Inv : World → Prop) (eg : ∀ args w, (callFunc g args).run Tryz.prog w = .ok (.enter g args) w) (hT : Tells BindR g lb p Inv) {w : World} {c : CV} {a0 a1 a2 : Value} {bs : List Nat} (h : CluO w c a0 a1 a2 bs) (hK : ∀ w w', TurnB bs w w' → Inv w → Inv w') (hI : Inv w) :
    Calls Tryz.prog 109 #[a2, .func (.func g) #[] lb] w fun e w' => ∃ v' bs', e = .returned v' ∧ CluO w' { c with binds := c.binds.filter fun x => !p x } a0 a1 v' bs' ∧ (∀ b ∈ bs', b ∈ bs) ∧ TurnB bs w w' := by
  obtain ⟨b0, b1, b2, h0, h1, h2, rfl, hnd, l0, l1, l2⟩ := h
  obtain ⟨n0, n1, n2, d0, d1, d2⟩ := nd3 hnd
  have hsub : ∀ b ∈ blk a2, b ∈ b2 := rowO_blk h2
  have hin : ∀ b ∈ b2, b ∈ b0 ++ (b1 ++ b2) := fun b hb => by simp [hb]
  refine (deleteBind_any g lb p Inv eg hT a2 (fun w w' ht hi => hK w w' (ht.mono (fun b hb => hin b (hsub b hb))) hi) c.binds b2 w h2 n2 l2 hI).mono ?_
  rintro e w' ⟨v', b', rfl, hr, hn', hs', ht⟩
  have k0 := h0.agree TaskO.framed (ht.agree (fun b hb => ⟨rowO_lt (fun _ _ _ h => h.lt) h0 b hb, fun hx => (d0 b hb).2 (hsub b hx)⟩))
  have k1 := h1.agree NodeO.framed (ht.agree (fun b hb => ⟨rowO_lt (fun _ _ _ h => h.lt) h1 b hb, fun hx => (d1 b hb).2 (hsub b hx)⟩))
  refine ⟨v', b0 ++ (b1 ++ b'), rfl, ⟨b0, b1, b', k0, k1, hr, rfl, ?_, l0, l1, Nat.le_trans (List.length_filter_le _ _) l2⟩, ?_, ht.mono (fun b hb => hin b (hsub b hb))⟩
  · simp only [List.nodup_append, List.mem_append] at hnd ⊢
    obtain ⟨q0, ⟨q1, q2, q3⟩, q4⟩ := hnd
    exact ⟨q0, ⟨q1, hn', fun x hx y hy => q3 x hx y (hs' y hy)⟩, fun x hx y hy => q4 x hx y (hy.imp id (hs' y))⟩
  · intro b hb
    simp only [List.mem_append] at hb ⊢
    exact hb.imp id (fun h => h.imp id (hs' b))
set_option maxHeartbeats 800000 in
theorem withoutTask1_tells (B : Nat) (z : Int) : Tells TaskR 108 #[.pointer (some ⟨B, 0, none⟩)] (fun t : TV => decide (t.id = z)) (fun w => w.cell? ⟨B, 0, none⟩ = some (.int .i64 z)) := by
  intro w t cs hz hR
  show Calls Tryz.prog 108 #[.agg cs.toArray, .pointer (some ⟨B, 0, none⟩)] w _
  obtain ⟨v1, v2, rfl, sl, si, m1, m2⟩ := hR; obtain ⟨A1, c1, rfl, _⟩ := sl.form; obtain ⟨A2, c2, rfl, _⟩ := si.form
  clear sl si m1 m2
  have hB := World.block_lt_of_cell? _ _ hz
  simp only at hB
  go_enter Tryz.func108, Tryz.ntmps108
  go_wp2_with fail
  go_ret
  exact ⟨by first | rfl | simp, (by repeat' (first | exact Below.refl _ _ | refine Below.alloc ?_ ?_ _ | refine Below.setCell ?_ ?_ _ | refine Below.drew ?_ | (apply below_step; assumption) | (simp; done) | (simp; omega) | omega))⟩
theorem withoutTask1_eg : ∀ args w, (callFunc 108 args).run Tryz.prog w = .ok (.enter 108 args) w := enters_of Tryz.func108 (by kernel_rfl) rfl
set_option maxHeartbeats 800000 in
theorem withoutTask2_tells (B : Nat) (z : Int) : Tells BindR 110 #[.pointer (some ⟨B, 0, none⟩)] (fun t : BV => decide (t.task = z)) (fun w => w.cell? ⟨B, 0, none⟩ = some (.int .i64 z)) := by
  intro w t cs hz hR
  show Calls Tryz.prog 110 #[.agg cs.toArray, .pointer (some ⟨B, 0, none⟩)] w _
  obtain rfl := hR
  skip
  have hB := World.block_lt_of_cell? _ _ hz
  simp only at hB
  go_enter Tryz.func110, Tryz.ntmps110
  go_wp2_with fail
  go_ret
  exact ⟨by first | rfl | simp, (by repeat' (first | exact Below.refl _ _ | refine Below.alloc ?_ ?_ _ | refine Below.setCell ?_ ?_ _ | refine Below.drew ?_ | (apply below_step; assumption) | (simp; done) | (simp; omega) | omega))⟩
theorem withoutTask2_eg : ∀ args w, (callFunc 110 args).run Tryz.prog w = .ok (.enter 110 args) w := enters_of Tryz.func110 (by kernel_rfl) rfl
set_option maxHeartbeats 800000 in
theorem withoutNode1_tells (B : Nat) (z : Int) : Tells NodeR 119 #[.pointer (some ⟨B, 0, none⟩)] (fun t : NV => decide (t.id = z)) (fun w => w.cell? ⟨B, 0, none⟩ = some (.int .i64 z)) := by
  intro w t cs hz hR
  show Calls Tryz.prog 119 #[.agg cs.toArray, .pointer (some ⟨B, 0, none⟩)] w _
  obtain ⟨v1, v2, rfl, sl, si, m1, m2⟩ := hR; obtain ⟨A1, c1, rfl, _⟩ := sl.form; obtain ⟨A2, c2, rfl, _⟩ := si.form
  clear sl si m1 m2
  have hB := World.block_lt_of_cell? _ _ hz
  simp only at hB
  go_enter Tryz.func119, Tryz.ntmps119
  go_wp2_with fail
  go_ret
  exact ⟨by first | rfl | simp, (by repeat' (first | exact Below.refl _ _ | refine Below.alloc ?_ ?_ _ | refine Below.setCell ?_ ?_ _ | refine Below.drew ?_ | (apply below_step; assumption) | (simp; done) | (simp; omega) | omega))⟩
theorem withoutNode1_eg : ∀ args w, (callFunc 119 args).run Tryz.prog w = .ok (.enter 119 args) w := enters_of Tryz.func119 (by kernel_rfl) rfl
set_option maxHeartbeats 800000 in
theorem withoutNode2_tells (B : Nat) (z : Int) : Tells BindR 120 #[.pointer (some ⟨B, 0, none⟩)] (fun t : BV => decide (t.node = z)) (fun w => w.cell? ⟨B, 0, none⟩ = some (.int .i64 z)) := by
  intro w t cs hz hR
  show Calls Tryz.prog 120 #[.agg cs.toArray, .pointer (some ⟨B, 0, none⟩)] w _
  obtain rfl := hR
  skip
  have hB := World.block_lt_of_cell? _ _ hz
  simp only at hB
  go_enter Tryz.func120, Tryz.ntmps120
  go_wp2_with fail
  go_ret
  exact ⟨by first | rfl | simp, (by repeat' (first | exact Below.refl _ _ | refine Below.alloc ?_ ?_ _ | refine Below.setCell ?_ ?_ _ | refine Below.drew ?_ | (apply below_step; assumption) | (simp; done) | (simp; omega) | omega))⟩
theorem withoutNode2_eg : ∀ args w, (callFunc 120 args).run Tryz.prog w = .ok (.enter 120 args) w := enters_of Tryz.func120 (by kernel_rfl) rfl
set_option maxHeartbeats 800000 in
theorem withoutBind1_tells (B : Nat) (z : Int) : Tells BindR 125 #[.pointer (some ⟨B, 0, none⟩)] (fun t : BV => decide (t.task = z)) (fun w => w.cell? ⟨B, 0, none⟩ = some (.int .i64 z)) := by
  intro w t cs hz hR
  show Calls Tryz.prog 125 #[.agg cs.toArray, .pointer (some ⟨B, 0, none⟩)] w _
  obtain rfl := hR
  skip
  have hB := World.block_lt_of_cell? _ _ hz
  simp only at hB
  go_enter Tryz.func125, Tryz.ntmps125
  go_wp2_with fail
  go_ret
  exact ⟨by first | rfl | simp, (by repeat' (first | exact Below.refl _ _ | refine Below.alloc ?_ ?_ _ | refine Below.setCell ?_ ?_ _ | refine Below.drew ?_ | (apply below_step; assumption) | (simp; done) | (simp; omega) | omega))⟩
theorem withoutBind1_eg : ∀ args w, (callFunc 125 args).run Tryz.prog w = .ok (.enter 125 args) w := enters_of Tryz.func125 (by kernel_rfl) rfl
theorem none_bad {c r : CV} {ex : Bool} (h : codeNone false (clusterOk c) ex ≠ 0) : needG c ex r = (CV.zero, codeNone false (clusterOk c) ex) := by
  cases h1 : clusterOk c
  · rw [needG_form h1]; rfl
  · cases ex
    · rw [needG_none h1]; rfl
    · rw [h1] at h; exact absurd rfl h
theorem none_good {c : CV} {ex : Bool} (h : codeNone false (clusterOk c) ex = 0) : clusterOk c = true ∧ ex = true := by
  unfold codeNone at h
  cases h1 : clusterOk c <;> cases ex <;> simp_all
theorem CluO.forms {w : World} {c : CV} {a0 a1 a2 : Value} {bs : List Nat} (h : CluO w c a0 a1 a2 bs) : (∃ N L m, a0 = .slice N L m) ∧ (∃ N L m, a1 = .slice N L m) ∧ (∃ N L m, a2 = .slice N L m) := by
  obtain ⟨b0, b1, b2, h0, h1, h2, _⟩ := h
  obtain ⟨A0, c0, e0⟩ := rowO_form h0
  obtain ⟨A1, c1, e1⟩ := rowO_form h1
  obtain ⟨A2, c2, e2⟩ := rowO_form h2
  exact ⟨⟨_, _, _, e0⟩, ⟨_, _, _, e1⟩, ⟨_, _, _, e2⟩⟩
end Go.Proofs.YtocfgejceoenmaaGreatDoor
