/- errors.Is at what this program hands it: nil, and a fieldError that wraps the sentinel itself. -/
import Derived.Test.YtnjmnocehmoeaaaGreatDoorChecked
import Derived.WalkKit
import Derived.LaidEql
import Derived.Stop.Asserts
import Derived.RowKitTokens
import Derived.Outline
namespace Go.Proofs.YtnjmnocehmoeaaaGreatDoor
open Go.RowKit Go.Extern.Stop Go.Stop Go.Extern

theorem Tryz.isTypeOf (v : Value) (w : World) : (Extern.ReflectliteType.typeOf #[.iface 156 v]).run Tryz.prog w = .ok (.iface 147 (.agg #[.pointer (some ⟨1, 156, none⟩)])) w := by kernel_rfl
theorem Tryz.callComparable (w : World) : (callFunc 126 #[.agg #[.pointer (some ⟨1, 156, none⟩)]]).run Tryz.prog w = .ok (.value (.bool true)) w := by kernel_rfl
theorem Tryz.isMethodComparable (v : Value) (w : World) : (Go.method 295 147 v "Comparable").run Tryz.prog w = .ok (126, v) w := by kernel_rfl
theorem Tryz.methodUnwrap (v : Value) (w : World) : (Go.method 295 138 v "Unwrap").run Tryz.prog w = .ok (122, v) w := by kernel_rfl
theorem Tryz.isComp : (Tryz.prog.info? 156).map (·.comparable) = some true := by kernel_rfl
theorem Tryz.isSize : (Tryz.prog.info? 183).map (·.size) = some 1 := by kernel_rfl
theorem Tryz.noIsF (v : Value) (xT : TypeId) (w : World) : (Instr.typeAssert (.iface 138 v) xT 149 true).run Tryz.prog w = .ok (.tuple #[.nilIface, .bool false]) w := run_typeAssert_lacksB Tryz.underlying149 (by kernel_rfl) (by kernel_rfl) v xT w
theorem Tryz.hasUnwrapF (v : Value) (xT : TypeId) (w : World) : (Instr.typeAssert (.iface 138 v) xT 151 true).run Tryz.prog w = .ok (.tuple #[.iface 138 v, .bool true]) w := run_typeAssert_hasB Tryz.underlying151 (by kernel_rfl) v xT w

/-- errors.Is(nil, x). -/
theorem is_nil (b : Addr) (w : World) :
    Calls Tryz.prog 96 #[.nilIface, .iface 156 (.pointer (some b))] w fun e w' => e = .returned (.bool false) ∧ w = w' := by
  have hn := run_eql_iface_nil_left (P := Tryz.prog) w 156 (.pointer (some b)) Tryz.underlying117
  go_enter Tryz.func96, Tryz.ntmps96
  go_wp2
  go_ret
  exact ⟨rfl, rfl⟩

set_option maxRecDepth 1000000 in
/-- errors.Is(fieldError{s, x}, x). -/
theorem is_field (s : ByteArray) (b : Addr) (w : World) :
    Calls Tryz.prog 96 #[.iface 138 (.agg #[.string s, .iface 156 (.pointer (some b))]), .iface 156 (.pointer (some b))] w fun e w' => e = .returned (.bool true) ∧ Below w.heap.size w w' := by
  obtain ⟨i, hi, hcmp⟩ := Option.map_eq_some_iff.1 Tryz.isComp
  obtain ⟨j, hj, hjs⟩ := Option.map_eq_some_iff.1 Tryz.isSize
  have h8 := @run_callFunc_extern Tryz.prog 102 _ Extern.ReflectliteType.typeOf Tryz.func102 (by kernel_rfl) (by kernel_rfl) (by kernel_rfl) (by kernel_rfl)
  have tT := Tryz.isTypeOf
  have cT := Tryz.callComparable
  have mR := Tryz.isMethodComparable
  have mU := Tryz.methodUnwrap
  have nE := Tryz.noIsF
  have uE := Tryz.hasUnwrapF
  have heq := fun w => run_eql_iface_ptr_same (P := Tryz.prog) w b Tryz.underlying117 Tryz.underlying156 hi hcmp hj
  have hty := fun w => run_eql_iface_types (P := Tryz.prog) 138 156 (.agg #[.string s, .iface 156 (.pointer (some b))]) (.pointer (some b)) Tryz.underlying117 (by decide) w
  go_enter Tryz.func96, Tryz.ntmps96
  go_wp2
  refine wp_loop_rounds 2 ?_
  rw [rounds_succ]
  go_wp2
  rw [rounds_succ]
  go_wp2
  go_ret
  exact ⟨rfl, (Below.refl _ _).alloc (Nat.le_refl _) _⟩
end Go.Proofs.YtnjmnocehmoeaaaGreatDoor
