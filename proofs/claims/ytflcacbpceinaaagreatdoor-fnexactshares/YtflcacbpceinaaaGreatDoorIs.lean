/- errors.Is at what this program hands it: nil, and a fieldError that wraps the sentinel itself. -/
import Derived.Test.YtflcacbpceinaaaGreatDoorChecked
import Derived.WalkKit
import Derived.LaidEql
import Derived.Stop.Asserts
import Derived.RowKitTokens
import Derived.Outline
namespace Go.Proofs.YtflcacbpceinaaaGreatDoor
open Go.RowKit Go.Extern.Stop Go.Stop Go.Extern

theorem Tryz.isTypeOf (v : Value) (w : World) : (Extern.ReflectliteType.typeOf #[.iface 235 v]).run Tryz.prog w = .ok (.iface 208 (.agg #[.pointer (some ⟨3, 235, none⟩)])) w := by kernel_rfl
theorem Tryz.callComparable (w : World) : (callFunc 239 #[.agg #[.pointer (some ⟨3, 235, none⟩)]]).run Tryz.prog w = .ok (.value (.bool true)) w := by kernel_rfl
theorem Tryz.isMethodComparable (v : Value) (w : World) : (Go.method 370 208 v "Comparable").run Tryz.prog w = .ok (239, v) w := by kernel_rfl
theorem Tryz.methodUnwrap (v : Value) (w : World) : (Go.method 370 204 v "Unwrap").run Tryz.prog w = .ok (236, v) w := by kernel_rfl
theorem Tryz.isComp : (Tryz.prog.info? 235).map (·.comparable) = some true := by kernel_rfl
theorem Tryz.isSize : (Tryz.prog.info? 258).map (·.size) = some 1 := by kernel_rfl
theorem Tryz.noIsF (v : Value) (xT : TypeId) (w : World) : (Instr.typeAssert (.iface 204 v) xT 229 true).run Tryz.prog w = .ok (.tuple #[.nilIface, .bool false]) w := run_typeAssert_lacksB Tryz.underlying229 (by kernel_rfl) (by kernel_rfl) v xT w
theorem Tryz.hasUnwrapF (v : Value) (xT : TypeId) (w : World) : (Instr.typeAssert (.iface 204 v) xT 215 true).run Tryz.prog w = .ok (.tuple #[.iface 204 v, .bool true]) w := run_typeAssert_hasB Tryz.underlying215 (by kernel_rfl) v xT w

/-- errors.Is(nil, x). -/
theorem is_nil (b : Addr) (w : World) :
    Calls Tryz.prog 162 #[.nilIface, .iface 235 (.pointer (some b))] w fun e w' => e = .returned (.bool false) ∧ w = w' := by
  have hn := run_eql_iface_nil_left (P := Tryz.prog) w 235 (.pointer (some b)) Tryz.underlying98
  go_enter Tryz.func162, Tryz.ntmps162
  go_wp2
  go_ret
  exact ⟨rfl, rfl⟩

set_option maxRecDepth 1000000 in
/-- errors.Is(fieldError{s, x}, x). -/
theorem is_field (s : ByteArray) (b : Addr) (w : World) :
    Calls Tryz.prog 162 #[.iface 204 (.agg #[.string s, .iface 235 (.pointer (some b))]), .iface 235 (.pointer (some b))] w fun e w' => e = .returned (.bool true) ∧ Below w.heap.size w w' := by
  obtain ⟨i, hi, hcmp⟩ := Option.map_eq_some_iff.1 Tryz.isComp
  obtain ⟨j, hj, hjs⟩ := Option.map_eq_some_iff.1 Tryz.isSize
  have h8 := @run_callFunc_extern Tryz.prog 196 _ Extern.ReflectliteType.typeOf Tryz.func196 (by kernel_rfl) (by kernel_rfl) (by kernel_rfl) (by kernel_rfl)
  have tT := Tryz.isTypeOf
  have cT := Tryz.callComparable
  have mR := Tryz.isMethodComparable
  have mU := Tryz.methodUnwrap
  have nE := Tryz.noIsF
  have uE := Tryz.hasUnwrapF
  have heq := fun w => run_eql_iface_ptr_same (P := Tryz.prog) w b Tryz.underlying98 Tryz.underlying235 hi hcmp hj
  have hty := fun w => run_eql_iface_types (P := Tryz.prog) 204 235 (.agg #[.string s, .iface 235 (.pointer (some b))]) (.pointer (some b)) Tryz.underlying98 (by decide) w
  go_enter Tryz.func162, Tryz.ntmps162
  go_wp2
  refine wp_loop_rounds 2 ?_
  rw [rounds_succ]
  go_wp2
  rw [rounds_succ]
  go_wp2
  go_ret
  exact ⟨rfl, (Below.refl _ _).alloc (Nat.le_refl _) _⟩
end Go.Proofs.YtflcacbpceinaaaGreatDoor
