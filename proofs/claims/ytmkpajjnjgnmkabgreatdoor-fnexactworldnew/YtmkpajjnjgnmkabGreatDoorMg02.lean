/- Words for memory that every seat shares: what a call that makes memory leaves; a block that is known whole. errors.Is at what this program hands it: nil, and a fieldError that wraps the sentinel itself. Amounts in plain Lean: what chapter 1's functions compute. The contracts of chapter 1's functions: checkRes, checkBoth, outOfRange, keepValid. What this seat's rows share: the closed facts, the sentinel's cell out of 'laid', a world for the witness. Words for lists. Labels in plain Lean: what chapter 2's functions compute. The contracts of chapter 2's helpers: markInRange, labInRange, with. The contracts of marks.with and marks.hasAll. The contract of marks.hasAll. Slices of labels; the contract of readLabs. What this seat's rows share: the closed facts; a slice of labels, a slice of integers, a label, opened. The laws' helpers over slices of labels: toLab, toLabS, eqLab, eqLabS, szLabS. Slices of integers: toIntS, eqIntS; taints as labels with the Val 0. A slice of integers, opened. Amounts in plain Lean: sums of lists. Tasks, nodes, bindings and clusters in plain Lean: what chapter 3's functions compute. Tasks and nodes as arguments, opened. Slices of tasks, nodes and bindings, and what they read as. The contracts of the model's ResOk, ResAdd, ResSub, ResFits, and of the laws' toRes, eqRes. The laws' helpers over tasks and nodes: szTask, toTask, eqTask, szNode, toNode, eqNode. The contracts of find, findTask, findNode, findBind. A region that draws its order, op by op: what is wanted is taken first, what is not wanted is passed. The laws' helpers over clusters: szCluster; toTaskS, toNodeS, toBindS, toCluster. A cluster as an argument, opened. Memory of a call's own, block by block: rows, tasks, nodes, bindings; append. The laws' helpers over clusters: toTaskS, toNodeS, toBindS, toCluster. Rows of a call's own, element by element: which blocks turn; rows split and joined; cells of one element set anew. Whole structs as rows: a load that a guard asks for; a call's results out of a cell; what turned blocks leave. The contracts of the model's l03CopyTask and l03CopyNode. The contract of the model's l03Copy. The contracts of chapter 1's functions: outOfRange, checkBoth, keepValid, ResOk, ResAdd, ResSub, ResFits. -/
import Derived.WalkKit
import Derived.Deep.DeepCutAuto
import Derived.Lib.Hide
import Derived.Laws.MakeOwn
import Derived.Deep.QuietTactic
import Derived.BigQuiet
import Derived.WalkSmall
import Derived.Test.YtmkpajjnjgnmkabGreatDoorChecked
import Derived.LaidEql
import Derived.Stop.Asserts
import Derived.RowKitTokens
import Derived.Outline
import Derived.Test.YtmkpajjnjgnmkabGreatDoorCards
import Derived.Test.YtmkpajjnjgnmkabGreatDoorTie
import Derived.Test.YtmkpajjnjgnmkabGreatDoorRowBase
import Derived.DeepKeys
import Derived.Laws.StructEq
import Derived.Deep.Slices
import Derived.Deep.Fields
import Derived.ChangeSame
import Derived.Deep.RegionHeld3
import Derived.Deep.Strs
import Derived.Maps.AppendAt
import Derived.Laws.OwnMore
import Derived.OwnWalk
import Derived.Laws.Rows
import Derived.Laws.Tables
import Derived.Laws.CopyOwn
import Derived.Deep.RegionLaw
namespace Go.Proofs.YtmkpajjnjgnmkabGreatDoor
open Go.RowKit

theorem bcell {W w1 : World} (hb : Below W.heap.size W w1) : (∀ b o, b < W.heap.size → w1.cell? ⟨b, o, none⟩ = W.cell? ⟨b, o, none⟩) ∧ (∀ b o, b < W.heap.size → w1.frozen? ⟨b, o, none⟩ = W.frozen? ⟨b, o, none⟩) :=
  ⟨fun b o h => hb.cell (p := ⟨b, o, none⟩) h, fun b o h => hb.frozen (p := ⟨b, o, none⟩) h⟩
theorem below_step {B C : Nat} {a w w1 : World} (hb : Below C w w1) (h : Below B a w) (hBC : B ≤ C) : Below B a w1 := h.trans (hb.mono hBC)
theorem below_of {a w w1 : World} (h : Below a.heap.size a w) (hb : Below w.heap.size w w1) : Below a.heap.size a w1 := h.trans (hb.mono h.size)
theorem below_drewN {B : Nat} {a w : World} (h : Below B a w) (n : Nat) : Below B a (w.drewN n) := h.trans ⟨rfl, rfl, rfl, Nat.le_refl _, fun _ _ => rfl⟩
theorem blt {W w1 : World} (hb : Below W.heap.size W w1) : ∀ b, b < W.heap.size → b < w1.heap.size := fun _ h => Nat.lt_of_lt_of_le h hb.size

def BlockIs (w : World) (g : Nat) (t : TypeId) (cs : Array Value) : Prop := w.heap[g]? = some (.cells cs t (0, 0))
section
variable {w w' : World} {g : Nat} {t : TypeId} {cs : Array Value}
theorem BlockIs.lt (h : BlockIs w g t cs) : g < w.heap.size := by
  rcases Nat.lt_or_ge g w.heap.size with h' | h'
  · exact h'
  · unfold BlockIs at h; rw [Array.getElem?_eq_none h'] at h; cases h
theorem BlockIs.cell (h : BlockIs w g t cs) (o : Nat) : w.cell? ⟨g, o, none⟩ = cs[o]? := by
  unfold BlockIs at h; simp [World.cell?, h]
theorem BlockIs.frozen (h : BlockIs w g t cs) (o : Nat) : w.frozen? ⟨g, o, none⟩ = false := by
  unfold BlockIs at h; simp [World.frozen?, h]
theorem BlockIs.new (w : World) (t : TypeId) (cs : Array Value) : BlockIs (w.alloc (.cells cs t)) w.heap.size t cs := by
  show (w.heap.push _)[w.heap.size]? = _
  simp
theorem BlockIs.new' {w : World} {g : Nat} {t : TypeId} {cs : Array Value} (h : g = w.heap.size) : BlockIs (w.alloc (.cells cs t)) g t cs := h ▸ BlockIs.new w t cs
theorem BlockIs.below {B : Nat} (h : BlockIs w g t cs) (hb : Below B w w') (hg : g < B) : BlockIs w' g t cs := (hb.block g hg).trans h
theorem BlockIs.alloc (h : BlockIs w g t cs) (o : Obj) : BlockIs (w.alloc o) g t cs := h.below ((Below.refl _ _).alloc (Nat.le_refl _) o) h.lt
theorem BlockIs.put (h : BlockIs w g t cs) (o : Nat) (u : Value) : BlockIs (w.setCell ⟨g, o, none⟩ u) g t (cs.setIfInBounds o u) := by
  unfold BlockIs at h ⊢
  simp [World.setCell, Array.getElem?_modify, h]
theorem BlockIs.far (h : BlockIs w g t cs) {p : Addr} (hp : g ≠ p.block) (u : Value) : BlockIs (w.setCell p u) g t cs := (Below.heap_setCell w p u g hp).trans h
theorem BlockIs.drew (h : BlockIs w g t cs) : BlockIs w.drew g t cs := h
theorem BlockIs.drewN (h : BlockIs w g t cs) (k : Nat) : BlockIs (w.drewN k) g t cs := h
end
end Go.Proofs.YtmkpajjnjgnmkabGreatDoor

namespace Go.Proofs.YtmkpajjnjgnmkabGreatDoor
open Go.RowKit Go.Extern.Stop Go.Stop Go.Extern

theorem Tryz.isTypeOf (v : Value) (w : World) : (Extern.ReflectliteType.typeOf #[.iface 207 v]).run Tryz.prog w = .ok (.iface 198 (.agg #[.pointer (some ⟨1, 207, none⟩)])) w := by kernel_rfl
theorem Tryz.callComparable (w : World) : (callFunc 200 #[.agg #[.pointer (some ⟨1, 207, none⟩)]]).run Tryz.prog w = .ok (.value (.bool true)) w := by kernel_rfl
theorem Tryz.isMethodComparable (v : Value) (w : World) : (Go.method 346 198 v "Comparable").run Tryz.prog w = .ok (200, v) w := by kernel_rfl
theorem Tryz.methodUnwrap (v : Value) (w : World) : (Go.method 346 188 v "Unwrap").run Tryz.prog w = .ok (196, v) w := by kernel_rfl
theorem Tryz.isComp : (Tryz.prog.info? 207).map (·.comparable) = some true := by kernel_rfl
theorem Tryz.isSize : (Tryz.prog.info? 234).map (·.size) = some 1 := by kernel_rfl
theorem Tryz.noIsF (v : Value) (xT : TypeId) (w : World) : (Instr.typeAssert (.iface 188 v) xT 200 true).run Tryz.prog w = .ok (.tuple #[.nilIface, .bool false]) w := run_typeAssert_lacksB Tryz.underlying200 (by kernel_rfl) (by kernel_rfl) v xT w
theorem Tryz.hasUnwrapF (v : Value) (xT : TypeId) (w : World) : (Instr.typeAssert (.iface 188 v) xT 202 true).run Tryz.prog w = .ok (.tuple #[.iface 188 v, .bool true]) w := run_typeAssert_hasB Tryz.underlying202 (by kernel_rfl) v xT w

theorem is_nil (b : Addr) (w : World) :
    Calls Tryz.prog 169 #[.nilIface, .iface 207 (.pointer (some b))] w fun e w' => e = .returned (.bool false) ∧ w = w' := by
  have hn := run_eql_iface_nil_left (P := Tryz.prog) w 207 (.pointer (some b)) Tryz.underlying168
  go_enter Tryz.func169, Tryz.ntmps169
  go_wp2
  go_ret
  exact ⟨rfl, rfl⟩

set_option maxRecDepth 1000000 in
theorem is_field (s : ByteArray) (b : Addr) (w : World) :
    Calls Tryz.prog 169 #[.iface 188 (.agg #[.string s, .iface 207 (.pointer (some b))]), .iface 207 (.pointer (some b))] w fun e w' => e = .returned (.bool true) ∧ Below w.heap.size w w' := by
  obtain ⟨i, hi, hcmp⟩ := Option.map_eq_some_iff.1 Tryz.isComp
  obtain ⟨j, hj, hjs⟩ := Option.map_eq_some_iff.1 Tryz.isSize
  have h8 := @run_callFunc_extern Tryz.prog 176 _ Extern.ReflectliteType.typeOf Tryz.func176 (by kernel_rfl) (by kernel_rfl) (by kernel_rfl) (by kernel_rfl)
  have tT := Tryz.isTypeOf
  have cT := Tryz.callComparable
  have mR := Tryz.isMethodComparable
  have mU := Tryz.methodUnwrap
  have nE := Tryz.noIsF
  have uE := Tryz.hasUnwrapF
  have heq := fun w => run_eql_iface_ptr_same (P := Tryz.prog) w b Tryz.underlying168 Tryz.underlying207 hi hcmp hj
  have hty := fun w => run_eql_iface_types (P := Tryz.prog) 188 207 (.agg #[.string s, .iface 207 (.pointer (some b))]) (.pointer (some b)) Tryz.underlying168 (by decide) w
  go_enter Tryz.func169, Tryz.ntmps169
  go_wp2
  refine wp_loop_rounds 2 ?_
  rw [rounds_succ]
  go_wp2
  rw [rounds_succ]
  go_wp2
  go_ret
  exact ⟨rfl, (Below.refl _ _).alloc (Nat.le_refl _) _⟩
end Go.Proofs.YtmkpajjnjgnmkabGreatDoor

namespace Go.Proofs.YtmkpajjnjgnmkabGreatDoor

structure RV where
  c : Int
  m : Int
  p : Int

def RV.ok (r : RV) : Bool := decide (0 ≤ r.c ∧ r.c ≤ 1000000 ∧ 0 ≤ r.m ∧ r.m ≤ 1000000 ∧ 0 ≤ r.p ∧ r.p ≤ 1000000)
theorem RV.ok_iff {r : RV} : r.ok = true ↔ (0 ≤ r.c ∧ r.c ≤ 1000000 ∧ 0 ≤ r.m ∧ r.m ≤ 1000000 ∧ 0 ≤ r.p ∧ r.p ≤ 1000000) := by
  unfold RV.ok; exact decide_eq_true_iff
theorem RV.bad_iff {r : RV} : r.ok = false ↔ ¬ (0 ≤ r.c ∧ r.c ≤ 1000000 ∧ 0 ≤ r.m ∧ r.m ≤ 1000000 ∧ 0 ≤ r.p ∧ r.p ≤ 1000000) := by
  unfold RV.ok; exact decide_eq_false_iff_not
def RV.zero : RV := ⟨0, 0, 0⟩
def RV.add (a b : RV) : RV := ⟨a.c + b.c, a.m + b.m, a.p + b.p⟩
def RV.sub (a b : RV) : RV := ⟨a.c - b.c, a.m - b.m, a.p - b.p⟩

def RV.kept (r : RV) : RV := if r.ok then r else RV.zero
theorem RV.kept_yes {r : RV} (h : r.ok = true) : r.kept = r := by unfold RV.kept; rw [if_pos h]
theorem RV.kept_no {r : RV} (h : r.ok = false) : r.kept = RV.zero := by unfold RV.kept; rw [if_neg (by rw [h]; decide)]
def resAddOk (a b : RV) : Bool := a.ok && b.ok && (a.add b).ok
def resAdd (a b : RV) : RV := if resAddOk a b then a.add b else RV.zero
def resSubOk (a b : RV) : Bool := a.ok && b.ok && (a.sub b).ok
def resSub (a b : RV) : RV := if resSubOk a b then a.sub b else RV.zero
theorem resAdd_in {a b : RV} (ha : a.ok = true) (hb : b.ok = true) : resAdd a b = (a.add b).kept ∧ resAddOk a b = (a.add b).ok := by
  unfold resAdd resAddOk RV.kept; simp [ha, hb]
theorem resAdd_out {a b : RV} (h : a.ok = false ∨ b.ok = false) : resAdd a b = RV.zero ∧ resAddOk a b = false := by
  unfold resAdd resAddOk; rcases h with h | h <;> simp [h]
theorem resSub_in {a b : RV} (ha : a.ok = true) (hb : b.ok = true) : resSub a b = (a.sub b).kept ∧ resSubOk a b = (a.sub b).ok := by
  unfold resSub resSubOk RV.kept; simp [ha, hb]
theorem resSub_out {a b : RV} (h : a.ok = false ∨ b.ok = false) : resSub a b = RV.zero ∧ resSubOk a b = false := by
  unfold resSub resSubOk; rcases h with h | h <;> simp [h]
theorem resSubOk_in {a b : RV} (ha : a.ok = true) (hb : b.ok = true) : resSubOk b a = true ↔ (a.c ≤ b.c ∧ a.m ≤ b.m ∧ a.p ≤ b.p) := by
  have hA := RV.ok_iff.1 ha
  have hB := RV.ok_iff.1 hb
  rw [(resSub_in hb ha).2, RV.ok_iff]
  unfold RV.sub
  dsimp only
  omega
def RetR (r : RV) (b : Bool) (w : World) (e : Ending) (w' : World) : Prop := e = .returned (.tuple #[.agg #[.int .i64 r.c, .int .i64 r.m, .int .i64 r.p], .bool b]) ∧ Go.RowKit.Below w.heap.size w w'
theorem RetR.of {r r' : RV} {b b' : Bool} {w : World} (hr : r' = r) (hb : b' = b) : RetR r b w = RetR r' b' w := by rw [hr, hb]
end Go.Proofs.YtmkpajjnjgnmkabGreatDoor

namespace Go.Proofs.YtmkpajjnjgnmkabGreatDoor
open Go.RowKit

def ErrAt (a : Addr) (w : World) : Prop := w.cell? ⟨0, 0, none⟩ = some (.iface 207 (.pointer (some a)))
theorem ErrAt.lt {a : Addr} {w : World} (h : ErrAt a w) : 0 < w.heap.size := by
  rcases Nat.lt_or_ge 0 w.heap.size with h' | h'
  · exact h'
  · simp [ErrAt, World.cell?, Array.getElem?_eq_none h'] at h
theorem ErrAt.below {a : Addr} {w w' : World} {B : Nat} (h : ErrAt a w) (hb : Below B w w') (hB : w.heap.size ≤ B) : ErrAt a w' := by
  have hl := h.lt
  unfold ErrAt at *
  rw [hb.cell (p := ⟨0, 0, none⟩) (Nat.lt_of_lt_of_le hl hB)]; exact h
theorem ErrAt.alloc {a : Addr} {w : World} (h : ErrAt a w) (o : Obj) : ErrAt a (w.alloc o) := h.below ((Below.refl _ _).alloc (Nat.le_refl _) o) (Nat.le_refl _)

def BadAt (a : Addr) (w : World) (e : Ending) (w' : World) : Prop := ∃ s : ByteArray, e = .returned (.iface 188 (.agg #[.string s, .iface 207 (.pointer (some a))])) ∧ Below w.heap.size w w'

theorem Tryz.ix0 (x0 x1 x2 x3 x4 x5 : Value) (w : World) : (Instr.index 185 (.agg #[x0, x1, x2, x3, x4, x5]) (.int .i64 0)).run Tryz.prog w = .ok (.agg #[x0, x1]) w := by kernel_rfl
theorem Tryz.ix1 (x0 x1 x2 x3 x4 x5 : Value) (w : World) : (Instr.index 185 (.agg #[x0, x1, x2, x3, x4, x5]) (.int .i64 1)).run Tryz.prog w = .ok (.agg #[x2, x3]) w := by kernel_rfl
theorem Tryz.ix2 (x0 x1 x2 x3 x4 x5 : Value) (w : World) : (Instr.index 185 (.agg #[x0, x1, x2, x3, x4, x5]) (.int .i64 2)).run Tryz.prog w = .ok (.agg #[x4, x5]) w := by kernel_rfl

theorem fieldsOf_any (r : RV) (w : World) :
    Calls Tryz.prog 170 #[.agg #[.int .i64 r.c, .int .i64 r.m, .int .i64 r.p]] w fun e w' => e = .returned (.agg #[.string ⟨#[67, 112, 117]⟩, .int .i64 r.c, .string ⟨#[77, 101, 109]⟩, .int .i64 r.m, .string ⟨#[80, 111, 100, 115]⟩, .int .i64 r.p]) ∧ Below w.heap.size w w' := by
  go_enter Tryz.func170, Tryz.ntmps170
  go_wp2
  exact bodyPost_ret (v := .agg #[.string ⟨#[67, 112, 117]⟩, .int .i64 r.c, .string ⟨#[77, 101, 109]⟩, .int .i64 r.m, .string ⟨#[80, 111, 100, 115]⟩, .int .i64 r.p]) (by simp [results, Tryz.results170, go_sem]) rfl ⟨rfl, (by repeat' (first | exact Below.refl _ _ | refine Below.alloc ?_ ?_ _ | refine Below.setCell ?_ ?_ _ | refine Below.drew ?_ | (apply below_step; assumption) | (simp; done) | (simp; omega) | omega))⟩

theorem checkRes_ok (r : RV) (w : World) (h1 : 0 ≤ r.c) (h2 : r.c ≤ 1000000) (h3 : 0 ≤ r.m) (h4 : r.m ≤ 1000000) (h5 : 0 ≤ r.p) (h6 : r.p ≤ 1000000) :
    Calls Tryz.prog 158 #[.agg #[.int .i64 r.c, .int .i64 r.m, .int .i64 r.p]] w fun e w' => e = .returned .nilIface ∧ Below w.heap.size w w' := by
  have i0 := Tryz.ix0
  have i1 := Tryz.ix1
  have i2 := Tryz.ix2
  go_enter Tryz.func158, Tryz.ntmps158
  go_wp2_with (go_at_call 170; refine (fieldsOf_any r _).mono ?_; rintro e w1 ⟨rfl, hb⟩)
  have hz := hb.size
  simp at hz
  refine wp_loop_rounds 4 ?_
  rw [rounds_succ]
  go_wp2
  rw [rounds_succ]
  go_wp2
  rw [rounds_succ]
  go_wp2
  rw [rounds_succ]
  go_wp2
  go_ret
  exact ⟨rfl, (by repeat' (first | exact Below.refl _ _ | refine Below.alloc ?_ ?_ _ | refine Below.setCell ?_ ?_ _ | refine Below.drew ?_ | (apply below_step; assumption) | (simp; done) | (simp; omega) | omega))⟩

theorem checkRes_bad1 (r : RV) (w : World) (a : Addr) (hg : ErrAt a w) (h : r.c < 0 ∨ 1000000 < r.c) :
    Calls Tryz.prog 158 #[.agg #[.int .i64 r.c, .int .i64 r.m, .int .i64 r.p]] w (BadAt a w) := by
  have hl := hg.lt
  have i0 := Tryz.ix0
  rcases h with h | h
  all_goals
    go_enter Tryz.func158, Tryz.ntmps158
    go_wp2_with (go_at_call 170; refine (fieldsOf_any r _).mono ?_; rintro e w1 ⟨rfl, hb⟩)
    have hz := hb.size
    simp at hz
    have hg1 := (hg.alloc _).below hb (Nat.le_refl _)
    have hl1 := hg1.lt
    have hl0 : 0 < w1.heap.size := by omega
    unfold ErrAt at hg1
    refine wp_loop_rounds 1 ?_
    rw [rounds_succ]
    go_wp2
    go_ret
    exact ⟨_, rfl, (by repeat' (first | exact Below.refl _ _ | refine Below.alloc ?_ ?_ _ | refine Below.setCell ?_ ?_ _ | refine Below.drew ?_ | (apply below_step; assumption) | (simp; done) | (simp; omega) | omega))⟩

theorem checkRes_bad2 (r : RV) (w : World) (a : Addr) (hg : ErrAt a w) (h1 : 0 ≤ r.c) (h2 : r.c ≤ 1000000) (h : r.m < 0 ∨ 1000000 < r.m) :
    Calls Tryz.prog 158 #[.agg #[.int .i64 r.c, .int .i64 r.m, .int .i64 r.p]] w (BadAt a w) := by
  have hl := hg.lt
  have i0 := Tryz.ix0
  have i1 := Tryz.ix1
  rcases h with h | h
  all_goals
    go_enter Tryz.func158, Tryz.ntmps158
    go_wp2_with (go_at_call 170; refine (fieldsOf_any r _).mono ?_; rintro e w1 ⟨rfl, hb⟩)
    have hz := hb.size
    simp at hz
    have hg1 := (hg.alloc _).below hb (Nat.le_refl _)
    have hl1 := hg1.lt
    have hl0 : 0 < w1.heap.size := by omega
    unfold ErrAt at hg1
    refine wp_loop_rounds 2 ?_
    rw [rounds_succ]
    go_wp2
    rw [rounds_succ]
    go_wp2
    go_ret
    exact ⟨_, rfl, (by repeat' (first | exact Below.refl _ _ | refine Below.alloc ?_ ?_ _ | refine Below.setCell ?_ ?_ _ | refine Below.drew ?_ | (apply below_step; assumption) | (simp; done) | (simp; omega) | omega))⟩

theorem checkRes_bad3 (r : RV) (w : World) (a : Addr) (hg : ErrAt a w) (h1 : 0 ≤ r.c) (h2 : r.c ≤ 1000000) (h3 : 0 ≤ r.m) (h4 : r.m ≤ 1000000) (h : r.p < 0 ∨ 1000000 < r.p) :
    Calls Tryz.prog 158 #[.agg #[.int .i64 r.c, .int .i64 r.m, .int .i64 r.p]] w (BadAt a w) := by
  have hl := hg.lt
  have i0 := Tryz.ix0
  have i1 := Tryz.ix1
  have i2 := Tryz.ix2
  rcases h with h | h
  all_goals
    go_enter Tryz.func158, Tryz.ntmps158
    go_wp2_with (go_at_call 170; refine (fieldsOf_any r _).mono ?_; rintro e w1 ⟨rfl, hb⟩)
    have hz := hb.size
    simp at hz
    have hg1 := (hg.alloc _).below hb (Nat.le_refl _)
    have hl1 := hg1.lt
    have hl0 : 0 < w1.heap.size := by omega
    unfold ErrAt at hg1
    refine wp_loop_rounds 3 ?_
    rw [rounds_succ]
    go_wp2
    rw [rounds_succ]
    go_wp2
    rw [rounds_succ]
    go_wp2
    go_ret
    exact ⟨_, rfl, (by repeat' (first | exact Below.refl _ _ | refine Below.alloc ?_ ?_ _ | refine Below.setCell ?_ ?_ _ | refine Below.drew ?_ | (apply below_step; assumption) | (simp; done) | (simp; omega) | omega))⟩

theorem checkRes_yes (r : RV) (w : World) (h : r.ok = true) :
    Calls Tryz.prog 158 #[.agg #[.int .i64 r.c, .int .i64 r.m, .int .i64 r.p]] w fun e w' => e = .returned .nilIface ∧ Below w.heap.size w w' := by
  obtain ⟨h1, h2, h3, h4, h5, h6⟩ := RV.ok_iff.1 h
  exact checkRes_ok r w h1 h2 h3 h4 h5 h6
theorem checkRes_no (r : RV) (w : World) (a : Addr) (hg : ErrAt a w) (h : r.ok = false) : Calls Tryz.prog 158 #[.agg #[.int .i64 r.c, .int .i64 r.m, .int .i64 r.p]] w (BadAt a w) := by
  have h' := RV.bad_iff.1 h
  by_cases hc : 0 ≤ r.c ∧ r.c ≤ 1000000
  · by_cases hm : 0 ≤ r.m ∧ r.m ≤ 1000000
    · exact checkRes_bad3 r w a hg hc.1 hc.2 hm.1 hm.2 (by omega)
    · exact checkRes_bad2 r w a hg hc.1 hc.2 (by omega)
  · exact checkRes_bad1 r w a hg (by omega)
end Go.Proofs.YtmkpajjnjgnmkabGreatDoor

namespace Go.Proofs.YtmkpajjnjgnmkabGreatDoor
open Go.ChangeShapes Go.WideShapes Go.ChangeAt Go.RowKit Go.Joins

theorem Tryz.errG : Tryz.prog.globalNamed "loop.example/g00718/impl.errRange" = some 0 := by kernel_rfl
theorem Tryz.errT : (Tryz.prog.globals[0]?).map (·.type) = some 168 := by kernel_rfl
theorem Tryz.cellsEs : Tryz.prog.cellsOf 234 = 1 := by kernel_rfl
theorem Tryz.cellsStr : Tryz.prog.cellsOf 9 = 1 := by kernel_rfl
theorem Tryz.star : "*" ++ "errors.errorString" = "*errors.errorString" := by decide
theorem Tryz.rowPtr : ∀ u, Tryz.prog.typeName? 3 u = some "*errors.errorString" → u = 207 := fun u h =>
  typeName_ptr_named (nm := "errors.errorString") (by rw [Tryz.star]; kernel_rfl) (by kernel_rfl) (by decide) u (by rw [Tryz.star]; exact h)
theorem errAt_of_laid {r : List (String × DataW Unit)} {W : World} (h : laidMet Tryz.prog (("loop.example/g00718/impl.errRange", Rows.laid_loop_example_g00718_impl_errRange) :: r) W) : ∃ a, ErrAt a W := by
  obtain ⟨a, s, hv, _⟩ := laid_sentinel h Tryz.errG Tryz.errT Tryz.underlying168 Tryz.rowPtr Tryz.underlying207 Tryz.underlying234 rfl rfl Tryz.underlying9 Tryz.cellsEs Tryz.cellsStr
  exact ⟨a, by simpa [ErrAt] using World.var?_cell Tryz.errG hv 0⟩

theorem errVars : ∀ n ∈ ["loop.example/g00718/impl.errRange"], ∃ g t ms, Tryz.prog.globalNamed n = some g ∧ (Tryz.prog.globals[g]?).map (·.type) = some t ∧ Tryz.prog.underlying t = some (.interface ms) := fun n hn => by
  obtain rfl := List.mem_singleton.1 hn
  exact ⟨_, _, _, Tryz.errG, Tryz.errT, Tryz.underlying168⟩
end Go.Proofs.YtmkpajjnjgnmkabGreatDoor

namespace Go.Proofs.YtmkpajjnjgnmkabGreatDoor
theorem drop_at {α : Type} {l : List α} {k : Nat} {r : α} (h : l[k]? = some r) : l.drop k = r :: l.drop (k + 1) := by
  obtain ⟨hk, rfl⟩ := List.getElem?_eq_some_iff.1 h
  exact List.drop_eq_getElem_cons hk
theorem take_at {α : Type} {l : List α} {k : Nat} {r : α} (h : l[k]? = some r) : l.take (k + 1) = l.take k ++ [r] := by
  obtain ⟨hk, rfl⟩ := List.getElem?_eq_some_iff.1 h
  exact List.take_succ_eq_append_getElem hk
end Go.Proofs.YtmkpajjnjgnmkabGreatDoor

namespace Go.Proofs.YtmkpajjnjgnmkabGreatDoor

structure LV where
  k : Int
  v : Int
def LV.ok (l : LV) : Bool := decide (0 ≤ l.k ∧ l.k ≤ 9 ∧ 0 ≤ l.v ∧ l.v ≤ 9)
theorem LV.ok_iff {l : LV} : l.ok = true ↔ (0 ≤ l.k ∧ l.k ≤ 9 ∧ 0 ≤ l.v ∧ l.v ≤ 9) := by
  unfold LV.ok; exact decide_eq_true_iff
theorem LV.bad_iff {l : LV} : l.ok = false ↔ ¬ (0 ≤ l.k ∧ l.k ≤ 9 ∧ 0 ≤ l.v ∧ l.v ≤ 9) := by
  unfold LV.ok; exact decide_eq_false_iff_not

def labsFrom : Int → List LV → Bool
  | _, [] => true
  | p, l :: r => (l.ok && decide (p < l.k)) && labsFrom l.k r
theorem labsFrom_yes {p : Int} {l : LV} {r : List LV} (h : l.ok = true) (hp : p < l.k) : labsFrom p (l :: r) = labsFrom l.k r := by
  simp [labsFrom, h, hp]
theorem labsFrom_bad {p : Int} {l : LV} {r : List LV} (h : l.ok = false) : labsFrom p (l :: r) = false := by
  simp [labsFrom, h]
theorem labsFrom_low {p : Int} {l : LV} {r : List LV} (h : l.k ≤ p) : labsFrom p (l :: r) = false := by
  have : ¬ p < l.k := by omega
  simp [labsFrom, this]
def labsOk (l : List LV) : Bool := decide (l.length ≤ 6) && labsFrom (-1) l
theorem labsOk_short {l : List LV} (h : l.length ≤ 6) : labsOk l = labsFrom (-1) l := by simp [labsOk, h]
theorem labsOk_long {l : List LV} (h : 6 < l.length) : labsOk l = false := by
  have : ¬ l.length ≤ 6 := by omega
  simp [labsOk, this]

def mzero : Nat → Int := fun _ => 0
def mwith (m : Nat → Int) (l : LV) : Nat → Int := fun i => if (i : Int) = l.k then l.v + 1 else m i
def marksOf : (Nat → Int) → List LV → (Nat → Int)
  | m, [] => m
  | m, l :: r => marksOf (mwith m l) r
def readOf (l : List LV) : Nat → Int := if labsOk l then marksOf mzero l else mzero

def findK : List LV → Int → Int × Bool
  | [], _ => (0, false)
  | l :: r, k => if l.k = k then (l.v, true) else findK r k
def getOf (l : List LV) (k : Int) : Int × Bool := if labsOk l then findK l k else (0, false)
def hasAllOf (a : List LV) : List LV → Bool
  | [] => true
  | x :: r => (findK a x.k).2 && decide ((findK a x.k).1 = x.v) && hasAllOf a r
def matchOf (a b : List LV) : Bool := labsOk a && labsOk b && hasAllOf a b
def ins (x : LV) : List LV → List LV
  | [] => [x]
  | l :: r => if l.k < x.k then l :: ins x r else if l.k = x.k then x :: r else x :: l :: r
theorem findK_hit {x : LV} {r : List LV} {k : Int} (h : x.k = k) : findK (x :: r) k = (x.v, true) := by simp [findK, h]
theorem findK_miss {x : LV} {r : List LV} {k : Int} (h : x.k ≠ k) : findK (x :: r) k = findK r k := by simp [findK, h]
theorem findK_above {p : Int} {l : List LV} (h : labsFrom p l = true) {k : Int} (hk : k ≤ p) : findK l k = (0, false) := by
  induction l generalizing p with
  | nil => rfl
  | cons x r ih =>
    simp only [labsFrom, Bool.and_eq_true, decide_eq_true_eq] at h
    have hne : ¬ x.k = k := by omega
    simp only [findK, if_neg hne]
    exact ih h.2 (by omega)
theorem findK_val {p : Int} {l : List LV} (h : labsFrom p l = true) {k : Int} : 0 ≤ (findK l k).1 ∧ (findK l k).1 ≤ 9 := by
  induction l generalizing p with
  | nil => simp [findK]
  | cons x r ih =>
    simp only [labsFrom, Bool.and_eq_true, decide_eq_true_eq] at h
    have := LV.ok_iff.1 h.1.1
    unfold findK
    split
    · exact ⟨this.2.2.1, this.2.2.2⟩
    · exact ih h.2
theorem marksOf_at {p : Int} {l : List LV} (h : labsFrom p l = true) (m : Nat → Int) (i : Nat) :
    marksOf m l i = if (findK l i).2 then (findK l i).1 + 1 else m i := by
  induction l generalizing p m with
  | nil => simp [marksOf, findK]
  | cons x r ih =>
    simp only [labsFrom, Bool.and_eq_true, decide_eq_true_eq] at h
    rw [marksOf, ih h.2]
    by_cases e : x.k = (i : Int)
    · rw [findK_above h.2 (k := (i : Int)) (by omega)]
      simp [mwith, findK, e]
    · have e' : ¬ (i : Int) = x.k := fun h => e h.symm
      simp [mwith, findK, e, e']
theorem mark_at {l : List LV} (h : labsFrom (-1) l = true) (i : Nat) : marksOf mzero l i = if (findK l i).2 then (findK l i).1 + 1 else 0 := marksOf_at h _ _
def tl (t : List Int) : List LV := t.map fun z => ⟨z, 0⟩
theorem tl_len (t : List Int) : (tl t).length = t.length := by simp [tl]
theorem tl_take {t : List Int} {k : Nat} {z : Int} (h : t[k]? = some z) : tl (t.take (k + 1)) = tl (t.take k) ++ [⟨z, 0⟩] := by
  obtain ⟨hk, rfl⟩ := List.getElem?_eq_some_iff.1 h
  unfold tl
  rw [List.take_succ_eq_append_getElem hk, List.map_append]; rfl
def tolOf (a b : List Int) : Bool := matchOf (tl b) (tl a)
end Go.Proofs.YtmkpajjnjgnmkabGreatDoor

namespace Go.Proofs.YtmkpajjnjgnmkabGreatDoor
open Go.RowKit

theorem markInRange_yes (n : Int) (w : World) (h1 : 0 ≤ n) (h2 : n ≤ 9) :
    Calls Tryz.prog 178 #[.int .i64 n] w fun e w' => e = .returned (.bool true) ∧ w = w' := by
  have h3 : n < 10 := by omega
  go_enter Tryz.func178, Tryz.ntmps178
  go_wp2
  go_ret
  exact ⟨by simp, rfl⟩
theorem markInRange_no (n : Int) (w : World) (h : ¬ (0 ≤ n ∧ n ≤ 9)) :
    Calls Tryz.prog 178 #[.int .i64 n] w fun e w' => e = .returned (.bool false) ∧ w = w' := by
  by_cases h1 : 0 ≤ n
  · have h2 : 10 ≤ n := by omega
    clear h
    go_enter Tryz.func178, Tryz.ntmps178
    go_wp2
    go_ret
    exact ⟨by simp; omega, rfl⟩
  · have h2 : n < 0 := by omega
    clear h h1
    go_enter Tryz.func178, Tryz.ntmps178
    go_wp2
    go_ret
    exact ⟨by simp, rfl⟩

theorem labInRange_yes (l : LV) (w : World) (h : l.ok = true) :
    Calls Tryz.prog 171 #[.agg #[.int .i64 l.k, .int .i64 l.v]] w fun e w' => e = .returned (.bool true) ∧ Below w.heap.size w w' := by
  have H := Lib.hid (LV.ok_iff.1 h)
  clear h
  go_enter Tryz.func171, Tryz.ntmps171
  go_wp2_with fail
  refine (markInRange_yes l.k _ H.out.1 H.out.2.1).mono ?_
  rintro e w1 ⟨rfl, rfl⟩
  go_wp2_with fail
  refine (markInRange_yes l.v _ H.out.2.2.1 H.out.2.2.2).mono ?_
  rintro e w1 ⟨rfl, rfl⟩
  go_wp2_with fail
  go_ret
  exact ⟨rfl, (by repeat' (first | exact Below.refl _ _ | refine Below.alloc ?_ ?_ _ | refine Below.setCell ?_ ?_ _ | refine Below.drew ?_ | (apply below_step; assumption) | (simp; done) | (simp; omega) | omega))⟩
theorem labInRange_no (l : LV) (w : World) (h : l.ok = false) :
    Calls Tryz.prog 171 #[.agg #[.int .i64 l.k, .int .i64 l.v]] w fun e w' => e = .returned (.bool false) ∧ Below w.heap.size w w' := by
  have h0 := LV.bad_iff.1 h
  clear h
  by_cases hk : 0 ≤ l.k ∧ l.k ≤ 9
  · have H := Lib.hid (show ¬ (0 ≤ l.v ∧ l.v ≤ 9) by omega)
    have HK := Lib.hid hk
    clear h0 hk
    go_enter Tryz.func171, Tryz.ntmps171
    go_wp2_with fail
    refine (markInRange_yes l.k _ HK.out.1 HK.out.2).mono ?_
    rintro e w1 ⟨rfl, rfl⟩
    go_wp2_with fail
    refine (markInRange_no l.v _ H.out).mono ?_
    rintro e w1 ⟨rfl, rfl⟩
    go_wp2_with fail
    go_ret
    exact ⟨rfl, (by repeat' (first | exact Below.refl _ _ | refine Below.alloc ?_ ?_ _ | refine Below.setCell ?_ ?_ _ | refine Below.drew ?_ | (apply below_step; assumption) | (simp; done) | (simp; omega) | omega))⟩
  · have HK := Lib.hid hk
    clear h0 hk
    go_enter Tryz.func171, Tryz.ntmps171
    go_wp2_with fail
    refine (markInRange_no l.k _ HK.out).mono ?_
    rintro e w1 ⟨rfl, rfl⟩
    go_wp2_with fail
    go_ret
    exact ⟨rfl, (by repeat' (first | exact Below.refl _ _ | refine Below.alloc ?_ ?_ _ | refine Below.setCell ?_ ?_ _ | refine Below.drew ?_ | (apply below_step; assumption) | (simp; done) | (simp; omega) | omega))⟩

theorem Tryz.mix0 (p : Nat → Int) (w : World) : (Instr.index 171 (.agg #[.int .i64 (p 0), .int .i64 (p 1), .int .i64 (p 2), .int .i64 (p 3), .int .i64 (p 4), .int .i64 (p 5), .int .i64 (p 6), .int .i64 (p 7), .int .i64 (p 8), .int .i64 (p 9)]) (.int .i64 0)).run Tryz.prog w = .ok (.int .i64 (p 0)) w := by kernel_rfl
theorem Tryz.mix1 (p : Nat → Int) (w : World) : (Instr.index 171 (.agg #[.int .i64 (p 0), .int .i64 (p 1), .int .i64 (p 2), .int .i64 (p 3), .int .i64 (p 4), .int .i64 (p 5), .int .i64 (p 6), .int .i64 (p 7), .int .i64 (p 8), .int .i64 (p 9)]) (.int .i64 1)).run Tryz.prog w = .ok (.int .i64 (p 1)) w := by kernel_rfl
theorem Tryz.mix2 (p : Nat → Int) (w : World) : (Instr.index 171 (.agg #[.int .i64 (p 0), .int .i64 (p 1), .int .i64 (p 2), .int .i64 (p 3), .int .i64 (p 4), .int .i64 (p 5), .int .i64 (p 6), .int .i64 (p 7), .int .i64 (p 8), .int .i64 (p 9)]) (.int .i64 2)).run Tryz.prog w = .ok (.int .i64 (p 2)) w := by kernel_rfl
theorem Tryz.mix3 (p : Nat → Int) (w : World) : (Instr.index 171 (.agg #[.int .i64 (p 0), .int .i64 (p 1), .int .i64 (p 2), .int .i64 (p 3), .int .i64 (p 4), .int .i64 (p 5), .int .i64 (p 6), .int .i64 (p 7), .int .i64 (p 8), .int .i64 (p 9)]) (.int .i64 3)).run Tryz.prog w = .ok (.int .i64 (p 3)) w := by kernel_rfl
theorem Tryz.mix4 (p : Nat → Int) (w : World) : (Instr.index 171 (.agg #[.int .i64 (p 0), .int .i64 (p 1), .int .i64 (p 2), .int .i64 (p 3), .int .i64 (p 4), .int .i64 (p 5), .int .i64 (p 6), .int .i64 (p 7), .int .i64 (p 8), .int .i64 (p 9)]) (.int .i64 4)).run Tryz.prog w = .ok (.int .i64 (p 4)) w := by kernel_rfl
theorem Tryz.mix5 (p : Nat → Int) (w : World) : (Instr.index 171 (.agg #[.int .i64 (p 0), .int .i64 (p 1), .int .i64 (p 2), .int .i64 (p 3), .int .i64 (p 4), .int .i64 (p 5), .int .i64 (p 6), .int .i64 (p 7), .int .i64 (p 8), .int .i64 (p 9)]) (.int .i64 5)).run Tryz.prog w = .ok (.int .i64 (p 5)) w := by kernel_rfl
theorem Tryz.mix6 (p : Nat → Int) (w : World) : (Instr.index 171 (.agg #[.int .i64 (p 0), .int .i64 (p 1), .int .i64 (p 2), .int .i64 (p 3), .int .i64 (p 4), .int .i64 (p 5), .int .i64 (p 6), .int .i64 (p 7), .int .i64 (p 8), .int .i64 (p 9)]) (.int .i64 6)).run Tryz.prog w = .ok (.int .i64 (p 6)) w := by kernel_rfl
theorem Tryz.mix7 (p : Nat → Int) (w : World) : (Instr.index 171 (.agg #[.int .i64 (p 0), .int .i64 (p 1), .int .i64 (p 2), .int .i64 (p 3), .int .i64 (p 4), .int .i64 (p 5), .int .i64 (p 6), .int .i64 (p 7), .int .i64 (p 8), .int .i64 (p 9)]) (.int .i64 7)).run Tryz.prog w = .ok (.int .i64 (p 7)) w := by kernel_rfl
theorem Tryz.mix8 (p : Nat → Int) (w : World) : (Instr.index 171 (.agg #[.int .i64 (p 0), .int .i64 (p 1), .int .i64 (p 2), .int .i64 (p 3), .int .i64 (p 4), .int .i64 (p 5), .int .i64 (p 6), .int .i64 (p 7), .int .i64 (p 8), .int .i64 (p 9)]) (.int .i64 8)).run Tryz.prog w = .ok (.int .i64 (p 8)) w := by kernel_rfl
theorem Tryz.mix9 (p : Nat → Int) (w : World) : (Instr.index 171 (.agg #[.int .i64 (p 0), .int .i64 (p 1), .int .i64 (p 2), .int .i64 (p 3), .int .i64 (p 4), .int .i64 (p 5), .int .i64 (p 6), .int .i64 (p 7), .int .i64 (p 8), .int .i64 (p 9)]) (.int .i64 9)).run Tryz.prog w = .ok (.int .i64 (p 9)) w := by kernel_rfl
theorem Tryz.mix (p : Nat → Int) (k : Nat) (hk : k < 10) (w : World) : (Instr.index 171 (.agg #[.int .i64 (p 0), .int .i64 (p 1), .int .i64 (p 2), .int .i64 (p 3), .int .i64 (p 4), .int .i64 (p 5), .int .i64 (p 6), .int .i64 (p 7), .int .i64 (p 8), .int .i64 (p 9)]) (.int .i64 (k : Int))).run Tryz.prog w = .ok (.int .i64 (p k)) w := by
  match k, hk with
  | 0, _ => exact Tryz.mix0 p w
  | 1, _ => exact Tryz.mix1 p w
  | 2, _ => exact Tryz.mix2 p w
  | 3, _ => exact Tryz.mix3 p w
  | 4, _ => exact Tryz.mix4 p w
  | 5, _ => exact Tryz.mix5 p w
  | 6, _ => exact Tryz.mix6 p w
  | 7, _ => exact Tryz.mix7 p w
  | 8, _ => exact Tryz.mix8 p w
  | 9, _ => exact Tryz.mix9 p w
theorem mcell (m : Nat → Int) (k : Nat) (hk : k < 10) : (#[.int .i64 (m 0), .int .i64 (m 1), .int .i64 (m 2), .int .i64 (m 3), .int .i64 (m 4), .int .i64 (m 5), .int .i64 (m 6), .int .i64 (m 7), .int .i64 (m 8), .int .i64 (m 9)] : Array Value)[k]? = some (.int .i64 (m k)) := by
  match k, hk with
  | 0, _ => rfl
  | 1, _ => rfl
  | 2, _ => rfl
  | 3, _ => rfl
  | 4, _ => rfl
  | 5, _ => rfl
  | 6, _ => rfl
  | 7, _ => rfl
  | 8, _ => rfl
  | 9, _ => rfl
end Go.Proofs.YtmkpajjnjgnmkabGreatDoor

namespace Go.Proofs.YtmkpajjnjgnmkabGreatDoor
open Go.RowKit

set_option maxHeartbeats 1600000 in
theorem with_any (m : Nat → Int) (l : LV) (w : World) (h : l.ok = true) :
    Calls Tryz.prog 172 #[.agg #[.int .i64 (m 0), .int .i64 (m 1), .int .i64 (m 2), .int .i64 (m 3), .int .i64 (m 4), .int .i64 (m 5), .int .i64 (m 6), .int .i64 (m 7), .int .i64 (m 8), .int .i64 (m 9)], .agg #[.int .i64 l.k, .int .i64 l.v]] w fun e w' => e = .returned (.agg #[.int .i64 (mwith m l 0), .int .i64 (mwith m l 1), .int .i64 (mwith m l 2), .int .i64 (mwith m l 3), .int .i64 (mwith m l 4), .int .i64 (mwith m l 5), .int .i64 (mwith m l 6), .int .i64 (mwith m l 7), .int .i64 (mwith m l 8), .int .i64 (mwith m l 9)]) ∧ Below w.heap.size w w' := by
  obtain ⟨k0, k9, v0, v9⟩ := LV.ok_iff.1 h
  clear h
  obtain ⟨kk, vv⟩ := l
  simp only at k0 k9 v0 v9
  rcases (show kk = 0 ∨ kk = 1 ∨ kk = 2 ∨ kk = 3 ∨ kk = 4 ∨ kk = 5 ∨ kk = 6 ∨ kk = 7 ∨ kk = 8 ∨ kk = 9 by omega) with rfl | rfl | rfl | rfl | rfl | rfl | rfl | rfl | rfl | rfl
  all_goals
    clear k0 k9
    go_enter Tryz.func172, Tryz.ntmps172
    go_wp2_with fail
    refine bodyPost_ret (v := .agg #[.int .i64 (mwith m ⟨_, vv⟩ 0), .int .i64 (mwith m ⟨_, vv⟩ 1), .int .i64 (mwith m ⟨_, vv⟩ 2), .int .i64 (mwith m ⟨_, vv⟩ 3), .int .i64 (mwith m ⟨_, vv⟩ 4), .int .i64 (mwith m ⟨_, vv⟩ 5), .int .i64 (mwith m ⟨_, vv⟩ 6), .int .i64 (mwith m ⟨_, vv⟩ 7), .int .i64 (mwith m ⟨_, vv⟩ 8), .int .i64 (mwith m ⟨_, vv⟩ 9)]) (by simp [results, Tryz.results172, go_sem, mwith]) rfl ⟨rfl, ?_⟩
    exact (by repeat' (first | exact Below.refl _ _ | refine Below.alloc ?_ ?_ _ | refine Below.setCell ?_ ?_ _ | refine Below.drew ?_ | (apply below_step; assumption) | (simp; done) | (simp; omega) | omega))

theorem Tryz.infoInt : ∃ i, Tryz.prog.info? 3 = some i := ⟨_, (Option.eq_some_of_isSome (show (Tryz.prog.info? 3).isSome = true by kernel_rfl))⟩
theorem Tryz.cellsInt : Tryz.prog.cellsOf 3 = 1 := by kernel_rfl
theorem part_int (xs : Array Value) (off : Nat) (v : Value) (h : xs[off]? = some v) (w : World) : (part 3 xs off).run Tryz.prog w = .ok v w := by
  have : (isAgg 3).run Tryz.prog w = .ok false w := by kernel_rfl
  simp [part, this, h]
def eqMarks (a b : Nat → Int) : Bool := (List.range 10).all fun i => a i == b i
theorem equal_marks (a b : Nat → Int) (w : World) : (Op.equalIn 10000 171 (.agg #[.int .i64 (a 0), .int .i64 (a 1), .int .i64 (a 2), .int .i64 (a 3), .int .i64 (a 4), .int .i64 (a 5), .int .i64 (a 6), .int .i64 (a 7), .int .i64 (a 8), .int .i64 (a 9)]) (.agg #[.int .i64 (b 0), .int .i64 (b 1), .int .i64 (b 2), .int .i64 (b 3), .int .i64 (b 4), .int .i64 (b 5), .int .i64 (b 6), .int .i64 (b 7), .int .i64 (b 8), .int .i64 (b 9)])).run Tryz.prog w = .ok (eqMarks a b) w := by
  obtain ⟨i, hi⟩ := Tryz.infoInt
  rw [run_equalIn_array w 9999 _ _ Tryz.underlying171 hi, Tryz.cellsInt]
  have : ∀ is : List Nat, (∀ i ∈ is, i < 10) → (Op.eqItems 9999 3 1 #[.int .i64 (a 0), .int .i64 (a 1), .int .i64 (a 2), .int .i64 (a 3), .int .i64 (a 4), .int .i64 (a 5), .int .i64 (a 6), .int .i64 (a 7), .int .i64 (a 8), .int .i64 (a 9)] #[.int .i64 (b 0), .int .i64 (b 1), .int .i64 (b 2), .int .i64 (b 3), .int .i64 (b 4), .int .i64 (b 5), .int .i64 (b 6), .int .i64 (b 7), .int .i64 (b 8), .int .i64 (b 9)] is).run Tryz.prog w = .ok (is.all fun i => a i == b i) w := by
    intro is
    induction is with
    | nil => intro _; simp [Op.eqItems]
    | cons x r ih =>
      intro h
      have hx := h x (by simp)
      have e1 := part_int #[.int .i64 (a 0), .int .i64 (a 1), .int .i64 (a 2), .int .i64 (a 3), .int .i64 (a 4), .int .i64 (a 5), .int .i64 (a 6), .int .i64 (a 7), .int .i64 (a 8), .int .i64 (a 9)] x _ (mcell a x hx) w
      have e2 := part_int #[.int .i64 (b 0), .int .i64 (b 1), .int .i64 (b 2), .int .i64 (b 3), .int .i64 (b 4), .int .i64 (b 5), .int .i64 (b 6), .int .i64 (b 7), .int .i64 (b 8), .int .i64 (b 9)] x _ (mcell b x hx) w
      have e3 := run_equalIn_int (P := Tryz.prog) w 9998 3 .i64 .i64 (a x) (b x) Tryz.underlying3
      simp only [Op.eqItems, Nat.mul_one, Sem.run_bind, e1, e2, e3, Result.andThen_ok, List.all_cons]
      cases a x == b x
      · simp
      · simpa using ih (fun i hi => h i (by simp [hi]))
  exact this (List.range 10) (by simp)
theorem eql_marks (a b : Nat → Int) (w : World) : (binOp .eql 171 (.agg #[.int .i64 (a 0), .int .i64 (a 1), .int .i64 (a 2), .int .i64 (a 3), .int .i64 (a 4), .int .i64 (a 5), .int .i64 (a 6), .int .i64 (a 7), .int .i64 (a 8), .int .i64 (a 9)]) (.agg #[.int .i64 (b 0), .int .i64 (b 1), .int .i64 (b 2), .int .i64 (b 3), .int .i64 (b 4), .int .i64 (b 5), .int .i64 (b 6), .int .i64 (b 7), .int .i64 (b 8), .int .i64 (b 9)])).run Tryz.prog w = .ok (.bool (eqMarks a b)) w := by
  rw [run_eql_struct, equal_marks]; rfl
theorem guard_marks (a b : Array Value) (x y : Operand) (w : World) : (eqGuard .eql 171 x y (.agg a) (.agg b)).run Tryz.prog w = .ok () w := run_eqGuard_agg w .eql _ x y a b (by kernel_rfl)
end Go.Proofs.YtmkpajjnjgnmkabGreatDoor

namespace Go.Proofs.YtmkpajjnjgnmkabGreatDoor
open Go.RowKit

theorem put10 {w : World} {g : Nat} {t : TypeId} {m : Nat → Int} (m' : Nat → Int) (h : BlockIs w g t #[.int .i64 (m 0), .int .i64 (m 1), .int .i64 (m 2), .int .i64 (m 3), .int .i64 (m 4), .int .i64 (m 5), .int .i64 (m 6), .int .i64 (m 7), .int .i64 (m 8), .int .i64 (m 9)]) : BlockIs ((((((((((w.setCell ⟨g, 0, none⟩ (.int .i64 (m' 0))).setCell ⟨g, 1, none⟩ (.int .i64 (m' 1))).setCell ⟨g, 2, none⟩ (.int .i64 (m' 2))).setCell ⟨g, 3, none⟩ (.int .i64 (m' 3))).setCell ⟨g, 4, none⟩ (.int .i64 (m' 4))).setCell ⟨g, 5, none⟩ (.int .i64 (m' 5))).setCell ⟨g, 6, none⟩ (.int .i64 (m' 6))).setCell ⟨g, 7, none⟩ (.int .i64 (m' 7))).setCell ⟨g, 8, none⟩ (.int .i64 (m' 8))).setCell ⟨g, 9, none⟩ (.int .i64 (m' 9))) g t #[.int .i64 (m' 0), .int .i64 (m' 1), .int .i64 (m' 2), .int .i64 (m' 3), .int .i64 (m' 4), .int .i64 (m' 5), .int .i64 (m' 6), .int .i64 (m' 7), .int .i64 (m' 8), .int .i64 (m' 9)] := by
  have := (((((((((h.put 0 (.int .i64 (m' 0))).put 1 (.int .i64 (m' 1))).put 2 (.int .i64 (m' 2))).put 3 (.int .i64 (m' 3))).put 4 (.int .i64 (m' 4))).put 5 (.int .i64 (m' 5))).put 6 (.int .i64 (m' 6))).put 7 (.int .i64 (m' 7))).put 8 (.int .i64 (m' 8))).put 9 (.int .i64 (m' 9))
  simpa using this
theorem below10 {B : Nat} {a w : World} {g : Nat} (m' : Nat → Int) (h : Below B a w) (hg : B ≤ g) : Below B a ((((((((((w.setCell ⟨g, 0, none⟩ (.int .i64 (m' 0))).setCell ⟨g, 1, none⟩ (.int .i64 (m' 1))).setCell ⟨g, 2, none⟩ (.int .i64 (m' 2))).setCell ⟨g, 3, none⟩ (.int .i64 (m' 3))).setCell ⟨g, 4, none⟩ (.int .i64 (m' 4))).setCell ⟨g, 5, none⟩ (.int .i64 (m' 5))).setCell ⟨g, 6, none⟩ (.int .i64 (m' 6))).setCell ⟨g, 7, none⟩ (.int .i64 (m' 7))).setCell ⟨g, 8, none⟩ (.int .i64 (m' 8))).setCell ⟨g, 9, none⟩ (.int .i64 (m' 9))) :=
  (((((((((h.setCell hg _).setCell hg _).setCell hg _).setCell hg _).setCell hg _).setCell hg _).setCell hg _).setCell hg _).setCell hg _).setCell hg _
theorem far10 {w : World} {b g : Nat} {t : TypeId} {cs : Array Value} (m' : Nat → Int) (h : BlockIs w b t cs) (hne : b ≠ g) : BlockIs ((((((((((w.setCell ⟨g, 0, none⟩ (.int .i64 (m' 0))).setCell ⟨g, 1, none⟩ (.int .i64 (m' 1))).setCell ⟨g, 2, none⟩ (.int .i64 (m' 2))).setCell ⟨g, 3, none⟩ (.int .i64 (m' 3))).setCell ⟨g, 4, none⟩ (.int .i64 (m' 4))).setCell ⟨g, 5, none⟩ (.int .i64 (m' 5))).setCell ⟨g, 6, none⟩ (.int .i64 (m' 6))).setCell ⟨g, 7, none⟩ (.int .i64 (m' 7))).setCell ⟨g, 8, none⟩ (.int .i64 (m' 8))).setCell ⟨g, 9, none⟩ (.int .i64 (m' 9))) b t cs :=
  (((((((((h.far hne _).far hne _).far hne _).far hne _).far hne _).far hne _).far hne _).far hne _).far hne _).far hne _
def laidM (m p : Nat → Int) (k : Nat) : Nat → Int := fun i => if i < k ∧ 0 < p i then p i else m i
theorem laid_put (m p : Nat → Int) (k : Nat) (hk : k < 10) (h : 0 < p k) : (#[.int .i64 (laidM m p k 0), .int .i64 (laidM m p k 1), .int .i64 (laidM m p k 2), .int .i64 (laidM m p k 3), .int .i64 (laidM m p k 4), .int .i64 (laidM m p k 5), .int .i64 (laidM m p k 6), .int .i64 (laidM m p k 7), .int .i64 (laidM m p k 8), .int .i64 (laidM m p k 9)] : Array Value).setIfInBounds k (.int .i64 (p k)) = #[.int .i64 (laidM m p (k + 1) 0), .int .i64 (laidM m p (k + 1) 1), .int .i64 (laidM m p (k + 1) 2), .int .i64 (laidM m p (k + 1) 3), .int .i64 (laidM m p (k + 1) 4), .int .i64 (laidM m p (k + 1) 5), .int .i64 (laidM m p (k + 1) 6), .int .i64 (laidM m p (k + 1) 7), .int .i64 (laidM m p (k + 1) 8), .int .i64 (laidM m p (k + 1) 9)] := by
  match k, hk with
  | 0, _ => simp [laidM, h]
  | 1, _ => simp [laidM, h]
  | 2, _ => simp [laidM, h]
  | 3, _ => simp [laidM, h]
  | 4, _ => simp [laidM, h]
  | 5, _ => simp [laidM, h]
  | 6, _ => simp [laidM, h]
  | 7, _ => simp [laidM, h]
  | 8, _ => simp [laidM, h]
  | 9, _ => simp [laidM, h]
theorem laid_skip (m p : Nat → Int) (k : Nat) (h : ¬ 0 < p k) : laidM m p (k + 1) = laidM m p k := by
  funext i
  unfold laidM
  by_cases e : i = k
  · subst e; simp [h]
  · by_cases hi : i < k
    · simp [hi, Nat.lt_succ_of_lt hi]
    · have : ¬ i < k + 1 := by omega
      simp [hi, this]
def hasAllM (m p : Nat → Int) : Bool := eqMarks (laidM m p 10) m

set_option maxHeartbeats 1600000 in
theorem hasAll_any (m p : Nat → Int) (w : World) :
    Calls Tryz.prog 173 #[.agg #[.int .i64 (m 0), .int .i64 (m 1), .int .i64 (m 2), .int .i64 (m 3), .int .i64 (m 4), .int .i64 (m 5), .int .i64 (m 6), .int .i64 (m 7), .int .i64 (m 8), .int .i64 (m 9)], .agg #[.int .i64 (p 0), .int .i64 (p 1), .int .i64 (p 2), .int .i64 (p 3), .int .i64 (p 4), .int .i64 (p 5), .int .i64 (p 6), .int .i64 (p 7), .int .i64 (p 8), .int .i64 (p 9)]] w fun e w' => e = .returned (.bool (hasAllM m p)) ∧ Below w.heap.size w w' := by
  have hix := Tryz.mix p
  have HIX := Lib.hid hix
  clear hix
  go_enter Tryz.func173, Tryz.ntmps173
  go_wp2_with fail
  go_loopw [10] (fun s10 wr => ∃ k : Nat, k ≤ 10 ∧ s10 = .int .i64 k ∧ Below w.heap.size w wr ∧ BlockIs wr w.heap.size 171 #[.int .i64 (m 0), .int .i64 (m 1), .int .i64 (m 2), .int .i64 (m 3), .int .i64 (m 4), .int .i64 (m 5), .int .i64 (m 6), .int .i64 (m 7), .int .i64 (m 8), .int .i64 (m 9)] ∧ BlockIs wr (w.heap.size + 2) 171 #[.int .i64 (laidM m p k 0), .int .i64 (laidM m p k 1), .int .i64 (laidM m p k 2), .int .i64 (laidM m p k 3), .int .i64 (laidM m p k 4), .int .i64 (laidM m p k 5), .int .i64 (laidM m p k 6), .int .i64 (laidM m p k 7), .int .i64 (laidM m p k 8), .int .i64 (laidM m p k 9)]) (fun s10 _ => (10 - intOf s10).toNat)
  case atStart =>
    refine ⟨0, by omega, rfl, (by repeat' (first | exact Below.refl _ _ | refine Below.alloc ?_ ?_ _ | refine Below.setCell ?_ ?_ _ | refine Below.drew ?_ | (apply below_step; assumption) | (simp; done) | (simp; omega) | omega)), ?_, ?_⟩
    · exact ((BlockIs.new w _ _).alloc _).alloc _
    · have h0 : laidM m p 0 = m := by funext i; simp [laidM]
      rw [h0]
      exact BlockIs.new' (by simp)
  case round =>
    obtain ⟨k, hk, rfl, hB, hm, hl⟩ := hrel
    have HM := Lib.hid hm
    have HL := Lib.hid hl
    have hzr := hB.size
    have hgl := hl.lt
    by_cases hlt : k < 10
    · have hx := fun w => HIX.out k hlt w
      have c5 := (hl.cell k).trans (mcell _ k hlt)
      have f5 := hl.frozen k
      have hlti : (k : Int) < 10 := by omega
      clear hm hl
      by_cases hp : 0 < p k
      · have HP := Lib.hid hp
        go_wp2_with fail
        go_roundw
        case rel =>
          refine ⟨k + 1, by omega, by go_num, (by repeat' (first | exact Below.refl _ _ | refine Below.alloc ?_ ?_ _ | refine Below.setCell ?_ ?_ _ | refine Below.drew ?_ | (apply below_step; assumption) | (simp; done) | (simp; omega) | omega)), HM.out.far (by simp; omega) _, ?_⟩
          rw [← laid_put m p k hlt HP.out]
          exact HL.out.put k _
        case measure => simp [intOf]; omega
      · have HP := Lib.hid hp
        have hp' : p k ≤ 0 := by omega
        clear hp
        go_wp2_with fail
        go_roundw
        case rel =>
          refine ⟨k + 1, by omega, by go_num, hB, HM.out, ?_⟩
          rw [laid_skip m p k HP.out]
          exact HL.out
        case measure => simp [intOf]; omega
    · obtain rfl : k = 10 := by omega
      have heq := eql_marks (laidM m p 10) m
      have hgu := guard_marks
      have m0 := hm.cell 0
      have m1 := hm.cell 1
      have m2 := hm.cell 2
      have m3 := hm.cell 3
      have m4 := hm.cell 4
      have m5 := hm.cell 5
      have m6 := hm.cell 6
      have m7 := hm.cell 7
      have m8 := hm.cell 8
      have m9 := hm.cell 9
      have l0 := hl.cell 0
      have l1 := hl.cell 1
      have l2 := hl.cell 2
      have l3 := hl.cell 3
      have l4 := hl.cell 4
      have l5 := hl.cell 5
      have l6 := hl.cell 6
      have l7 := hl.cell 7
      have l8 := hl.cell 8
      have l9 := hl.cell 9
      simp at m0 m1 m2 m3 m4 m5 m6 m7 m8 m9 l0 l1 l2 l3 l4 l5 l6 l7 l8 l9
      clear hm hl HM HL HIX
      go_wp2_with fail
      go_ret
      exact ⟨rfl, hB⟩
end Go.Proofs.YtmkpajjnjgnmkabGreatDoor

namespace Go.Proofs.YtmkpajjnjgnmkabGreatDoor
open Go.RowKit

def LabAt (w : World) (b off : Nat) (l : List LV) : Prop :=
  ∀ i r, l[i]? = some r → w.cell? ⟨b, off + i * 2, none⟩ = some (.int .i64 r.k) ∧ w.cell? ⟨b, off + i * 2 + 1, none⟩ = some (.int .i64 r.v)
def LabSl (w : World) (v : Value) (l : List LV) : Prop := (l = [] ∧ ∃ A c, v = .slice A 0 c) ∨ ∃ b off c, v = .slice (some ⟨b, off, none⟩) l.length c ∧ b < w.heap.size ∧ LabAt w b off l
theorem LabAt.below {w w' : World} {b off B : Nat} {l : List LV} (h : LabAt w b off l) (hb : Below B w w') (hB : b < B) : LabAt w' b off l := fun i r hr => by
  obtain ⟨h1, h2⟩ := h i r hr
  exact ⟨(hb.cell (p := ⟨b, _, none⟩) hB).trans h1, (hb.cell (p := ⟨b, _, none⟩) hB).trans h2⟩
theorem LabSl.below {w w' : World} {v : Value} {l : List LV} (h : LabSl w v l) (hb : Below w.heap.size w w') : LabSl w' v l := by
  rcases h with h | ⟨b, off, c, rfl, hlt, h⟩
  · exact .inl h
  · exact .inr ⟨b, off, c, rfl, Nat.lt_of_lt_of_le hlt hb.size, h.below hb hlt⟩
theorem LabSl.form {w : World} {v : Value} {l : List LV} (h : LabSl w v l) : ∃ A c, v = .slice A l.length c ∧ (0 < l.length → ∃ b off, A = some ⟨b, off, none⟩ ∧ b < w.heap.size ∧ LabAt w b off l) := by
  rcases h with ⟨rfl, A, c, rfl⟩ | ⟨b, off, c, rfl, hlt, h⟩
  · exact ⟨A, c, rfl, fun h => absurd h (by simp)⟩
  · exact ⟨_, c, rfl, fun _ => ⟨b, off, rfl, hlt, h⟩⟩
def RetM (m : Nat → Int) (b : Bool) (w : World) (e : Ending) (w' : World) : Prop := e = .returned (.tuple #[.agg #[.int .i64 (m 0), .int .i64 (m 1), .int .i64 (m 2), .int .i64 (m 3), .int .i64 (m 4), .int .i64 (m 5), .int .i64 (m 6), .int .i64 (m 7), .int .i64 (m 8), .int .i64 (m 9)], .bool b]) ∧ Below w.heap.size w w'
theorem readOf_no {l : List LV} (h : labsOk l = false) : readOf l = mzero := by simp [readOf, h]
theorem readOf_yes {l : List LV} (h : labsOk l = true) : readOf l = marksOf mzero l := by simp [readOf, h]

set_option maxHeartbeats 1600000 in
theorem readLabs_long (A : Option Addr) (n c : Nat) (w : World) (h : 6 < n) (hm : n ≤ 1048576) :
    Calls Tryz.prog 159 #[.slice A n c] w (RetM mzero false w) := by
  have h6 : (6 : Int) < (n : Int) := by omega
  go_enter Tryz.func159, Tryz.ntmps159
  go_wp2_with fail
  exact bodyPost_ret (v := .tuple #[.agg #[.int .i64 (mzero 0), .int .i64 (mzero 1), .int .i64 (mzero 2), .int .i64 (mzero 3), .int .i64 (mzero 4), .int .i64 (mzero 5), .int .i64 (mzero 6), .int .i64 (mzero 7), .int .i64 (mzero 8), .int .i64 (mzero 9)], .bool false]) (by simp [results, Tryz.results159, go_sem, mzero]) rfl ⟨rfl, (by repeat' (first | exact Below.refl _ _ | refine Below.alloc ?_ ?_ _ | refine Below.setCell ?_ ?_ _ | refine Below.drew ?_ | (apply below_step; assumption) | (simp; done) | (simp; omega) | omega))⟩

set_option maxHeartbeats 3200000 in
theorem readLabs_short (v : Value) (l : List LV) (w : World) (hv : LabSl w v l) (hlen : l.length ≤ 6) :
    Calls Tryz.prog 159 #[v] w (RetM (readOf l) (labsOk l) w) := by
  obtain ⟨A, c, rfl, hA⟩ := hv.form
  have HA := Lib.hid hA
  have HO := Lib.hid (labsOk_short hlen)
  clear hA hv
  go_enter Tryz.func159, Tryz.ntmps159
  go_wp2_with fail
  go_loopw [5, 15] (fun s5 s15 wr => ∃ (k : Nat) (p : Int) (m : Nat → Int), k ≤ l.length ∧ s15 = .int .i64 k ∧ s5 = .int .i64 p ∧ -1 ≤ p ∧ p ≤ 9 ∧ labsFrom (-1) l = labsFrom p (l.drop k) ∧ marksOf mzero l = marksOf m (l.drop k) ∧ Below w.heap.size w wr ∧ BlockIs wr w.heap.size 171 #[.int .i64 (mzero 0), .int .i64 (mzero 1), .int .i64 (mzero 2), .int .i64 (mzero 3), .int .i64 (mzero 4), .int .i64 (mzero 5), .int .i64 (mzero 6), .int .i64 (mzero 7), .int .i64 (mzero 8), .int .i64 (mzero 9)] ∧ BlockIs wr (w.heap.size + 1) 171 #[.int .i64 (m 0), .int .i64 (m 1), .int .i64 (m 2), .int .i64 (m 3), .int .i64 (m 4), .int .i64 (m 5), .int .i64 (m 6), .int .i64 (m 7), .int .i64 (m 8), .int .i64 (m 9)]) (fun _ s15 _ => (l.length - intOf s15).toNat)
  case atStart =>
    refine ⟨0, -1, mzero, by omega, rfl, rfl, by omega, by omega, by rw [List.drop_zero], by rw [List.drop_zero], (by repeat' (first | exact Below.refl _ _ | refine Below.alloc ?_ ?_ _ | refine Below.setCell ?_ ?_ _ | refine Below.drew ?_ | (apply below_step; assumption) | (simp; done) | (simp; omega) | omega)), ?_, ?_⟩
    · exact (BlockIs.new w _ _).alloc _
    · exact BlockIs.new' (by simp)
  case round =>
    obtain ⟨k, p, m, hk, rfl, rfl, hp1, hp9, hF, hM, hB, hz, hm⟩ := hrel
    have HF := Lib.hid hF
    have HM := Lib.hid hM
    have HZ := Lib.hid hz
    have HMB := Lib.hid hm
    have hzr := hB.size
    have hgl := hm.lt
    clear hF hM
    by_cases hlt : k < l.length
    · obtain ⟨b, off, rfl, hbw, hat⟩ := HA.out (by omega)
      obtain ⟨r, hr⟩ : ∃ r, l[k]? = some r := ⟨_, List.getElem?_eq_getElem hlt⟩
      have HD := Lib.hid (drop_at hr)
      obtain ⟨q0, q1⟩ := (hat.below hB hbw) k r hr
      have hlti : (k : Int) < (l.length : Int) := by omega
      have hbr : b < wr.heap.size := by omega
      clear hat hr hz hm
      cases hro : r.ok
      · have HR := Lib.hid hro
        clear hro
        go_wp2_with fail
        refine (labInRange_no r _ HR.out).mono ?_
        rintro e w3 ⟨rfl, hb3⟩
        have hz3 := hb3.size
        simp at hz3
        have hZ3 := (HZ.out.alloc _).below hb3 (by simp; omega)
        have z0 := (hZ3).cell 0; have z1 := (hZ3).cell 1; have z2 := (hZ3).cell 2; have z3 := (hZ3).cell 3; have z4 := (hZ3).cell 4; have z5 := (hZ3).cell 5; have z6 := (hZ3).cell 6; have z7 := (hZ3).cell 7; have z8 := (hZ3).cell 8; have z9 := (hZ3).cell 9; simp at z0 z1 z2 z3 z4 z5 z6 z7 z8 z9
        have zf := hZ3.frozen
        have HZ3 := Lib.hid hZ3
        clear hZ3
        have hB3 : Below w.heap.size w w3 := (by repeat' (first | exact Below.refl _ _ | refine Below.alloc ?_ ?_ _ | refine Below.setCell ?_ ?_ _ | refine Below.drew ?_ | (apply below_step; assumption) | (simp; done) | (simp; omega) | omega))
        go_wp2_with fail
        have HX : Hid (labsOk l = false) := by
          show _ = _
          rw [HO.out, HF.out, HD.out, labsFrom_bad HR.out]
        rw [readOf_no HX.out, HX.out]
        have hX : BlockIs ((((((((((w3.setCell ⟨w.heap.size, 0, none⟩ (.int .i64 0)).setCell ⟨w.heap.size, 1, none⟩ (.int .i64 0)).setCell ⟨w.heap.size, 2, none⟩ (.int .i64 0)).setCell ⟨w.heap.size, 3, none⟩ (.int .i64 0)).setCell ⟨w.heap.size, 4, none⟩ (.int .i64 0)).setCell ⟨w.heap.size, 5, none⟩ (.int .i64 0)).setCell ⟨w.heap.size, 6, none⟩ (.int .i64 0)).setCell ⟨w.heap.size, 7, none⟩ (.int .i64 0)).setCell ⟨w.heap.size, 8, none⟩ (.int .i64 0)).setCell ⟨w.heap.size, 9, none⟩ (.int .i64 0)) w.heap.size 171 #[.int .i64 (mzero 0), .int .i64 (mzero 1), .int .i64 (mzero 2), .int .i64 (mzero 3), .int .i64 (mzero 4), .int .i64 (mzero 5), .int .i64 (mzero 6), .int .i64 (mzero 7), .int .i64 (mzero 8), .int .i64 (mzero 9)] := put10 mzero HZ3.out
        have hBX : Below w.heap.size w ((((((((((w3.setCell ⟨w.heap.size, 0, none⟩ (.int .i64 0)).setCell ⟨w.heap.size, 1, none⟩ (.int .i64 0)).setCell ⟨w.heap.size, 2, none⟩ (.int .i64 0)).setCell ⟨w.heap.size, 3, none⟩ (.int .i64 0)).setCell ⟨w.heap.size, 4, none⟩ (.int .i64 0)).setCell ⟨w.heap.size, 5, none⟩ (.int .i64 0)).setCell ⟨w.heap.size, 6, none⟩ (.int .i64 0)).setCell ⟨w.heap.size, 7, none⟩ (.int .i64 0)).setCell ⟨w.heap.size, 8, none⟩ (.int .i64 0)).setCell ⟨w.heap.size, 9, none⟩ (.int .i64 0)) := below10 mzero hB3 (Nat.le_refl _)
        generalize ((((((((((w3.setCell ⟨w.heap.size, 0, none⟩ (.int .i64 0)).setCell ⟨w.heap.size, 1, none⟩ (.int .i64 0)).setCell ⟨w.heap.size, 2, none⟩ (.int .i64 0)).setCell ⟨w.heap.size, 3, none⟩ (.int .i64 0)).setCell ⟨w.heap.size, 4, none⟩ (.int .i64 0)).setCell ⟨w.heap.size, 5, none⟩ (.int .i64 0)).setCell ⟨w.heap.size, 6, none⟩ (.int .i64 0)).setCell ⟨w.heap.size, 7, none⟩ (.int .i64 0)).setCell ⟨w.heap.size, 8, none⟩ (.int .i64 0)).setCell ⟨w.heap.size, 9, none⟩ (.int .i64 0)) = X at hX hBX ⊢
        clear z0 z1 z2 z3 z4 z5 z6 z7 z8 z9
        have z0 := (hX).cell 0; have z1 := (hX).cell 1; have z2 := (hX).cell 2; have z3 := (hX).cell 3; have z4 := (hX).cell 4; have z5 := (hX).cell 5; have z6 := (hX).cell 6; have z7 := (hX).cell 7; have z8 := (hX).cell 8; have z9 := (hX).cell 9; simp at z0 z1 z2 z3 z4 z5 z6 z7 z8 z9
        refine bodyPost_ret (v := .tuple #[.agg #[.int .i64 (mzero 0), .int .i64 (mzero 1), .int .i64 (mzero 2), .int .i64 (mzero 3), .int .i64 (mzero 4), .int .i64 (mzero 5), .int .i64 (mzero 6), .int .i64 (mzero 7), .int .i64 (mzero 8), .int .i64 (mzero 9)], .bool false]) (by simp [results, Tryz.results159, go_sem, z0, z1, z2, z3, z4, z5, z6, z7, z8, z9]) rfl ⟨rfl, hBX⟩
      · have HR := Lib.hid hro
        have hkr := LV.ok_iff.1 hro
        have hk0 : 0 ≤ r.k := hkr.1
        have hk9 : r.k ≤ 9 := hkr.2.1
        clear hro hkr
        by_cases hpk : p < r.k
        · have HP := Lib.hid hpk
          go_wp2_with fail
          refine (labInRange_yes r _ HR.out).mono ?_
          rintro e w3 ⟨rfl, hb3⟩
          have hz3 := hb3.size
          simp at hz3
          have hM3 := (HMB.out.alloc _).below hb3 (by simp; omega)
          have hT3 := (BlockIs.new wr 110 #[.int .i64 r.k, .int .i64 r.v]).below hb3 (by simp)
          have z0 := (hM3).cell 0; have z1 := (hM3).cell 1; have z2 := (hM3).cell 2; have z3 := (hM3).cell 3; have z4 := (hM3).cell 4; have z5 := (hM3).cell 5; have z6 := (hM3).cell 6; have z7 := (hM3).cell 7; have z8 := (hM3).cell 8; have z9 := (hM3).cell 9; simp at z0 z1 z2 z3 z4 z5 z6 z7 z8 z9
          have t0 := hT3.cell 0
          have t1 := hT3.cell 1
          simp at t0 t1
          have hw3 : wr.heap.size < w3.heap.size := by omega
          have HM3 := Lib.hid hM3
          have HT3 := Lib.hid hT3
          clear hM3 hT3
          go_wp2_with fail
          refine (with_any m r _ HR.out).mono ?_
          rintro e w4 ⟨rfl, hb4⟩
          have hz4 := hb4.size
          have hM4 := HM3.out.below hb4 (by omega)
          have hT4 := HT3.out.below hb4 (by omega)
          have HM4 := Lib.hid hM4
          clear z0 z1 z2 z3 z4 z5 z6 z7 z8 z9 t0 t1
          have z0 := (hM4).cell 0; have z1 := (hM4).cell 1; have z2 := (hM4).cell 2; have z3 := (hM4).cell 3; have z4 := (hM4).cell 4; have z5 := (hM4).cell 5; have z6 := (hM4).cell 6; have z7 := (hM4).cell 7; have z8 := (hM4).cell 8; have z9 := (hM4).cell 9; simp at z0 z1 z2 z3 z4 z5 z6 z7 z8 z9
          have zf := hM4.frozen
          have t0 := hT4.cell 0
          simp at t0
          have hne : w.heap.size + 1 ≠ wr.heap.size := by omega
          have hB4 : Below w.heap.size w w4 := (by repeat' (first | exact Below.refl _ _ | refine Below.alloc ?_ ?_ _ | refine Below.setCell ?_ ?_ _ | refine Below.drew ?_ | (apply below_step; assumption) | (simp; done) | (simp; omega) | omega))
          have HZ4 := Lib.hid (((HZ.out.alloc _).below hb3 (by simp; omega)).below hb4 (by omega))
          clear hM4 hT4
          go_wp2_with fail
          go_roundw
          case rel =>
            refine ⟨k + 1, r.k, mwith m r, by omega, by go_num, rfl, by omega, by omega, ?_, ?_, ?_, ?_, ?_⟩
            · rw [HF.out, HD.out, labsFrom_yes HR.out HP.out]
            · rw [HM.out, HD.out]; rfl
            · exact below10 (mwith m r) hB4 (by omega)
            · exact far10 (mwith m r) HZ4.out (by omega)
            · exact put10 (mwith m r) HM4.out
          case measure => simp [intOf]; omega
        · have HP := Lib.hid (show r.k ≤ p by omega)
          have hpk' : r.k ≤ p := by omega
          go_wp2_with fail
          refine (labInRange_yes r _ HR.out).mono ?_
          rintro e w3 ⟨rfl, hb3⟩
          have hz3 := hb3.size
          simp at hz3
          have hZ3 := (HZ.out.alloc _).below hb3 (by simp; omega)
          have hT3 := (BlockIs.new wr 110 #[.int .i64 r.k, .int .i64 r.v]).below hb3 (by simp)
          have z0 := (hZ3).cell 0; have z1 := (hZ3).cell 1; have z2 := (hZ3).cell 2; have z3 := (hZ3).cell 3; have z4 := (hZ3).cell 4; have z5 := (hZ3).cell 5; have z6 := (hZ3).cell 6; have z7 := (hZ3).cell 7; have z8 := (hZ3).cell 8; have z9 := (hZ3).cell 9; simp at z0 z1 z2 z3 z4 z5 z6 z7 z8 z9
          have zf := hZ3.frozen
          have t0 := hT3.cell 0
          simp at t0
          have HZ3 := Lib.hid hZ3
          clear hZ3 hT3
          have hB3 : Below w.heap.size w w3 := (by repeat' (first | exact Below.refl _ _ | refine Below.alloc ?_ ?_ _ | refine Below.setCell ?_ ?_ _ | refine Below.drew ?_ | (apply below_step; assumption) | (simp; done) | (simp; omega) | omega))
          go_wp2_with fail
          have HX : Hid (labsOk l = false) := by
            show _ = _
            rw [HO.out, HF.out, HD.out, labsFrom_low HP.out]
          rw [readOf_no HX.out, HX.out]
          have hX : BlockIs ((((((((((w3.setCell ⟨w.heap.size, 0, none⟩ (.int .i64 0)).setCell ⟨w.heap.size, 1, none⟩ (.int .i64 0)).setCell ⟨w.heap.size, 2, none⟩ (.int .i64 0)).setCell ⟨w.heap.size, 3, none⟩ (.int .i64 0)).setCell ⟨w.heap.size, 4, none⟩ (.int .i64 0)).setCell ⟨w.heap.size, 5, none⟩ (.int .i64 0)).setCell ⟨w.heap.size, 6, none⟩ (.int .i64 0)).setCell ⟨w.heap.size, 7, none⟩ (.int .i64 0)).setCell ⟨w.heap.size, 8, none⟩ (.int .i64 0)).setCell ⟨w.heap.size, 9, none⟩ (.int .i64 0)) w.heap.size 171 #[.int .i64 (mzero 0), .int .i64 (mzero 1), .int .i64 (mzero 2), .int .i64 (mzero 3), .int .i64 (mzero 4), .int .i64 (mzero 5), .int .i64 (mzero 6), .int .i64 (mzero 7), .int .i64 (mzero 8), .int .i64 (mzero 9)] := put10 mzero HZ3.out
          have hBX : Below w.heap.size w ((((((((((w3.setCell ⟨w.heap.size, 0, none⟩ (.int .i64 0)).setCell ⟨w.heap.size, 1, none⟩ (.int .i64 0)).setCell ⟨w.heap.size, 2, none⟩ (.int .i64 0)).setCell ⟨w.heap.size, 3, none⟩ (.int .i64 0)).setCell ⟨w.heap.size, 4, none⟩ (.int .i64 0)).setCell ⟨w.heap.size, 5, none⟩ (.int .i64 0)).setCell ⟨w.heap.size, 6, none⟩ (.int .i64 0)).setCell ⟨w.heap.size, 7, none⟩ (.int .i64 0)).setCell ⟨w.heap.size, 8, none⟩ (.int .i64 0)).setCell ⟨w.heap.size, 9, none⟩ (.int .i64 0)) := below10 mzero hB3 (Nat.le_refl _)
          generalize ((((((((((w3.setCell ⟨w.heap.size, 0, none⟩ (.int .i64 0)).setCell ⟨w.heap.size, 1, none⟩ (.int .i64 0)).setCell ⟨w.heap.size, 2, none⟩ (.int .i64 0)).setCell ⟨w.heap.size, 3, none⟩ (.int .i64 0)).setCell ⟨w.heap.size, 4, none⟩ (.int .i64 0)).setCell ⟨w.heap.size, 5, none⟩ (.int .i64 0)).setCell ⟨w.heap.size, 6, none⟩ (.int .i64 0)).setCell ⟨w.heap.size, 7, none⟩ (.int .i64 0)).setCell ⟨w.heap.size, 8, none⟩ (.int .i64 0)).setCell ⟨w.heap.size, 9, none⟩ (.int .i64 0)) = X at hX hBX ⊢
          clear z0 z1 z2 z3 z4 z5 z6 z7 z8 z9
          have z0 := (hX).cell 0; have z1 := (hX).cell 1; have z2 := (hX).cell 2; have z3 := (hX).cell 3; have z4 := (hX).cell 4; have z5 := (hX).cell 5; have z6 := (hX).cell 6; have z7 := (hX).cell 7; have z8 := (hX).cell 8; have z9 := (hX).cell 9; simp at z0 z1 z2 z3 z4 z5 z6 z7 z8 z9
          refine bodyPost_ret (v := .tuple #[.agg #[.int .i64 (mzero 0), .int .i64 (mzero 1), .int .i64 (mzero 2), .int .i64 (mzero 3), .int .i64 (mzero 4), .int .i64 (mzero 5), .int .i64 (mzero 6), .int .i64 (mzero 7), .int .i64 (mzero 8), .int .i64 (mzero 9)], .bool false]) (by simp [results, Tryz.results159, go_sem, z0, z1, z2, z3, z4, z5, z6, z7, z8, z9]) rfl ⟨rfl, hBX⟩
    · have hkl : k = l.length := by omega
      have HF' : Hid (labsOk l = true) := by
        show _ = _
        rw [HO.out, HF.out, hkl, List.drop_length]; rfl
      have HM' : Hid (marksOf mzero l = m) := by
        show _ = _
        rw [HM.out, hkl, List.drop_length]; rfl
      clear hkl
      have z0 := (hz).cell 0; have z1 := (hz).cell 1; have z2 := (hz).cell 2; have z3 := (hz).cell 3; have z4 := (hz).cell 4; have z5 := (hz).cell 5; have z6 := (hz).cell 6; have z7 := (hz).cell 7; have z8 := (hz).cell 8; have z9 := (hz).cell 9; simp at z0 z1 z2 z3 z4 z5 z6 z7 z8 z9
      have y0 := (hm).cell 0; have y1 := (hm).cell 1; have y2 := (hm).cell 2; have y3 := (hm).cell 3; have y4 := (hm).cell 4; have y5 := (hm).cell 5; have y6 := (hm).cell 6; have y7 := (hm).cell 7; have y8 := (hm).cell 8; have y9 := (hm).cell 9; simp at y0 y1 y2 y3 y4 y5 y6 y7 y8 y9
      have zf := hz.frozen
      clear hz hm
      go_wp2_with fail
      rw [readOf_yes HF'.out, HF'.out, HM'.out]
      have hX : BlockIs ((((((((((wr.setCell ⟨w.heap.size, 0, none⟩ (.int .i64 (m 0))).setCell ⟨w.heap.size, 1, none⟩ (.int .i64 (m 1))).setCell ⟨w.heap.size, 2, none⟩ (.int .i64 (m 2))).setCell ⟨w.heap.size, 3, none⟩ (.int .i64 (m 3))).setCell ⟨w.heap.size, 4, none⟩ (.int .i64 (m 4))).setCell ⟨w.heap.size, 5, none⟩ (.int .i64 (m 5))).setCell ⟨w.heap.size, 6, none⟩ (.int .i64 (m 6))).setCell ⟨w.heap.size, 7, none⟩ (.int .i64 (m 7))).setCell ⟨w.heap.size, 8, none⟩ (.int .i64 (m 8))).setCell ⟨w.heap.size, 9, none⟩ (.int .i64 (m 9))) w.heap.size 171 #[.int .i64 (m 0), .int .i64 (m 1), .int .i64 (m 2), .int .i64 (m 3), .int .i64 (m 4), .int .i64 (m 5), .int .i64 (m 6), .int .i64 (m 7), .int .i64 (m 8), .int .i64 (m 9)] := put10 m HZ.out
      have hBX : Below w.heap.size w ((((((((((wr.setCell ⟨w.heap.size, 0, none⟩ (.int .i64 (m 0))).setCell ⟨w.heap.size, 1, none⟩ (.int .i64 (m 1))).setCell ⟨w.heap.size, 2, none⟩ (.int .i64 (m 2))).setCell ⟨w.heap.size, 3, none⟩ (.int .i64 (m 3))).setCell ⟨w.heap.size, 4, none⟩ (.int .i64 (m 4))).setCell ⟨w.heap.size, 5, none⟩ (.int .i64 (m 5))).setCell ⟨w.heap.size, 6, none⟩ (.int .i64 (m 6))).setCell ⟨w.heap.size, 7, none⟩ (.int .i64 (m 7))).setCell ⟨w.heap.size, 8, none⟩ (.int .i64 (m 8))).setCell ⟨w.heap.size, 9, none⟩ (.int .i64 (m 9))) := below10 m hB (Nat.le_refl _)
      generalize ((((((((((wr.setCell ⟨w.heap.size, 0, none⟩ (.int .i64 (m 0))).setCell ⟨w.heap.size, 1, none⟩ (.int .i64 (m 1))).setCell ⟨w.heap.size, 2, none⟩ (.int .i64 (m 2))).setCell ⟨w.heap.size, 3, none⟩ (.int .i64 (m 3))).setCell ⟨w.heap.size, 4, none⟩ (.int .i64 (m 4))).setCell ⟨w.heap.size, 5, none⟩ (.int .i64 (m 5))).setCell ⟨w.heap.size, 6, none⟩ (.int .i64 (m 6))).setCell ⟨w.heap.size, 7, none⟩ (.int .i64 (m 7))).setCell ⟨w.heap.size, 8, none⟩ (.int .i64 (m 8))).setCell ⟨w.heap.size, 9, none⟩ (.int .i64 (m 9))) = X at hX hBX ⊢
      clear z0 z1 z2 z3 z4 z5 z6 z7 z8 z9
      have z0 := (hX).cell 0; have z1 := (hX).cell 1; have z2 := (hX).cell 2; have z3 := (hX).cell 3; have z4 := (hX).cell 4; have z5 := (hX).cell 5; have z6 := (hX).cell 6; have z7 := (hX).cell 7; have z8 := (hX).cell 8; have z9 := (hX).cell 9; simp at z0 z1 z2 z3 z4 z5 z6 z7 z8 z9
      refine bodyPost_ret (v := .tuple #[.agg #[.int .i64 (m 0), .int .i64 (m 1), .int .i64 (m 2), .int .i64 (m 3), .int .i64 (m 4), .int .i64 (m 5), .int .i64 (m 6), .int .i64 (m 7), .int .i64 (m 8), .int .i64 (m 9)], .bool true]) (by simp [results, Tryz.results159, go_sem, z0, z1, z2, z3, z4, z5, z6, z7, z8, z9]) rfl ⟨rfl, hBX⟩

theorem readLabs_any (v : Value) (l : List LV) (w : World) (hv : LabSl w v l) (hlen : l.length ≤ 1048576) :
    Calls Tryz.prog 159 #[v] w (RetM (readOf l) (labsOk l) w) := by
  by_cases h : l.length ≤ 6
  · exact readLabs_short v l w hv h
  · obtain ⟨A, c, rfl, _⟩ := hv.form
    rw [readOf_no (labsOk_long (by omega)), labsOk_long (by omega)]
    exact readLabs_long A l.length c w (by omega) hlen
end Go.Proofs.YtmkpajjnjgnmkabGreatDoor

namespace Go.Proofs.YtmkpajjnjgnmkabGreatDoor
open Go.ChangeShapes Go.WideShapes Go.ChangeAt Go.RowKit Go.Joins

theorem Tryz.cellsLab : Tryz.prog.cellsOf 151 = 2 := by kernel_rfl

section
variable {H : Type} {enc : TypeId × Value → H} {W : World}
set_option maxRecDepth 100000 in
theorem open_labC {fuel : Nat} {v : Value} {x : DataW H × List MemPlace} (h : DataW.trod enc Tryz.prog W 0 (fun _ => true) true fuel 51 [v] = some x) :
    ∃ A n c, v = .slice A n c ∧ n ≤ maxLen ∧ ∃ l : List LV, l.length = n ∧ LabSl W v l := by
  rcases Go.Deep.open_slice Tryz.underlying51 h with ⟨hcs, _⟩ | ⟨a, n, cap, m, n', D, Pl, hcs, hb, hl, hm, hmm, hx, hi⟩
  · simp at hcs
    subst hcs
    exact ⟨none, 0, 0, rfl, by unfold maxLen; omega, [], rfl, .inl ⟨rfl, _, _, rfl⟩⟩
  · simp at hcs
    subst hcs
    rw [if_pos rfl] at hmm
    subst hmm
    have hel : ∀ i, i < n → ∃ r : LV, W.cell? (a.add (i * 2)) = some (.int .i64 r.k) ∧ W.cell? (a.add (i * 2 + 1)) = some (.int .i64 r.v) := by
      intro i hin
      obtain ⟨cs', hc, ht⟩ := hi i (by omega)
      rw [Tryz.cellsLab] at hc
      obtain ⟨y0, y1, k, _, hlen, g0, g1⟩ := trod_struct2 Tryz.underlying151 ht
      rw [Tryz.cellsLab] at hlen
      obtain ⟨_, _, hat⟩ := World.cells?_some hc
      match cs', hlen with
      | [c0, c1], _ =>
        obtain ⟨r0, e0, _, _⟩ := DataW.trod_int Tryz.underlying3 g0
        obtain ⟨r1, e1, _, _⟩ := DataW.trod_int Tryz.underlying3 g1
        have k3 : Tryz.prog.cellsOf 3 = 1 := by kernel_rfl
        simp [k3] at e0 e1
        subst e0 e1
        have a0 := hat 0 (by omega)
        have a1 := hat 1 (by omega)
        rw [Go.Deep.add_add] at a0 a1
        exact ⟨⟨r0, r1⟩, by simpa using a0, by simpa using a1⟩
    obtain ⟨f, hf⟩ : ∃ f : Nat → LV, ∀ i, i < n → W.cell? (a.add (i * 2)) = some (.int .i64 (f i).k) ∧ W.cell? (a.add (i * 2 + 1)) = some (.int .i64 (f i).v) := by
      classical
      refine ⟨fun i => if hi : i < n then Classical.choose (hel i hi) else ⟨0, 0⟩, fun i hi => ?_⟩
      simp only [dif_pos hi]
      exact Classical.choose_spec (hel i hi)
    refine ⟨_, n, _, rfl, by omega, (List.range n).map f, by simp, ?_⟩
    rcases Nat.eq_zero_or_pos n with rfl | hp
    · exact .inl ⟨rfl, _, _, rfl⟩
    · obtain ⟨b, off, spot⟩ := a
      have h0 := (hf 0 hp).1
      have hspot : spot = none := by simpa [Addr.add] using World.cell?_spot h0
      subst hspot
      have hlt := World.block_lt_of_cell? _ _ h0
      refine .inr ⟨b, off, m, by simp, by simpa [Addr.add] using hlt, fun i r hr => ?_⟩
      have hi : i < n := by
        have := (List.getElem?_eq_some_iff.1 hr).1
        simpa using this
      have hri : f i = r := by simpa [hi] using hr
      obtain ⟨h1, h2⟩ := hf i hi
      rw [hri] at h1 h2
      rw [add_plain] at h1 h2
      exact ⟨h1, h2⟩
end
end Go.Proofs.YtmkpajjnjgnmkabGreatDoor

namespace Go.Proofs.YtmkpajjnjgnmkabGreatDoor
open Go.RowKit

theorem szLabS_yes (A : Option Addr) (n c : Nat) (z : Int) (w : World) (hz : z ≤ 1048576) (h : (n : Int) ≤ z) :
    Calls Tryz.prog 84 #[.slice A n c, .int .i64 z] w fun e w' => e = .returned (.int .i64 (z - n)) ∧ w = w' := by
  go_enter Tryz.func84, Tryz.ntmps84
  go_wp2
  go_ret
  exact ⟨rfl, rfl⟩
theorem szLabS_no (A : Option Addr) (n c : Nat) (z : Int) (w : World) (h0 : 0 ≤ z) (h : z < n) (hm : n ≤ maxLen) :
    Calls Tryz.prog 84 #[.slice A n c, .int .i64 z] w fun e w' => e = .returned (.int .i64 (-1)) ∧ w = w' := by
  unfold maxLen at hm
  go_enter Tryz.func84, Tryz.ntmps84
  go_wp2
  go_ret
  exact ⟨rfl, rfl⟩

theorem toLab_any (r : LV) (w : World) :
    Calls Tryz.prog 129 #[.agg #[.int .i64 r.k, .int .i64 r.v]] w fun e w' => e = .returned (.agg #[.int .i64 r.k, .int .i64 r.v]) ∧ Below w.heap.size w w' := by
  go_enter Tryz.func129, Tryz.ntmps129
  go_wp2
  exact bodyPost_ret (v := .agg #[.int .i64 r.k, .int .i64 r.v]) (by simp [results, Tryz.results129, go_sem]) rfl ⟨rfl, (by repeat' (first | exact Below.refl _ _ | refine Below.alloc ?_ ?_ _ | refine Below.setCell ?_ ?_ _ | refine Below.drew ?_ | (apply below_step; assumption) | (simp; done) | (simp; omega) | omega))⟩
theorem eqLab_same (r : LV) (w : World) :
    Calls Tryz.prog 139 #[.agg #[.int .i64 r.k, .int .i64 r.v], .agg #[.int .i64 r.k, .int .i64 r.v]] w fun e w' => e = .returned (.bool true) ∧ Below w.heap.size w w' := by
  have h1 : (r.k != r.k) = false := by simp
  have h2 : (r.v != r.v) = false := by simp
  go_enter Tryz.func139, Tryz.ntmps139
  go_wp2
  go_ret
  exact ⟨rfl, (by repeat' (first | exact Below.refl _ _ | refine Below.alloc ?_ ?_ _ | refine Below.setCell ?_ ?_ _ | refine Below.drew ?_ | (apply below_step; assumption) | (simp; done) | (simp; omega) | omega))⟩

def labL (l : List LV) : List Value := l.flatMap fun x => [.int .i64 x.k, .int .i64 x.v]
theorem labL_len (l : List LV) : (labL l).length = l.length * 2 := by
  induction l with
  | nil => rfl
  | cons x r ih => simp [labL] at ih ⊢; omega
theorem labL_cons (x : LV) (r : List LV) : labL (x :: r) = .int .i64 x.k :: .int .i64 x.v :: labL r := rfl
theorem labL_at {l : List LV} {i : Nat} {x : LV} (h : l[i]? = some x) : (labL l)[i * 2]? = some (.int .i64 x.k) ∧ (labL l)[i * 2 + 1]? = some (.int .i64 x.v) := by
  induction l generalizing i with
  | nil => simp at h
  | cons y r ih =>
    cases i with
    | zero => simp at h; subst h; exact ⟨rfl, rfl⟩
    | succ i =>
      simp at h
      have := ih h
      rw [labL_cons, show (i + 1) * 2 = i * 2 + 1 + 1 by omega]
      simpa using this
theorem labL_ext {l : List LV} {cs : List Value} (hl : cs.length = l.length * 2) (h : ∀ i r, l[i]? = some r → cs[i * 2]? = some (.int .i64 r.k) ∧ cs[i * 2 + 1]? = some (.int .i64 r.v)) : cs = labL l := by
  apply List.ext_getElem?
  intro j
  rcases Nat.lt_or_ge (j / 2) l.length with hj | hj
  · obtain ⟨r, hr⟩ : ∃ r, l[j / 2]? = some r := ⟨_, List.getElem?_eq_getElem hj⟩
    obtain ⟨a1, a2⟩ := h _ _ hr
    obtain ⟨b1, b2⟩ := labL_at hr
    rcases Nat.mod_two_eq_zero_or_one j with e | e
    · have : j / 2 * 2 = j := by omega
      rw [this] at a1 b1; rw [a1, b1]
    · have : j / 2 * 2 + 1 = j := by omega
      rw [this] at a2 b2; rw [a2, b2]
  · rw [List.getElem?_eq_none (by omega), List.getElem?_eq_none (by rw [labL_len]; omega)]
theorem LabAt.of_block {w : World} {g : Nat} {t : TypeId} {l : List LV} {cs : Array Value} (h : BlockIs w g t cs) (hc : ∀ (j : Nat) (u : Value), (labL l)[j]? = some u → cs[j]? = some u) : LabAt w g 0 l := fun i r hr => by
  obtain ⟨h1, h2⟩ := labL_at hr
  simp only [Nat.zero_add]
  exact ⟨(h.cell _).trans (hc _ _ h1), (h.cell _).trans (hc _ _ h2)⟩
theorem LabAt.of_cells {w : World} {g : Nat} {t : TypeId} {l : List LV} (h : BlockIs w g t (labL l).toArray) : LabAt w g 0 l := LabAt.of_block h (fun j u hu => by simpa using hu)

theorem Tryz.infoLab : (Tryz.prog.info? 110).map (fun i => (i.zero, i.size, i.bytes)) = some (some (.agg #[.int .i64 0, .int .i64 0]), 2, 16) := by kernel_rfl
theorem make_lab (n : Nat) (h : n ≤ 1048576) (w : World) : (Instr.makeSlice 59 (.int .i64 (n : Int)) (.int .i64 (n : Int))).run Tryz.prog w = .ok (.slice (some ⟨w.heap.size, 0, none⟩) n n) (w.alloc (.cells (madeCells #[.int .i64 0, .int .i64 0] (n * 2)) 110)) := by
  obtain ⟨i, hi, hzz⟩ := Option.map_eq_some_iff.1 Tryz.infoLab
  simp only [Prod.mk.injEq] at hzz
  obtain ⟨hz, hs, hb⟩ := hzz
  have := run_make (P := Tryz.prog) w 59 110 i _ Tryz.underlying59 hi hz .i64 .i64 n n (by omega) (Int.le_refl _) (by rw [hb]; omega) (by omega)
  rw [this, hs]
  simp [Value.cells]

def CopyLab (w : World) (g : Nat) (l : List LV) (k : Nat) (wr : World) : Prop := ∃ cs : Array Value, BlockIs wr g 110 cs ∧ cs.size = l.length * 2 ∧
  (∀ i r, i < k → l[i]? = some r → cs[i * 2]? = some (.int .i64 r.k) ∧ cs[i * 2 + 1]? = some (.int .i64 r.v)) ∧ Below w.heap.size w wr
theorem CopyLab.put {w : World} {g : Nat} {l : List LV} {k : Nat} {r : LV} {wr : World} {cs : Array Value} (hs : cs.size = l.length * 2) (hr : l[k]? = some r)
    (hc : ∀ i r, i < k → l[i]? = some r → cs[i * 2]? = some (.int .i64 r.k) ∧ cs[i * 2 + 1]? = some (.int .i64 r.v))
    (hb : BlockIs wr g 110 ((cs.setIfInBounds (k * 2) (.int .i64 r.k)).setIfInBounds (k * 2 + 1) (.int .i64 r.v))) (hB : Below w.heap.size w wr) : CopyLab w g l (k + 1) wr := by
  have hk : k < l.length := (List.getElem?_eq_some_iff.1 hr).1
  refine ⟨_, hb, by simp [hs], fun i r' hi hr' => ?_, hB⟩
  by_cases hik : i = k
  · subst hik
    obtain rfl := Option.some.inj (hr.symm.trans hr')
    refine ⟨?_, ?_⟩ <;> simp [Array.getElem?_setIfInBounds, hs] <;> omega
  · obtain ⟨h1, h2⟩ := hc i r' (by omega) hr'
    refine ⟨?_, ?_⟩
    · rw [Array.getElem?_setIfInBounds_ne (by omega), Array.getElem?_setIfInBounds_ne (by omega)]; exact h1
    · rw [Array.getElem?_setIfInBounds_ne (by omega), Array.getElem?_setIfInBounds_ne (by omega)]; exact h2
def NewLab (w : World) (l : List LV) (e : Ending) (w' : World) : Prop := ∃ g, e = .returned (.slice (some ⟨g, 0, none⟩) l.length l.length) ∧ w.heap.size ≤ g ∧ BlockIs w' g 110 (labL l).toArray ∧ Below w.heap.size w w'
theorem CopyLab.done {w wr : World} {g : Nat} {l : List LV} (h : CopyLab w g l l.length wr) : BlockIs wr g 110 (labL l).toArray := by
  obtain ⟨cs, hb, hs, hc, _⟩ := h
  have : cs = (labL l).toArray := by
    rw [← labL_ext (cs := cs.toList) (by simpa using hs) (fun i r hr => by simpa using hc i r (List.getElem?_eq_some_iff.1 hr).1 hr)]
  rw [← this]; exact hb

set_option maxHeartbeats 1600000 in
theorem toLabS_any (v : Value) (l : List LV) (w : World) (hv : LabSl w v l) (hlen : l.length ≤ 1048576) :
    Calls Tryz.prog 97 #[v] w (NewLab w l) := by
  obtain ⟨A, c, rfl, hA⟩ := hv.form
  have HA := Lib.hid hA
  clear hA hv
  have hmk := make_lab l.length hlen
  go_enter Tryz.func97, Tryz.ntmps97
  go_wp2_with fail
  go_loopw [4] (fun s4 wr => ∃ k : Nat, k ≤ l.length ∧ s4 = .int .i64 k ∧ CopyLab w w.heap.size l k wr) (fun s4 _ => (l.length - intOf s4).toNat)
  case atStart =>
    exact ⟨0, by omega, rfl, _, BlockIs.new _ _ _, size_madeCells _ _, fun i r hi => absurd hi (by omega), (by repeat' (first | exact Below.refl _ _ | refine Below.alloc ?_ ?_ _ | refine Below.setCell ?_ ?_ _ | refine Below.drew ?_ | (apply below_step; assumption) | (simp; done) | (simp; omega) | omega))⟩
  case round =>
    obtain ⟨k, hk, rfl, HC⟩ := hrel
    by_cases hlt : k < l.length
    · obtain ⟨b, off, rfl, hbw, hat⟩ := HA.out (by omega)
      obtain ⟨r, hr⟩ : ∃ r, l[k]? = some r := ⟨_, List.getElem?_eq_getElem hlt⟩
      obtain ⟨cs, hblk, hs, hc, hB⟩ := HC
      obtain ⟨q0, q1⟩ := (hat.below hB hbw) k r hr
      have hzr := hB.size
      have hgl := hblk.lt
      have HR := Lib.hid hr
      have HCC := Lib.hid hc
      have HBL := Lib.hid hblk
      have HSZ := Lib.hid hs
      clear hat hr hc hblk hs
      go_wp2_with fail
      refine (toLab_any r _).mono ?_
      rintro e w3 ⟨rfl, hb3⟩
      have hz3 := hb3.size
      have hB3 := HBL.out.below hb3 hgl
      have hs := HSZ.out
      have u0 : w3.cell? ⟨w.heap.size, k * 2, none⟩ = some (cs[k * 2]'(by omega)) := by rw [hB3.cell]; exact Array.getElem?_eq_getElem (by omega)
      have u1 : w3.cell? ⟨w.heap.size, k * 2 + 1, none⟩ = some (cs[k * 2 + 1]'(by omega)) := by rw [hB3.cell]; exact Array.getElem?_eq_getElem (by omega)
      generalize cs[k * 2]'(by omega) = x0 at u0
      generalize cs[k * 2 + 1]'(by omega) = x1 at u1
      have uf := hB3.frozen
      have HB3 := Lib.hid hB3
      clear hs hB3
      go_wp2_with fail
      go_roundw
      case rel =>
        refine ⟨k + 1, by omega, by go_num, CopyLab.put HSZ.out HR.out HCC.out ?_ (by repeat' (first | exact Below.refl _ _ | refine Below.alloc ?_ ?_ _ | refine Below.setCell ?_ ?_ _ | refine Below.drew ?_ | (apply below_step; assumption) | (simp; done) | (simp; omega) | omega))⟩
        exact (HB3.out.put _ _).put _ _
      case measure => simp [intOf]; omega
    · have hkl : k = l.length := by omega
      subst hkl
      have HD := Lib.hid HC.done
      obtain ⟨cs, hblk, hs, hc, hB⟩ := HC
      have hgl := hblk.lt
      clear hblk hs hc
      go_wp2_with fail
      go_ret
      exact ⟨w.heap.size, rfl, Nat.le_refl _, HD.out, hB⟩

theorem four_keep (X : World) {b0 o0 b1 o1 b2 o2 b3 o3 : Nat} {v0 v1 v2 v3 : Value} (h : X.cell? ⟨b0, o0, none⟩ = some v0 ∧ X.cell? ⟨b1, o1, none⟩ = some v1 ∧ X.cell? ⟨b2, o2, none⟩ = some v2 ∧ X.cell? ⟨b3, o3, none⟩ = some v3) : ∀ w' : World, Below X.heap.size X w' → Below X.heap.size X w' ∧ w'.cell? ⟨b0, o0, none⟩ = some v0 ∧ w'.cell? ⟨b1, o1, none⟩ = some v1 ∧ w'.cell? ⟨b2, o2, none⟩ = some v2 ∧ w'.cell? ⟨b3, o3, none⟩ = some v3 := by
  intro w' hb
  obtain ⟨h0, h1, h2, h3⟩ := h
  refine ⟨hb, ?_, ?_, ?_, ?_⟩
  · exact (hb.cell (p := ⟨b0, o0, none⟩) (World.block_lt_of_cell? _ _ h0)).trans h0
  · exact (hb.cell (p := ⟨b1, o1, none⟩) (World.block_lt_of_cell? _ _ h1)).trans h1
  · exact (hb.cell (p := ⟨b2, o2, none⟩) (World.block_lt_of_cell? _ _ h2)).trans h2
  · exact (hb.cell (p := ⟨b3, o3, none⟩) (World.block_lt_of_cell? _ _ h3)).trans h3

set_option maxHeartbeats 1600000 in
theorem eqLabS_same (v1 v2 : Value) (l : List LV) (w : World) (h1 : LabSl w v1 l) (h2 : LabSl w v2 l) (hlen : l.length ≤ 1048576) :
    Calls Tryz.prog 123 #[v1, v2] w fun e w' => e = .returned (.bool true) ∧ Below w.heap.size w w' := by
  obtain ⟨A, c, rfl, hA⟩ := h1.form
  obtain ⟨A2, c2, rfl, hA2⟩ := h2.form
  have HA := Lib.hid hA
  have HA2 := Lib.hid hA2
  clear hA hA2 h1 h2
  have hnn : ((l.length : Int) != (l.length : Int)) = false := by simp
  go_enter Tryz.func123, Tryz.ntmps123
  go_wp2_with fail
  go_loopw [5] (fun s5 wr => ∃ k : Nat, k ≤ l.length ∧ s5 = .int .i64 k ∧ Below w.heap.size w wr) (fun s5 _ => (l.length - intOf s5).toNat)
  case atStart => exact ⟨0, by omega, rfl, Below.refl _ _⟩
  case round =>
    obtain ⟨k, hk, rfl, hB⟩ := hrel
    have hzr := hB.size
    by_cases hlt : k < l.length
    · obtain ⟨b, off, rfl, hbw, hat⟩ := HA.out (by omega)
      obtain ⟨b2, off2, rfl, hbw2, hat2⟩ := HA2.out (by omega)
      obtain ⟨r, hr⟩ : ∃ r, l[k]? = some r := ⟨_, List.getElem?_eq_getElem hlt⟩
      obtain ⟨q0, q1⟩ := (hat.below hB hbw) k r hr
      obtain ⟨p0, p1⟩ := (hat2.below hB hbw2) k r hr
      have HK := Lib.hid (four_keep wr ⟨q0, q1, p0, p1⟩)
      have hlti : (k : Int) < (l.length : Int) := by omega
      have hk0 : (0 : Int) ≤ (k : Int) := by omega
      clear hat hat2 hr
      go_wp2_with fail
      go_region_held3 (fun w' => Below wr.heap.size wr w' ∧ w'.cell? ⟨b, off + k * 2, none⟩ = some (.int .i64 r.k) ∧ w'.cell? ⟨b, off + k * 2 + 1, none⟩ = some (.int .i64 r.v) ∧ w'.cell? ⟨b2, off2 + k * 2, none⟩ = some (.int .i64 r.k) ∧ w'.cell? ⟨b2, off2 + k * 2 + 1, none⟩ = some (.int .i64 r.v))
        (exact HK.out _ (by repeat' (first | exact Below.refl _ _ | refine Below.alloc ?_ ?_ _ | refine Below.setCell ?_ ?_ _ | refine Below.drew ?_ | (apply below_step; assumption) | (simp; done) | (simp; omega) | omega)))
        (first | (go_at_call 139; refine (eqLab_same r _).mono ?_; rintro e w3 ⟨rfl, hb3⟩; have hz3 := hb3.size; try simp at hz3))
      go_wp2_with fail
      go_roundw
      case rel => exact ⟨k + 1, by omega, by go_num, (by repeat' (first | exact Below.refl _ _ | refine Below.alloc ?_ ?_ _ | refine Below.setCell ?_ ?_ _ | refine Below.drew ?_ | (apply below_step; assumption) | (simp; done) | (simp; omega) | omega))⟩
      case measure => simp [intOf]; omega
    · go_wp2_with fail
      go_ret
      exact ⟨rfl, hB⟩
end Go.Proofs.YtmkpajjnjgnmkabGreatDoor

namespace Go.Proofs.YtmkpajjnjgnmkabGreatDoor
open Go.RowKit

def IntAt (w : World) (b off : Nat) (l : List Int) : Prop := ∀ i r, l[i]? = some r → w.cell? ⟨b, off + i, none⟩ = some (.int .i64 r)
def IntSl (w : World) (v : Value) (l : List Int) : Prop := (l = [] ∧ ∃ A c, v = .slice A 0 c) ∨ ∃ b off c, v = .slice (some ⟨b, off, none⟩) l.length c ∧ b < w.heap.size ∧ IntAt w b off l
theorem IntAt.below {w w' : World} {b off B : Nat} {l : List Int} (h : IntAt w b off l) (hb : Below B w w') (hB : b < B) : IntAt w' b off l := fun i r hr =>
  (hb.cell (p := ⟨b, _, none⟩) hB).trans (h i r hr)
theorem IntSl.below {w w' : World} {v : Value} {l : List Int} (h : IntSl w v l) (hb : Below w.heap.size w w') : IntSl w' v l := by
  rcases h with h | ⟨b, off, c, rfl, hlt, h⟩
  · exact .inl h
  · exact .inr ⟨b, off, c, rfl, Nat.lt_of_lt_of_le hlt hb.size, h.below hb hlt⟩
theorem IntSl.form {w : World} {v : Value} {l : List Int} (h : IntSl w v l) : ∃ A c, v = .slice A l.length c ∧ (0 < l.length → ∃ b off, A = some ⟨b, off, none⟩ ∧ b < w.heap.size ∧ IntAt w b off l) := by
  rcases h with ⟨rfl, A, c, rfl⟩ | ⟨b, off, c, rfl, hlt, h⟩
  · exact ⟨A, c, rfl, fun h => absurd h (by simp)⟩
  · exact ⟨_, c, rfl, fun _ => ⟨b, off, rfl, hlt, h⟩⟩
theorem dropI_at {l : List Int} {k : Nat} {r : Int} (h : l[k]? = some r) : l.drop k = r :: l.drop (k + 1) := by
  obtain ⟨hk, rfl⟩ := List.getElem?_eq_some_iff.1 h
  exact List.drop_eq_getElem_cons hk
theorem IntAt.of_block {w : World} {g : Nat} {t : TypeId} {l : List Int} {cs : Array Value} (h : BlockIs w g t cs) (hc : ∀ (j : Nat) (r : Int), l[j]? = some r → cs[j]? = some (.int .i64 r)) : IntAt w g 0 l := fun i r hr => by
  simp only [Nat.zero_add]
  exact (h.cell _).trans (hc _ _ hr)

theorem Tryz.infoI : (Tryz.prog.info? 3).map (fun i => (i.zero, i.size, i.bytes)) = some (some (.int .i64 0), 1, 8) := by kernel_rfl
theorem make_int (n : Nat) (h : n ≤ 1048576) (w : World) : (Instr.makeSlice 26 (.int .i64 (n : Int)) (.int .i64 (n : Int))).run Tryz.prog w = .ok (.slice (some ⟨w.heap.size, 0, none⟩) n n) (w.alloc (.cells (madeCells #[.int .i64 0] n) 3)) := by
  obtain ⟨i, hi, hzz⟩ := Option.map_eq_some_iff.1 Tryz.infoI
  simp only [Prod.mk.injEq] at hzz
  obtain ⟨hz, hs, hb⟩ := hzz
  have := run_make (P := Tryz.prog) w 26 3 i _ Tryz.underlying26 hi hz .i64 .i64 n n (by omega) (Int.le_refl _) (by rw [hb]; omega) (by omega)
  rw [this, hs]
  simp [Value.cells]

def CopyInt (w : World) (g : Nat) (l : List Int) (k : Nat) (wr : World) : Prop := ∃ cs : Array Value, BlockIs wr g 3 cs ∧ cs.size = l.length ∧
  (∀ i r, i < k → l[i]? = some r → cs[i]? = some (.int .i64 r)) ∧ Below w.heap.size w wr
theorem CopyInt.put {w : World} {g : Nat} {l : List Int} {k : Nat} {r : Int} {wr : World} {cs : Array Value} (hs : cs.size = l.length) (hr : l[k]? = some r)
    (hc : ∀ i r, i < k → l[i]? = some r → cs[i]? = some (.int .i64 r))
    (hb : BlockIs wr g 3 (cs.setIfInBounds k (.int .i64 r))) (hB : Below w.heap.size w wr) : CopyInt w g l (k + 1) wr := by
  have hk : k < l.length := (List.getElem?_eq_some_iff.1 hr).1
  refine ⟨_, hb, by simp [hs], fun i r' hi hr' => ?_, hB⟩
  by_cases hik : i = k
  · subst hik
    obtain rfl := Option.some.inj (hr.symm.trans hr')
    simp [Array.getElem?_setIfInBounds, hs]; omega
  · rw [Array.getElem?_setIfInBounds_ne (by omega)]; exact hc i r' (by omega) hr'
theorem CopyInt.done {w wr : World} {g : Nat} {l : List Int} (h : CopyInt w g l l.length wr) : IntAt wr g 0 l := by
  obtain ⟨cs, hb, hs, hc, _⟩ := h
  exact IntAt.of_block hb (fun j r hr => hc j r (List.getElem?_eq_some_iff.1 hr).1 hr)

set_option maxHeartbeats 1600000 in
theorem eqIntS_same (v1 v2 : Value) (l : List Int) (w : World) (h1 : IntSl w v1 l) (h2 : IntSl w v2 l) (hlen : l.length ≤ 1048576) :
    Calls Tryz.prog 20 #[v1, v2] w fun e w' => e = .returned (.bool true) ∧ Below w.heap.size w w' := by
  obtain ⟨A, c, rfl, hA⟩ := h1.form
  obtain ⟨A2, c2, rfl, hA2⟩ := h2.form
  have HA := Lib.hid hA
  have HA2 := Lib.hid hA2
  clear hA hA2 h1 h2
  have hnn : ((l.length : Int) != (l.length : Int)) = false := by simp
  go_enter Tryz.func20, Tryz.ntmps20
  go_wp2_with fail
  go_loopw [5] (fun s5 wr => ∃ k : Nat, k ≤ l.length ∧ s5 = .int .i64 k ∧ Below w.heap.size w wr) (fun s5 _ => (l.length - intOf s5).toNat)
  case atStart => exact ⟨0, by omega, rfl, Below.refl _ _⟩
  case round =>
    obtain ⟨k, hk, rfl, hB⟩ := hrel
    have hzr := hB.size
    by_cases hlt : k < l.length
    · obtain ⟨b, off, rfl, hbw, hat⟩ := HA.out (by omega)
      obtain ⟨b2, off2, rfl, hbw2, hat2⟩ := HA2.out (by omega)
      obtain ⟨r, hr⟩ : ∃ r, l[k]? = some r := ⟨_, List.getElem?_eq_getElem hlt⟩
      have q0 := (hat.below hB hbw) k r hr
      have p0 := (hat2.below hB hbw2) k r hr
      have hlti : (k : Int) < (l.length : Int) := by omega
      have hk0 : (0 : Int) ≤ (k : Int) := by omega
      have hrr : (r != r) = false := by simp
      clear hat hat2 hr
      go_wp2_with fail
      go_quiet (fail)
      go_wp2_with fail
      go_roundw
      case rel => exact ⟨k + 1, by omega, by go_num, below_drewN hB _⟩
      case measure => simp [intOf]; omega
    · go_wp2_with fail
      go_ret
      exact ⟨rfl, hB⟩

end Go.Proofs.YtmkpajjnjgnmkabGreatDoor

namespace Go.Proofs.YtmkpajjnjgnmkabGreatDoor
open Go.ChangeShapes Go.WideShapes Go.ChangeAt Go.RowKit Go.Joins

section
variable {H : Type} {enc : TypeId × Value → H} {W : World}
set_option maxRecDepth 100000 in
theorem open_intC {fuel : Nat} {v : Value} {x : DataW H × List MemPlace} (hf : DataW.trod enc Tryz.prog W 0 (fun _ => true) true fuel 26 [v] = some x) :
    ∃ A n c, v = .slice A n c ∧ n ≤ maxLen ∧ ∃ l : List Int, l.length = n ∧ IntSl W v l := by
  have cb : Tryz.prog.cellsOf 3 = 1 := by kernel_rfl
  rcases open_ints Tryz.underlying26 Tryz.underlying3 cb hf with ⟨hcs, hx⟩ | ⟨a, n, c, zs, hcs, _, hl, hm, hz, hx, hcell, hwz⟩
  · simp at hcs
    subst hcs
    exact ⟨none, 0, 0, rfl, by unfold maxLen; omega, [], rfl, .inl ⟨rfl, _, _, rfl⟩⟩
  · simp at hcs
    subst hcs
    rw [if_pos rfl] at hz
    refine ⟨_, n, c, rfl, by omega, zs.take n, by rw [List.length_take]; omega, ?_⟩
    rcases Nat.eq_zero_or_pos n with rfl | hp
    · exact .inl ⟨by simp, _, _, rfl⟩
    · obtain ⟨b, off, rfl, hc⟩ := ints_at hcell (by omega)
      refine .inr ⟨b, off, c, by rw [List.length_take, Nat.min_eq_left (by omega)], by simpa using World.block_lt_of_cell? _ _ (hc 0 (by omega)), fun i r hr => ?_⟩
      have hi : i < n := by
        have := (List.getElem?_eq_some_iff.1 hr).1
        rw [List.length_take] at this; omega
      rw [List.getElem?_take_of_lt hi] at hr
      have := hc i (by omega)
      rw [List.getD, hr] at this
      simpa using this
end
end Go.Proofs.YtmkpajjnjgnmkabGreatDoor

namespace Go.Proofs.YtmkpajjnjgnmkabGreatDoor
def sumGo : RV → List RV → RV × Bool
  | s, [] => (s, true)
  | s, r :: l => if resAddOk s r then sumGo (resAdd s r) l else (RV.zero, false)
theorem sumGo_cons_yes {s r : RV} {l : List RV} (h : resAddOk s r = true) : sumGo s (r :: l) = sumGo (resAdd s r) l := by
  rw [sumGo, if_pos h]
theorem sumGo_cons_no {s r : RV} {l : List RV} (h : resAddOk s r = false) : sumGo s (r :: l) = (RV.zero, false) := by
  rw [sumGo, if_neg (by rw [h]; decide)]
end Go.Proofs.YtmkpajjnjgnmkabGreatDoor

namespace Go.Proofs.YtmkpajjnjgnmkabGreatDoor

structure TV where
  id : Int
  prio : Int
  need : RV
  want : List LV
  tols : List Int
structure NV where
  id : Int
  pool : Int
  cap : RV
  labs : List LV
  taints : List Int
  cordon : Bool
structure BV where
  task : Int
  node : Int
structure CV where
  tasks : List TV
  nodes : List NV
  binds : List BV
def TV.zero : TV := ⟨0, 0, RV.zero, [], []⟩
def NV.zero : NV := ⟨0, 0, RV.zero, [], [], false⟩
def BV.zero : BV := ⟨0, 0⟩
def CV.zero : CV := ⟨[], [], []⟩

def idOk (n : Int) : Bool := decide (1 ≤ n ∧ n ≤ 99)
theorem idOk_iff {n : Int} : idOk n = true ↔ 1 ≤ n ∧ n ≤ 99 := by unfold idOk; exact decide_eq_true_iff
theorem idBad_iff {n : Int} : idOk n = false ↔ ¬ (1 ≤ n ∧ n ≤ 99) := by unfold idOk; exact decide_eq_false_iff_not
def TV.ok (t : TV) : Bool := idOk t.id && decide (0 ≤ t.prio) && decide (t.prio ≤ 9) && t.need.ok && labsOk t.want && labsOk (tl t.tols)
def NV.ok (n : NV) : Bool := idOk n.id && decide (0 ≤ n.pool) && decide (n.pool < 5) && n.cap.ok && labsOk n.labs && labsOk (tl n.taints)
theorem TV.ok_id {t : TV} (h : t.ok = true) : 1 ≤ t.id ∧ t.id ≤ 99 := by
  simp only [TV.ok, Bool.and_eq_true] at h; exact idOk_iff.1 h.1.1.1.1.1
theorem NV.ok_id {n : NV} (h : n.ok = true) : 1 ≤ n.id ∧ n.id ≤ 99 := by
  simp only [NV.ok, Bool.and_eq_true] at h; exact idOk_iff.1 h.1.1.1.1.1
def hosts (n : NV) (t : TV) : Bool := matchOf n.labs t.want && tolOf n.taints t.tols
def canHost (n : NV) (t : TV) : Bool := n.ok && t.ok && hosts n t

def fstBy {α : Type} (key : α → Int) : List α → Int → Option α
  | [], _ => none
  | x :: r, z => if key x = z then some x else fstBy key r z
def idxGo {α : Type} (key : α → Int) : Int → List α → Int → Int
  | _, [], _ => -1
  | k, x :: r, z => if key x = z then k else idxGo key (k + 1) r z
def idxBy {α : Type} (key : α → Int) (l : List α) (z : Int) : Int := idxGo key 0 l z
section
variable {α : Type} {key : α → Int} {l : List α} {z : Int}
theorem fstBy_hit {x : α} {r : List α} (h : key x = z) : fstBy key (x :: r) z = some x := by rw [fstBy, if_pos h]
theorem fstBy_miss {x : α} {r : List α} (h : key x ≠ z) : fstBy key (x :: r) z = fstBy key r z := by rw [fstBy, if_neg h]
theorem idxGo_hit {k : Int} {x : α} {r : List α} (h : key x = z) : idxGo key k (x :: r) z = k := by rw [idxGo, if_pos h]
theorem idxGo_miss {k : Int} {x : α} {r : List α} (h : key x ≠ z) : idxGo key k (x :: r) z = idxGo key (k + 1) r z := by rw [idxGo, if_neg h]
theorem idxGo_none (k : Int) (h : fstBy key l z = none) : idxGo key k l z = -1 := by
  induction l generalizing k with
  | nil => rfl
  | cons x r ih =>
    by_cases e : key x = z
    · rw [fstBy_hit e] at h; cases h
    · rw [fstBy_miss e] at h; rw [idxGo_miss e]; exact ih _ h
theorem idxGo_some (k : Int) {x : α} (h : fstBy key l z = some x) : ∃ j : Nat, idxGo key k l z = k + j ∧ l[j]? = some x ∧ key x = z ∧ ∀ i y, i < j → l[i]? = some y → key y ≠ z := by
  induction l generalizing k with
  | nil => cases h
  | cons y r ih =>
    by_cases e : key y = z
    · rw [fstBy_hit e] at h
      obtain rfl := Option.some.inj h
      exact ⟨0, by rw [idxGo_hit e]; simp, rfl, e, fun i _ hi => absurd hi (by omega)⟩
    · rw [fstBy_miss e] at h
      obtain ⟨j, h1, h2, h3, h4⟩ := ih (k + 1) h
      refine ⟨j + 1, by rw [idxGo_miss e, h1]; omega, by simpa using h2, h3, fun i y' hi hy => ?_⟩
      cases i with
      | zero => simp at hy; subst hy; exact e
      | succ i => exact h4 i y' (by omega) (by simpa using hy)
theorem idxBy_none (h : fstBy key l z = none) : idxBy key l z = -1 := idxGo_none 0 h
theorem idxBy_some {x : α} (h : fstBy key l z = some x) : ∃ j : Nat, idxBy key l z = j ∧ l[j]? = some x ∧ key x = z ∧ ∀ i y, i < j → l[i]? = some y → key y ≠ z := by
  obtain ⟨j, h1, h2⟩ := idxGo_some 0 h
  exact ⟨j, by unfold idxBy; rw [h1]; omega, h2⟩
theorem fstBy_key {x : α} (h : fstBy key l z = some x) : key x = z := (idxBy_some h).choose_spec.2.2.1
theorem fstBy_mem {x : α} (h : fstBy key l z = some x) : x ∈ l := List.mem_of_getElem? (idxBy_some h).choose_spec.2.1
theorem fstBy_none : fstBy key l z = none ↔ ∀ x ∈ l, key x ≠ z := by
  induction l with
  | nil => simp [fstBy]
  | cons x r ih =>
    by_cases e : key x = z
    · rw [fstBy_hit e]; simp [e]
    · rw [fstBy_miss e, ih]; simp [e]
theorem fstBy_isSome : (∃ x ∈ l, key x = z) → ∃ x, fstBy key l z = some x := by
  rintro ⟨x, hx, e⟩
  cases h : fstBy key l z with
  | none => exact absurd e (fstBy_none.1 h x hx)
  | some y => exact ⟨y, rfl⟩
theorem idxBy_at {k : Nat} {x : α} (h : l[k]? = some x) : idxBy key l (key x) = k ↔ ∀ y ∈ l.take k, key y ≠ key x := by
  obtain ⟨y, hy⟩ := fstBy_isSome (key := key) ⟨x, List.mem_of_getElem? h, rfl⟩
  obtain ⟨j, e, h2, h3, h4⟩ := idxBy_some hy
  have hj : j < l.length := (List.getElem?_eq_some_iff.1 h2).1
  rw [e]
  constructor
  · intro hjk y' hy'
    obtain ⟨i, hi⟩ := List.mem_iff_getElem?.1 hy'
    have hik : i < k := by
      have := (List.getElem?_eq_some_iff.1 hi).1
      rw [List.length_take] at this; omega
    rw [List.getElem?_take_of_lt hik] at hi
    exact h4 i y' (by omega) hi
  · intro hall
    rcases Nat.lt_trichotomy j k with hlt | heq | hgt
    · exact absurd h3 (hall y (List.mem_iff_getElem?.2 ⟨j, by rw [List.getElem?_take_of_lt hlt]; exact h2⟩))
    · omega
    · exact absurd rfl (h4 k x hgt h)
end

def tasksFrom : List Int → List TV → Bool
  | _, [] => true
  | s, t :: r => t.ok && !(s.contains t.id) && tasksFrom (t.id :: s) r
def nodesFrom : Int → List NV → Bool
  | _, [] => true
  | p, n :: r => n.ok && decide (p < n.id) && nodesFrom n.id r
def bindOk (c : CV) (b : BV) : Bool :=
  match fstBy TV.id c.tasks b.task, fstBy NV.id c.nodes b.node with
  | some t, some n => canHost n t
  | _, _ => false
def bindsFrom (c : CV) : Int → List BV → Bool
  | _, [] => true
  | p, b :: r => decide (p < b.task) && bindOk c b && bindsFrom c b.task r
theorem tasksFrom_yes {s : List Int} {t : TV} {r : List TV} (h : t.ok = true) (hs : s.contains t.id = false) : tasksFrom s (t :: r) = tasksFrom (t.id :: s) r := by
  simp only [tasksFrom, h, hs]; rfl
theorem tasksFrom_bad {s : List Int} {t : TV} {r : List TV} (h : t.ok = false) : tasksFrom s (t :: r) = false := by simp [tasksFrom, h]
theorem tasksFrom_twice {s : List Int} {t : TV} {r : List TV} (h : s.contains t.id = true) : tasksFrom s (t :: r) = false := by simp only [tasksFrom, h]; simp
theorem nodesFrom_yes {p : Int} {n : NV} {r : List NV} (h : n.ok = true) (hp : p < n.id) : nodesFrom p (n :: r) = nodesFrom n.id r := by simp [nodesFrom, h, hp]
theorem nodesFrom_bad {p : Int} {n : NV} {r : List NV} (h : n.ok = false) : nodesFrom p (n :: r) = false := by simp [nodesFrom, h]
theorem nodesFrom_low {p : Int} {n : NV} {r : List NV} (h : n.id ≤ p) : nodesFrom p (n :: r) = false := by
  have : ¬ p < n.id := by omega
  simp [nodesFrom, this]
theorem bindsFrom_yes {c : CV} {p : Int} {b : BV} {r : List BV} (h : bindOk c b = true) (hp : p < b.task) : bindsFrom c p (b :: r) = bindsFrom c b.task r := by simp [bindsFrom, h, hp]
theorem bindsFrom_bad {c : CV} {p : Int} {b : BV} {r : List BV} (h : bindOk c b = false) : bindsFrom c p (b :: r) = false := by simp [bindsFrom, h]
theorem bindsFrom_low {c : CV} {p : Int} {b : BV} {r : List BV} (h : b.task ≤ p) : bindsFrom c p (b :: r) = false := by
  have : ¬ p < b.task := by omega
  simp [bindsFrom, this]

def needOf (c : CV) (z : Int) : RV := ((fstBy TV.id c.tasks z).getD TV.zero).need
def needsIn (c : CV) (n : Int) : List BV → List RV
  | [] => []
  | b :: r => if b.node = n then needOf c b.task :: needsIn c n r else needsIn c n r
def usedOf (c : CV) (n : Int) : RV × Bool := sumGo RV.zero (needsIn c n c.binds)
def freeOf (c : CV) (n : NV) : RV × Bool := if (usedOf c n.id).2 then (resSub n.cap (usedOf c n.id).1, resSubOk n.cap (usedOf c n.id).1) else (RV.zero, false)
def fitsAll (c : CV) : List NV → Bool
  | [] => true
  | n :: r => (freeOf c n).2 && fitsAll c r
def tasksOk (l : List TV) : Bool := decide (l.length ≤ 30) && tasksFrom [] l
def nodesOk (l : List NV) : Bool := decide (l.length ≤ 20) && nodesFrom 0 l
def clusterOk (c : CV) : Bool := tasksOk c.tasks && nodesOk c.nodes && bindsFrom c 0 c.binds && fitsAll c c.nodes
theorem needsIn_len (c : CV) (n : Int) (l : List BV) : (needsIn c n l).length ≤ l.length := by
  induction l with
  | nil => simp [needsIn]
  | cons b r ih => unfold needsIn; split <;> simp <;> omega
theorem needsIn_yes {c : CV} {n : Int} {b : BV} {r : List BV} (h : b.node = n) : needsIn c n (b :: r) = needOf c b.task :: needsIn c n r := by rw [needsIn, if_pos h]
theorem needsIn_no {c : CV} {n : Int} {b : BV} {r : List BV} (h : b.node ≠ n) : needsIn c n (b :: r) = needsIn c n r := by rw [needsIn, if_neg h]
theorem needsIn_append (c : CV) (n : Int) (a b : List BV) : needsIn c n (a ++ b) = needsIn c n a ++ needsIn c n b := by
  induction a with
  | nil => rfl
  | cons x r ih => simp only [List.cons_append, needsIn, ih]; split <;> rfl
end Go.Proofs.YtmkpajjnjgnmkabGreatDoor

namespace Go.Proofs.YtmkpajjnjgnmkabGreatDoor
open Go.ChangeShapes Go.WideShapes Go.ChangeAt Go.RowKit Go.Joins

section
variable {H : Type} {enc : TypeId × Value → H} {W : World} {P : Program} {base : Nat} {spare : Nat → Bool} {held : Bool}
theorem trod_struct5 {t : TypeId} {f0 f1 f2 f3 f4 : Field} {fuel : Nat} {cs : List Value} {x : DataW H × List MemPlace} (ht : P.underlying t = some (.struct #[f0, f1, f2, f3, f4])) (h : DataW.trod enc P W base spare held fuel t cs = some x) :
    ∃ y0 y1 y2 y3 y4 n, cs.length = P.cellsOf t ∧ DataW.trod enc P W base spare held n f0.type ((cs.drop f0.offset).take (P.cellsOf f0.type)) = some y0 ∧
      DataW.trod enc P W base spare held n f1.type ((cs.drop f1.offset).take (P.cellsOf f1.type)) = some y1 ∧ DataW.trod enc P W base spare held n f2.type ((cs.drop f2.offset).take (P.cellsOf f2.type)) = some y2 ∧
      DataW.trod enc P W base spare held n f3.type ((cs.drop f3.offset).take (P.cellsOf f3.type)) = some y3 ∧ DataW.trod enc P W base spare held n f4.type ((cs.drop f4.offset).take (P.cellsOf f4.type)) = some y4 := by
  obtain ⟨xs, n, _, rfl, hl, hlen, hf⟩ := DataW.trod_struct ht h
  match xs, hlen with
  | [y0, y1, y2, y3, y4], _ => exact ⟨y0, y1, y2, y3, y4, n, hl, by simpa using hf 0 f0 rfl, by simpa using hf 1 f1 rfl, by simpa using hf 2 f2 rfl, by simpa using hf 3 f3 rfl, by simpa using hf 4 f4 rfl⟩
theorem trod_struct6 {t : TypeId} {f0 f1 f2 f3 f4 f5 : Field} {fuel : Nat} {cs : List Value} {x : DataW H × List MemPlace} (ht : P.underlying t = some (.struct #[f0, f1, f2, f3, f4, f5])) (h : DataW.trod enc P W base spare held fuel t cs = some x) :
    ∃ y0 y1 y2 y3 y4 y5 n, cs.length = P.cellsOf t ∧ DataW.trod enc P W base spare held n f0.type ((cs.drop f0.offset).take (P.cellsOf f0.type)) = some y0 ∧
      DataW.trod enc P W base spare held n f1.type ((cs.drop f1.offset).take (P.cellsOf f1.type)) = some y1 ∧ DataW.trod enc P W base spare held n f2.type ((cs.drop f2.offset).take (P.cellsOf f2.type)) = some y2 ∧
      DataW.trod enc P W base spare held n f3.type ((cs.drop f3.offset).take (P.cellsOf f3.type)) = some y3 ∧ DataW.trod enc P W base spare held n f4.type ((cs.drop f4.offset).take (P.cellsOf f4.type)) = some y4 ∧
      DataW.trod enc P W base spare held n f5.type ((cs.drop f5.offset).take (P.cellsOf f5.type)) = some y5 := by
  obtain ⟨xs, n, _, rfl, hl, hlen, hf⟩ := DataW.trod_struct ht h
  match xs, hlen with
  | [y0, y1, y2, y3, y4, y5], _ => exact ⟨y0, y1, y2, y3, y4, y5, n, hl, by simpa using hf 0 f0 rfl, by simpa using hf 1 f1 rfl, by simpa using hf 2 f2 rfl, by simpa using hf 3 f3 rfl, by simpa using hf 4 f4 rfl, by simpa using hf 5 f5 rfl⟩
theorem list8 {α : Type} {l : List α} (h : l.length = 8) : ∃ a b c d e f g i, l = [a, b, c, d, e, f, g, i] := by
  match l, h with
  | [a, b, c, d, e, f, g, i], _ => exact ⟨a, b, c, d, e, f, g, i, rfl⟩
end

section
variable {H : Type} {enc : TypeId × Value → H} {W : World}
theorem Tryz.c_int : Tryz.prog.cellsOf 3 = 1 := by kernel_rfl
theorem Tryz.c_res : Tryz.prog.cellsOf 50 = 3 := by kernel_rfl
theorem Tryz.c_labs : Tryz.prog.cellsOf 51 = 1 := by kernel_rfl
theorem Tryz.c_ints : Tryz.prog.cellsOf 26 = 1 := by kernel_rfl
theorem Tryz.c_bool : Tryz.prog.cellsOf 4 = 1 := by kernel_rfl
theorem Tryz.c_node : Tryz.prog.cellsOf 53 = 8 := by kernel_rfl
set_option maxRecDepth 100000 in
theorem open_nodeC {fuel : Nat} {cs : List Value} {x : DataW H × List MemPlace} (h : DataW.trod enc Tryz.prog W 0 (fun _ => true) true fuel 53 cs = some x) :
    ∃ (t : NV) (v1 v2 : Value), cs = [.int .i64 t.id, .int .i64 t.pool, .int .i64 t.cap.c, .int .i64 t.cap.m, .int .i64 t.cap.p, v1, v2, .bool t.cordon] ∧ LabSl W v1 t.labs ∧ IntSl W v2 t.taints ∧ t.labs.length ≤ maxLen ∧ t.taints.length ≤ maxLen := by
  obtain ⟨y0, y1, y2, y3, y4, y5, n, hl, h0, h1, h2, h3, h4, h5⟩ := trod_struct6 Tryz.underlying53 h
  rw [Tryz.c_node] at hl
  obtain ⟨a, b, c, d, e, f, g, i, rfl⟩ := list8 hl
  simp only [Tryz.c_int, Tryz.c_res, Tryz.c_labs, Tryz.c_ints, Tryz.c_bool] at h0 h1 h2 h3 h4 h5
  simp at h0 h1 h2 h3 h4 h5
  obtain ⟨z0, e0, _, _⟩ := DataW.trod_int Tryz.underlying3 h0
  obtain ⟨z1, e1, _, _⟩ := DataW.trod_int Tryz.underlying3 h1
  obtain ⟨r0, r1, r2, m, _, _, g0, g1, g2⟩ := Go.Deep.trod_struct3 Tryz.underlying50 h2
  simp only [Tryz.c_int] at g0 g1 g2
  simp at g0 g1 g2
  obtain ⟨z2, e2, _, _⟩ := DataW.trod_int Tryz.underlying3 g0
  obtain ⟨z3, e3, _, _⟩ := DataW.trod_int Tryz.underlying3 g1
  obtain ⟨z4, e4, _, _⟩ := DataW.trod_int Tryz.underlying3 g2
  obtain ⟨z5, e5, _⟩ := DataW.trod_bool Tryz.underlying4 h5
  simp at e0 e1 e2 e3 e4 e5
  subst e0 e1 e2 e3 e4 e5
  obtain ⟨A1, n1, c1, _, hn1, l1, hl1, hs1⟩ := open_labC h3
  obtain ⟨A2, n2, c2, _, hn2, l2, hl2, hs2⟩ := open_intC h4
  exact ⟨⟨z0, z1, ⟨z2, z3, z4⟩, l1, l2, z5⟩, f, g, rfl, hs1, hs2, by simp only []; omega, by simp only []; omega⟩
end
end Go.Proofs.YtmkpajjnjgnmkabGreatDoor

namespace Go.Proofs.YtmkpajjnjgnmkabGreatDoor
open Go.RowKit

def CellsAt (w : World) (b o : Nat) (cs : List Value) : Prop := ∀ (j : Nat) (u : Value), cs[j]? = some u → w.cell? ⟨b, o + j, none⟩ = some u
theorem CellsAt.below {w w' : World} {b o B : Nat} {cs : List Value} (h : CellsAt w b o cs) (hb : Below B w w') (hB : b < B) : CellsAt w' b o cs := fun j u hu => (hb.cell (p := ⟨b, _, none⟩) hB).trans (h j u hu)
theorem CellsAt.of_block {w : World} {g o : Nat} {t : TypeId} {cs : List Value} {ds : Array Value} (h : BlockIs w g t ds) (hc : ∀ (j : Nat) (u : Value), cs[j]? = some u → ds[o + j]? = some u) : CellsAt w g o cs := fun j u hu => (h.cell _).trans (hc j u hu)

section
variable {α : Type} {R S : World → α → List Value → Prop} {n : Nat} {w w' : World} {v : Value} {l : List α}
def Kept (R : World → α → List Value → Prop) : Prop := ∀ (w w' : World) (x : α) (cs : List Value), Below w.heap.size w w' → R w x cs → R w' x cs
def SeqAt (R : World → α → List Value → Prop) (n : Nat) (w : World) (b off : Nat) (l : List α) : Prop := ∀ (i : Nat) (x : α), l[i]? = some x → ∃ cs, R w x cs ∧ CellsAt w b (off + i * n) cs
def GSl (R : World → α → List Value → Prop) (n : Nat) (w : World) (v : Value) (l : List α) : Prop := (l = [] ∧ ∃ A c, v = .slice A 0 c) ∨ ∃ b off c, v = .slice (some ⟨b, off, none⟩) l.length c ∧ b < w.heap.size ∧ SeqAt R n w b off l
theorem SeqAt.below (hR : Kept R) {b off : Nat} (h : SeqAt R n w b off l) (hb : Below w.heap.size w w') (hB : b < w.heap.size) : SeqAt R n w' b off l := fun i x hx => by
  obtain ⟨cs, h1, h2⟩ := h i x hx
  exact ⟨cs, hR _ _ _ _ hb h1, h2.below hb hB⟩
theorem GSl.below (hR : Kept R) (h : GSl R n w v l) (hb : Below w.heap.size w w') : GSl R n w' v l := by
  rcases h with h | ⟨b, off, c, rfl, hlt, h⟩
  · exact .inl h
  · exact .inr ⟨b, off, c, rfl, Nat.lt_of_lt_of_le hlt hb.size, h.below hR hb hlt⟩
theorem GSl.form (h : GSl R n w v l) : ∃ A c, v = .slice A l.length c ∧ (0 < l.length → ∃ b off, A = some ⟨b, off, none⟩ ∧ b < w.heap.size ∧ SeqAt R n w b off l) := by
  rcases h with ⟨rfl, A, c, rfl⟩ | ⟨b, off, c, rfl, hlt, h⟩
  · exact ⟨A, c, rfl, fun h => absurd h (by simp)⟩
  · exact ⟨_, c, rfl, fun _ => ⟨b, off, rfl, hlt, h⟩⟩
theorem GSl.nil (R : World → α → List Value → Prop) (n : Nat) (w : World) (A : Option Addr) (c : Nat) : GSl R n w (.slice A 0 c) [] := .inl ⟨rfl, A, c, rfl⟩
end

def TaskR (w : World) (t : TV) (cs : List Value) : Prop := ∃ v1 v2, cs = [.int .i64 t.id, .int .i64 t.prio, .int .i64 t.need.c, .int .i64 t.need.m, .int .i64 t.need.p, v1, v2] ∧ LabSl w v1 t.want ∧ IntSl w v2 t.tols ∧ t.want.length ≤ 1048576 ∧ t.tols.length ≤ 1048576
def NodeR (w : World) (t : NV) (cs : List Value) : Prop := ∃ v1 v2, cs = [.int .i64 t.id, .int .i64 t.pool, .int .i64 t.cap.c, .int .i64 t.cap.m, .int .i64 t.cap.p, v1, v2, .bool t.cordon] ∧ LabSl w v1 t.labs ∧ IntSl w v2 t.taints ∧ t.labs.length ≤ 1048576 ∧ t.taints.length ≤ 1048576
def BindR (_ : World) (t : BV) (cs : List Value) : Prop := cs = [.int .i64 t.task, .int .i64 t.node]
theorem TaskR.kept : Kept TaskR := fun _ _ _ _ hb ⟨v1, v2, e, h1, h2, h3⟩ => ⟨v1, v2, e, h1.below hb, h2.below hb, h3⟩
theorem NodeR.kept : Kept NodeR := fun _ _ _ _ hb ⟨v1, v2, e, h1, h2, h3⟩ => ⟨v1, v2, e, h1.below hb, h2.below hb, h3⟩
theorem BindR.kept : Kept BindR := fun _ _ _ _ _ h => h
theorem TaskR.zero (w : World) : TaskR w TV.zero [.int .i64 0, .int .i64 0, .int .i64 0, .int .i64 0, .int .i64 0, .slice none 0 0, .slice none 0 0] := ⟨_, _, rfl, .inl ⟨rfl, _, _, rfl⟩, .inl ⟨rfl, _, _, rfl⟩, by simp [TV.zero], by simp [TV.zero]⟩
theorem NodeR.zero (w : World) : NodeR w NV.zero [.int .i64 0, .int .i64 0, .int .i64 0, .int .i64 0, .int .i64 0, .slice none 0 0, .slice none 0 0, .bool false] := ⟨_, _, rfl, .inl ⟨rfl, _, _, rfl⟩, .inl ⟨rfl, _, _, rfl⟩, by simp [NV.zero], by simp [NV.zero]⟩
theorem BindR.zero (w : World) : BindR w BV.zero [.int .i64 0, .int .i64 0] := rfl
def TaskSl (w : World) (v : Value) (l : List TV) : Prop := GSl TaskR 7 w v l
theorem TaskSl.below {w w' : World} {v : Value} {l : List TV} (h : TaskSl w v l) (hb : Below w.heap.size w w') : TaskSl w' v l := GSl.below TaskR.kept h hb
theorem TaskSl.form {w : World} {v : Value} {l : List TV} (h : TaskSl w v l) : ∃ A c, v = .slice A l.length c ∧ (0 < l.length → ∃ b off, A = some ⟨b, off, none⟩ ∧ b < w.heap.size ∧ SeqAt TaskR 7 w b off l) := GSl.form h
def RetFTask (w0 w : World) (o : Option TV) (e : Ending) (w' : World) : Prop := ∃ cs : List Value, e = .returned (.tuple #[.agg cs.toArray, .bool o.isSome]) ∧ TaskR w0 (o.getD TV.zero) cs ∧ Below w.heap.size w w'
def NodeSl (w : World) (v : Value) (l : List NV) : Prop := GSl NodeR 8 w v l
theorem NodeSl.below {w w' : World} {v : Value} {l : List NV} (h : NodeSl w v l) (hb : Below w.heap.size w w') : NodeSl w' v l := GSl.below NodeR.kept h hb
theorem NodeSl.form {w : World} {v : Value} {l : List NV} (h : NodeSl w v l) : ∃ A c, v = .slice A l.length c ∧ (0 < l.length → ∃ b off, A = some ⟨b, off, none⟩ ∧ b < w.heap.size ∧ SeqAt NodeR 8 w b off l) := GSl.form h
def RetFNode (w0 w : World) (o : Option NV) (e : Ending) (w' : World) : Prop := ∃ cs : List Value, e = .returned (.tuple #[.agg cs.toArray, .bool o.isSome]) ∧ NodeR w0 (o.getD NV.zero) cs ∧ Below w.heap.size w w'
def BindSl (w : World) (v : Value) (l : List BV) : Prop := GSl BindR 2 w v l
theorem BindSl.below {w w' : World} {v : Value} {l : List BV} (h : BindSl w v l) (hb : Below w.heap.size w w') : BindSl w' v l := GSl.below BindR.kept h hb
theorem BindSl.form {w : World} {v : Value} {l : List BV} (h : BindSl w v l) : ∃ A c, v = .slice A l.length c ∧ (0 < l.length → ∃ b off, A = some ⟨b, off, none⟩ ∧ b < w.heap.size ∧ SeqAt BindR 2 w b off l) := GSl.form h
theorem task_cells {w : World} {b o : Nat} {u0 u1 u2 u3 u4 u5 u6 : Value} (h : CellsAt w b o [u0, u1, u2, u3, u4, u5, u6]) : w.cell? ⟨b, o, none⟩ = some u0 ∧ w.cell? ⟨b, o + 1, none⟩ = some u1 ∧ w.cell? ⟨b, o + 2, none⟩ = some u2 ∧ w.cell? ⟨b, o + 3, none⟩ = some u3 ∧ w.cell? ⟨b, o + 4, none⟩ = some u4 ∧ w.cell? ⟨b, o + 5, none⟩ = some u5 ∧ w.cell? ⟨b, o + 6, none⟩ = some u6 :=
  ⟨h 0 _ rfl, h 1 _ rfl, h 2 _ rfl, h 3 _ rfl, h 4 _ rfl, h 5 _ rfl, h 6 _ rfl⟩
theorem node_cells {w : World} {b o : Nat} {u0 u1 u2 u3 u4 u5 u6 u7 : Value} (h : CellsAt w b o [u0, u1, u2, u3, u4, u5, u6, u7]) : w.cell? ⟨b, o, none⟩ = some u0 ∧ w.cell? ⟨b, o + 1, none⟩ = some u1 ∧ w.cell? ⟨b, o + 2, none⟩ = some u2 ∧ w.cell? ⟨b, o + 3, none⟩ = some u3 ∧ w.cell? ⟨b, o + 4, none⟩ = some u4 ∧ w.cell? ⟨b, o + 5, none⟩ = some u5 ∧ w.cell? ⟨b, o + 6, none⟩ = some u6 ∧ w.cell? ⟨b, o + 7, none⟩ = some u7 :=
  ⟨h 0 _ rfl, h 1 _ rfl, h 2 _ rfl, h 3 _ rfl, h 4 _ rfl, h 5 _ rfl, h 6 _ rfl, h 7 _ rfl⟩
theorem bind_cells {w : World} {b o : Nat} {u0 u1 : Value} (h : CellsAt w b o [u0, u1]) : w.cell? ⟨b, o, none⟩ = some u0 ∧ w.cell? ⟨b, o + 1, none⟩ = some u1 := ⟨h 0 _ rfl, h 1 _ rfl⟩
end Go.Proofs.YtmkpajjnjgnmkabGreatDoor

namespace Go.Proofs.YtmkpajjnjgnmkabGreatDoor
open Go.RowKit

theorem l01Amount_yes (n : Int) (w : World) (h1 : 0 ≤ n) (h2 : n ≤ 1000000) :
    Calls Tryz.prog 140 #[.int .i64 n] w fun e w' => e = .returned (.bool true) ∧ w = w' := by
  go_enter Tryz.func140, Tryz.ntmps140
  go_wp2
  go_ret
  exact ⟨by simp, rfl⟩
theorem l01Amount_no (n : Int) (w : World) (h : ¬ (0 ≤ n ∧ n ≤ 1000000)) :
    Calls Tryz.prog 140 #[.int .i64 n] w fun e w' => e = .returned (.bool false) ∧ w = w' := by
  by_cases h1 : 0 ≤ n
  · have h2 : 1000000 < n := by omega
    clear h
    go_enter Tryz.func140, Tryz.ntmps140
    go_wp2
    go_ret
    exact ⟨by simp; omega, rfl⟩
  · have h2 : n < 0 := by omega
    clear h h1
    go_enter Tryz.func140, Tryz.ntmps140
    go_wp2
    go_ret
    exact ⟨by simp, rfl⟩

theorem sResOk_any (r : RV) (w : World) :
    Calls Tryz.prog 124 #[.agg #[.int .i64 r.c, .int .i64 r.m, .int .i64 r.p]] w fun e w' => e = .returned (.bool r.ok) ∧ Below w.heap.size w w' := by
  by_cases hc : 0 ≤ r.c ∧ r.c ≤ 1000000
  · by_cases hm : 0 ≤ r.m ∧ r.m ≤ 1000000
    · by_cases hp : 0 ≤ r.p ∧ r.p ≤ 1000000
      · have H := Lib.hid (RV.ok_iff.2 ⟨hc.1, hc.2, hm.1, hm.2, hp.1, hp.2⟩)
        have HC := Lib.hid hc
        have HM := Lib.hid hm
        have HP := Lib.hid hp
        clear hc hm hp
        go_enter Tryz.func124, Tryz.ntmps124
        go_wp2_with fail
        refine (l01Amount_yes r.c _ HC.out.1 HC.out.2).mono ?_
        rintro e w1 ⟨rfl, rfl⟩
        go_wp2_with fail
        refine (l01Amount_yes r.m _ HM.out.1 HM.out.2).mono ?_
        rintro e w1 ⟨rfl, rfl⟩
        go_wp2_with fail
        refine (l01Amount_yes r.p _ HP.out.1 HP.out.2).mono ?_
        rintro e w1 ⟨rfl, rfl⟩
        go_wp2_with fail
        go_ret
        exact ⟨by rw [H.out]; rfl, (by repeat' (first | exact Below.refl _ _ | refine Below.alloc ?_ ?_ _ | refine Below.setCell ?_ ?_ _ | refine Below.drew ?_ | (apply below_step; assumption) | (simp; done) | (simp; omega) | omega))⟩
      · have H := Lib.hid (RV.bad_iff.2 (fun h => hp ⟨h.2.2.2.2.1, h.2.2.2.2.2⟩))
        have HC := Lib.hid hc
        have HM := Lib.hid hm
        have HP := Lib.hid hp
        clear hc hm hp
        go_enter Tryz.func124, Tryz.ntmps124
        go_wp2_with fail
        refine (l01Amount_yes r.c _ HC.out.1 HC.out.2).mono ?_
        rintro e w1 ⟨rfl, rfl⟩
        go_wp2_with fail
        refine (l01Amount_yes r.m _ HM.out.1 HM.out.2).mono ?_
        rintro e w1 ⟨rfl, rfl⟩
        go_wp2_with fail
        refine (l01Amount_no r.p _ HP.out).mono ?_
        rintro e w1 ⟨rfl, rfl⟩
        go_wp2_with fail
        go_ret
        exact ⟨by rw [H.out]; rfl, (by repeat' (first | exact Below.refl _ _ | refine Below.alloc ?_ ?_ _ | refine Below.setCell ?_ ?_ _ | refine Below.drew ?_ | (apply below_step; assumption) | (simp; done) | (simp; omega) | omega))⟩
    · have H := Lib.hid (RV.bad_iff.2 (fun h => hm ⟨h.2.2.1, h.2.2.2.1⟩))
      have HC := Lib.hid hc
      have HM := Lib.hid hm
      clear hc hm
      go_enter Tryz.func124, Tryz.ntmps124
      go_wp2_with fail
      refine (l01Amount_yes r.c _ HC.out.1 HC.out.2).mono ?_
      rintro e w1 ⟨rfl, rfl⟩
      go_wp2_with fail
      refine (l01Amount_no r.m _ HM.out).mono ?_
      rintro e w1 ⟨rfl, rfl⟩
      go_wp2_with fail
      go_ret
      exact ⟨by rw [H.out]; rfl, (by repeat' (first | exact Below.refl _ _ | refine Below.alloc ?_ ?_ _ | refine Below.setCell ?_ ?_ _ | refine Below.drew ?_ | (apply below_step; assumption) | (simp; done) | (simp; omega) | omega))⟩
  · have H := Lib.hid (RV.bad_iff.2 (fun h => hc ⟨h.1, h.2.1⟩))
    have HC := Lib.hid hc
    clear hc
    go_enter Tryz.func124, Tryz.ntmps124
    go_wp2_with fail
    refine (l01Amount_no r.c _ HC.out).mono ?_
    rintro e w1 ⟨rfl, rfl⟩
    go_wp2_with fail
    go_ret
    exact ⟨by rw [H.out]; rfl, (by repeat' (first | exact Below.refl _ _ | refine Below.alloc ?_ ?_ _ | refine Below.setCell ?_ ?_ _ | refine Below.drew ?_ | (apply below_step; assumption) | (simp; done) | (simp; omega) | omega))⟩

theorem toRes_any (r : RV) (w : World) :
    Calls Tryz.prog 96 #[.agg #[.int .i64 r.c, .int .i64 r.m, .int .i64 r.p]] w fun e w' => e = .returned (.agg #[.int .i64 r.c, .int .i64 r.m, .int .i64 r.p]) ∧ Below w.heap.size w w' := by
  go_enter Tryz.func96, Tryz.ntmps96
  go_wp2
  exact bodyPost_ret (v := .agg #[.int .i64 r.c, .int .i64 r.m, .int .i64 r.p]) (by simp [results, Tryz.results96, go_sem]) rfl ⟨rfl, (by repeat' (first | exact Below.refl _ _ | refine Below.alloc ?_ ?_ _ | refine Below.setCell ?_ ?_ _ | refine Below.drew ?_ | (apply below_step; assumption) | (simp; done) | (simp; omega) | omega))⟩
theorem eqRes_same (r : RV) (w : World) :
    Calls Tryz.prog 122 #[.agg #[.int .i64 r.c, .int .i64 r.m, .int .i64 r.p], .agg #[.int .i64 r.c, .int .i64 r.m, .int .i64 r.p]] w fun e w' => e = .returned (.bool true) ∧ Below w.heap.size w w' := by
  have h1 : (r.c != r.c) = false := by simp
  have h2 : (r.m != r.m) = false := by simp
  have h3 : (r.p != r.p) = false := by simp
  go_enter Tryz.func122, Tryz.ntmps122
  go_wp2
  go_ret
  exact ⟨rfl, (by repeat' (first | exact Below.refl _ _ | refine Below.alloc ?_ ?_ _ | refine Below.setCell ?_ ?_ _ | refine Below.drew ?_ | (apply below_step; assumption) | (simp; done) | (simp; omega) | omega))⟩

theorem sResOk_at (a : RV) (b : Bool) (h : a.ok = b) (w : World) : Calls Tryz.prog 124 #[.agg #[.int .i64 a.c, .int .i64 a.m, .int .i64 a.p]] w fun e w' => e = .returned (.bool b) ∧ Below w.heap.size w w' := by
  have := sResOk_any a w; rwa [h] at this

theorem sResAdd_in (a b : RV) (w : World) (ha : a.ok = true) (hb : b.ok = true) :
    Calls Tryz.prog 143 #[.agg #[.int .i64 a.c, .int .i64 a.m, .int .i64 a.p], .agg #[.int .i64 b.c, .int .i64 b.m, .int .i64 b.p]] w (RetR (a.add b).kept (a.add b).ok w) := by
  have hA := RV.ok_iff.1 ha
  have hB := RV.ok_iff.1 hb
  have ra : ∀ w, Calls Tryz.prog 124 #[.agg #[.int .i64 a.c, .int .i64 a.m, .int .i64 a.p]] w fun e w' => e = .returned (.bool true) ∧ Below w.heap.size w w' := fun w => by have := sResOk_any a w; rwa [ha] at this
  have rb : ∀ w, Calls Tryz.prog 124 #[.agg #[.int .i64 b.c, .int .i64 b.m, .int .i64 b.p]] w fun e w' => e = .returned (.bool true) ∧ Below w.heap.size w w' := fun w => by have := sResOk_any b w; rwa [hb] at this
  have RA := Lib.hid ra
  have RB := Lib.hid rb
  clear ha hb ra rb
  obtain ⟨a1, a2, a3, a4, a5, a6⟩ := hA
  obtain ⟨b1, b2, b3, b4, b5, b6⟩ := hB
  cases hs : (a.add b).ok
  all_goals
    have rs : ∀ w, Calls Tryz.prog 124 #[.agg #[.int .i64 (a.add b).c, .int .i64 (a.add b).m, .int .i64 (a.add b).p]] w fun e w' => e = .returned (.bool (a.add b).ok) ∧ Below w.heap.size w w' := fun w => sResOk_any (a.add b) w
    rw [hs] at rs
    have RS := Lib.hid rs
    have HS := Lib.hid hs
    clear rs hs
    go_enter Tryz.func143, Tryz.ntmps143
    go_wp2_with fail
    refine (RA.out _).mono ?_
    rintro e w1 ⟨rfl, hb1⟩
    have hz1 := hb1.size
    simp at hz1
    obtain ⟨hc1, hf1⟩ := bcell hb1
    go_wp2_with fail
    refine (RB.out _).mono ?_
    rintro e w2 ⟨rfl, hb2⟩
    have hz2 := hb2.size
    obtain ⟨hc2, hf2⟩ := bcell hb2
    have hs0 : w.heap.size < w1.heap.size := by omega
    have hs1 : w.heap.size + 1 < w1.heap.size := by omega
    have hs2 : w.heap.size + 1 + 1 < w1.heap.size := by omega
    go_wp2_with fail
    refine (RS.out _).mono ?_
    rintro e w3 ⟨rfl, hb3⟩
    have hz3 := hb3.size
    simp at hz3
    obtain ⟨hc3, hf3⟩ := bcell hb3
    have ht0 : w.heap.size < w2.heap.size := by omega
    have ht1 : w.heap.size + 1 < w2.heap.size := by omega
    have ht2 : w.heap.size + 1 + 1 < w2.heap.size := by omega
    go_wp2_with fail
  · rw [RV.kept_no HS.out]
    refine bodyPost_ret (v := .tuple #[.agg #[.int .i64 RV.zero.c, .int .i64 RV.zero.m, .int .i64 RV.zero.p], .bool false]) (by simp [results, Tryz.results143, go_sem, hc1, hc2, hc3, hs2, ht1, ht2, RV.zero]) rfl ⟨rfl, (by repeat' (first | exact Below.refl _ _ | refine Below.alloc ?_ ?_ _ | refine Below.setCell ?_ ?_ _ | refine Below.drew ?_ | (apply below_step; assumption) | (simp; done) | (simp; omega) | omega))⟩
  · rw [RV.kept_yes HS.out]
    refine bodyPost_ret (v := .tuple #[.agg #[.int .i64 (a.add b).c, .int .i64 (a.add b).m, .int .i64 (a.add b).p], .bool true]) (by simp [results, Tryz.results143, go_sem, hc1, hc2, hc3, hs2, ht1, ht2, RV.add]) rfl ⟨rfl, (by repeat' (first | exact Below.refl _ _ | refine Below.alloc ?_ ?_ _ | refine Below.setCell ?_ ?_ _ | refine Below.drew ?_ | (apply below_step; assumption) | (simp; done) | (simp; omega) | omega))⟩

theorem sResAdd_out1 (a b : RV) (w : World) (ha : a.ok = false) :
    Calls Tryz.prog 143 #[.agg #[.int .i64 a.c, .int .i64 a.m, .int .i64 a.p], .agg #[.int .i64 b.c, .int .i64 b.m, .int .i64 b.p]] w (RetR RV.zero false w) := by
  have HA := Lib.hid ha
  clear ha
  go_enter Tryz.func143, Tryz.ntmps143
  go_wp2_with fail
  refine (sResOk_at a false HA.out _).mono ?_
  rintro e w1 ⟨rfl, hb1⟩
  have hz1 := hb1.size
  simp at hz1
  obtain ⟨hc1, hf1⟩ := bcell hb1
  go_wp2_with fail
  refine bodyPost_ret (v := .tuple #[.agg #[.int .i64 RV.zero.c, .int .i64 RV.zero.m, .int .i64 RV.zero.p], .bool false]) (by simp [results, Tryz.results143, go_sem, hc1, RV.zero]) rfl ⟨rfl, (by repeat' (first | exact Below.refl _ _ | refine Below.alloc ?_ ?_ _ | refine Below.setCell ?_ ?_ _ | refine Below.drew ?_ | (apply below_step; assumption) | (simp; done) | (simp; omega) | omega))⟩

theorem sResAdd_out2 (a b : RV) (w : World) (ha : a.ok = true) (hb : b.ok = false) :
    Calls Tryz.prog 143 #[.agg #[.int .i64 a.c, .int .i64 a.m, .int .i64 a.p], .agg #[.int .i64 b.c, .int .i64 b.m, .int .i64 b.p]] w (RetR RV.zero false w) := by
  have HA := Lib.hid ha
  have HB := Lib.hid hb
  clear ha hb
  go_enter Tryz.func143, Tryz.ntmps143
  go_wp2_with fail
  refine (sResOk_at a true HA.out _).mono ?_
  rintro e w1 ⟨rfl, hb1⟩
  have hz1 := hb1.size
  simp at hz1
  obtain ⟨hc1, hf1⟩ := bcell hb1
  go_wp2_with fail
  refine (sResOk_at b false HB.out _).mono ?_
  rintro e w2 ⟨rfl, hb2⟩
  have hz2 := hb2.size
  obtain ⟨hc2, hf2⟩ := bcell hb2
  have hs2 : w.heap.size + 1 + 1 < w1.heap.size := by omega
  go_wp2_with fail
  refine bodyPost_ret (v := .tuple #[.agg #[.int .i64 RV.zero.c, .int .i64 RV.zero.m, .int .i64 RV.zero.p], .bool false]) (by simp [results, Tryz.results143, go_sem, hc1, hc2, hs2, RV.zero]) rfl ⟨rfl, (by repeat' (first | exact Below.refl _ _ | refine Below.alloc ?_ ?_ _ | refine Below.setCell ?_ ?_ _ | refine Below.drew ?_ | (apply below_step; assumption) | (simp; done) | (simp; omega) | omega))⟩

theorem sResAdd_any (a b : RV) (w : World) : Calls Tryz.prog 143 #[.agg #[.int .i64 a.c, .int .i64 a.m, .int .i64 a.p], .agg #[.int .i64 b.c, .int .i64 b.m, .int .i64 b.p]] w (RetR (resAdd a b) (resAddOk a b) w) := by
  cases ha : a.ok
  · rw [(resAdd_out (.inl ha)).1, (resAdd_out (.inl ha)).2]; exact sResAdd_out1 a b w ha
  · cases hb : b.ok
    · rw [(resAdd_out (.inr hb)).1, (resAdd_out (.inr hb)).2]; exact sResAdd_out2 a b w ha hb
    · rw [(resAdd_in ha hb).1, (resAdd_in ha hb).2]; exact sResAdd_in a b w ha hb
theorem sResFits_any (a b : RV) (w : World) :
    Calls Tryz.prog 93 #[.agg #[.int .i64 a.c, .int .i64 a.m, .int .i64 a.p], .agg #[.int .i64 b.c, .int .i64 b.m, .int .i64 b.p]] w fun e w' => e = .returned (.bool (resSubOk b a)) ∧ Below w.heap.size w w' := by
  cases ha : a.ok
  · have HF := Lib.hid (resSub_out (a := b) (.inr ha)).2
    have HA := Lib.hid ha
    clear ha
    go_enter Tryz.func93, Tryz.ntmps93
    go_wp2_with fail
    refine (sResOk_at a false HA.out _).mono ?_
    rintro e w1 ⟨rfl, hb1⟩
    have hz1 := hb1.size
    simp at hz1
    go_wp2_with fail
    go_ret
    exact ⟨by rw [HF.out]; rfl, (by repeat' (first | exact Below.refl _ _ | refine Below.alloc ?_ ?_ _ | refine Below.setCell ?_ ?_ _ | refine Below.drew ?_ | (apply below_step; assumption) | (simp; done) | (simp; omega) | omega))⟩
  · cases hb : b.ok
    · have HF := Lib.hid (resSub_out (b := a) (.inl hb)).2
      have HA := Lib.hid ha
      have HB := Lib.hid hb
      clear ha hb
      go_enter Tryz.func93, Tryz.ntmps93
      go_wp2_with fail
      refine (sResOk_at a true HA.out _).mono ?_
      rintro e w1 ⟨rfl, hb1⟩
      have hz1 := hb1.size
      simp at hz1
      obtain ⟨hc1, hf1⟩ := bcell hb1
      go_wp2_with fail
      refine (sResOk_at b false HB.out _).mono ?_
      rintro e w2 ⟨rfl, hb2⟩
      have hz2 := hb2.size
      go_wp2_with fail
      go_ret
      exact ⟨by rw [HF.out]; rfl, (by repeat' (first | exact Below.refl _ _ | refine Below.alloc ?_ ?_ _ | refine Below.setCell ?_ ?_ _ | refine Below.drew ?_ | (apply below_step; assumption) | (simp; done) | (simp; omega) | omega))⟩
    · have hi := resSubOk_in ha hb
      have HA := Lib.hid ha
      have HB := Lib.hid hb
      clear ha hb
      have fin : ∀ t, t = (decide (a.c ≤ b.c) && decide (a.m ≤ b.m) && decide (a.p ≤ b.p)) → t = resSubOk b a := by
        intro t ht
        rw [ht, Bool.eq_iff_iff, hi]; simp [and_assoc]
      have HF := Lib.hid fin
      clear fin hi
      by_cases hc : a.c ≤ b.c
      · by_cases hm : a.m ≤ b.m
        · go_enter Tryz.func93, Tryz.ntmps93
          go_wp2_with fail
          refine (sResOk_at a true HA.out _).mono ?_
          rintro e w1 ⟨rfl, hb1⟩
          have hz1 := hb1.size
          simp at hz1
          obtain ⟨hc1, hf1⟩ := bcell hb1
          go_wp2_with fail
          refine (sResOk_at b true HB.out _).mono ?_
          rintro e w2 ⟨rfl, hb2⟩
          have hz2 := hb2.size
          obtain ⟨hc2, hf2⟩ := bcell hb2
          have hs0 : w.heap.size < w1.heap.size := by omega
          have hs1 : w.heap.size + 1 < w1.heap.size := by omega
          go_wp2_with fail
          go_ret
          exact ⟨by rw [← HF.out _ rfl]; simp [hc, hm], (by repeat' (first | exact Below.refl _ _ | refine Below.alloc ?_ ?_ _ | refine Below.setCell ?_ ?_ _ | refine Below.drew ?_ | (apply below_step; assumption) | (simp; done) | (simp; omega) | omega))⟩
        · go_enter Tryz.func93, Tryz.ntmps93
          go_wp2_with fail
          refine (sResOk_at a true HA.out _).mono ?_
          rintro e w1 ⟨rfl, hb1⟩
          have hz1 := hb1.size
          simp at hz1
          obtain ⟨hc1, hf1⟩ := bcell hb1
          go_wp2_with fail
          refine (sResOk_at b true HB.out _).mono ?_
          rintro e w2 ⟨rfl, hb2⟩
          have hz2 := hb2.size
          obtain ⟨hc2, hf2⟩ := bcell hb2
          have hs0 : w.heap.size < w1.heap.size := by omega
          have hs1 : w.heap.size + 1 < w1.heap.size := by omega
          go_wp2_with fail
          go_ret
          exact ⟨by rw [← HF.out _ rfl]; simp; omega, (by repeat' (first | exact Below.refl _ _ | refine Below.alloc ?_ ?_ _ | refine Below.setCell ?_ ?_ _ | refine Below.drew ?_ | (apply below_step; assumption) | (simp; done) | (simp; omega) | omega))⟩
      · go_enter Tryz.func93, Tryz.ntmps93
        go_wp2_with fail
        refine (sResOk_at a true HA.out _).mono ?_
        rintro e w1 ⟨rfl, hb1⟩
        have hz1 := hb1.size
        simp at hz1
        obtain ⟨hc1, hf1⟩ := bcell hb1
        go_wp2_with fail
        refine (sResOk_at b true HB.out _).mono ?_
        rintro e w2 ⟨rfl, hb2⟩
        have hz2 := hb2.size
        obtain ⟨hc2, hf2⟩ := bcell hb2
        have hs0 : w.heap.size < w1.heap.size := by omega
        have hs1 : w.heap.size + 1 < w1.heap.size := by omega
        go_wp2_with fail
        go_ret
        exact ⟨by rw [← HF.out _ rfl]; simp; omega, (by repeat' (first | exact Below.refl _ _ | refine Below.alloc ?_ ?_ _ | refine Below.setCell ?_ ?_ _ | refine Below.drew ?_ | (apply below_step; assumption) | (simp; done) | (simp; omega) | omega))⟩

end Go.Proofs.YtmkpajjnjgnmkabGreatDoor

namespace Go.Proofs.YtmkpajjnjgnmkabGreatDoor
open Go.RowKit

theorem szIntS_yes (A : Option Addr) (n c : Nat) (z : Int) (w : World) (hz : z ≤ 1048576) (h : (n : Int) ≤ z) :
    Calls Tryz.prog 85 #[.slice A n c, .int .i64 z] w fun e w' => e = .returned (.int .i64 (z - n)) ∧ w = w' := by
  go_enter Tryz.func85, Tryz.ntmps85
  go_wp2
  go_ret
  exact ⟨rfl, rfl⟩
theorem szIntS_no (A : Option Addr) (n c : Nat) (z : Int) (w : World) (h0 : 0 ≤ z) (h : z < n) (hm : n ≤ maxLen) :
    Calls Tryz.prog 85 #[.slice A n c, .int .i64 z] w fun e w' => e = .returned (.int .i64 (-1)) ∧ w = w' := by
  unfold maxLen at hm
  go_enter Tryz.func85, Tryz.ntmps85
  go_wp2
  go_ret
  exact ⟨rfl, rfl⟩

def szLeft (z : Int) (n : Nat) : Int := if (n : Int) ≤ z then z - n else -1
def szTV (z : Int) (a b : Nat) : Int := if (a : Int) ≤ z then szLeft (z - a) b else -1

theorem arr7 {α : Type} {cs : Array α} (h : cs.size = 7) : ∃ a b c d e f g, cs = #[a, b, c, d, e, f, g] := by
  obtain ⟨l⟩ := cs
  match l, h with
  | [a, b, c, d, e, f, g], _ => exact ⟨a, b, c, d, e, f, g, rfl⟩
theorem arr8 {α : Type} {cs : Array α} (h : cs.size = 8) : ∃ a b c d e f g i, cs = #[a, b, c, d, e, f, g, i] := by
  obtain ⟨l⟩ := cs
  match l, h with
  | [a, b, c, d, e, f, g, i], _ => exact ⟨a, b, c, d, e, f, g, i, rfl⟩
theorem put7 {w : World} {g : Nat} {t : TypeId} {cs : Array Value} (a0 a1 a2 a3 a4 a5 a6 : Value) (h : BlockIs w g t cs) (hs : cs.size = 7) : BlockIs (((((((w.setCell ⟨g, 0, none⟩ (a0)).setCell ⟨g, 1, none⟩ (a1)).setCell ⟨g, 2, none⟩ (a2)).setCell ⟨g, 3, none⟩ (a3)).setCell ⟨g, 4, none⟩ (a4)).setCell ⟨g, 5, none⟩ (a5)).setCell ⟨g, 6, none⟩ (a6)) g t #[a0, a1, a2, a3, a4, a5, a6] := by
  obtain ⟨b0, b1, b2, b3, b4, b5, b6, rfl⟩ := arr7 hs
  have := ((((((h.put 0 a0).put 1 a1).put 2 a2).put 3 a3).put 4 a4).put 5 a5).put 6 a6
  simpa using this
theorem put8 {w : World} {g : Nat} {t : TypeId} {cs : Array Value} (a0 a1 a2 a3 a4 a5 a6 a7 : Value) (h : BlockIs w g t cs) (hs : cs.size = 8) : BlockIs ((((((((w.setCell ⟨g, 0, none⟩ (a0)).setCell ⟨g, 1, none⟩ (a1)).setCell ⟨g, 2, none⟩ (a2)).setCell ⟨g, 3, none⟩ (a3)).setCell ⟨g, 4, none⟩ (a4)).setCell ⟨g, 5, none⟩ (a5)).setCell ⟨g, 6, none⟩ (a6)).setCell ⟨g, 7, none⟩ (a7)) g t #[a0, a1, a2, a3, a4, a5, a6, a7] := by
  obtain ⟨b0, b1, b2, b3, b4, b5, b6, b7, rfl⟩ := arr8 hs
  have := (((((((h.put 0 a0).put 1 a1).put 2 a2).put 3 a3).put 4 a4).put 5 a5).put 6 a6).put 7 a7
  simpa using this

theorem cell_far {w : World} {b o : Nat} {p : Addr} (h : b ≠ p.block) (u : Value) : (w.setCell p u).cell? ⟨b, o, none⟩ = w.cell? ⟨b, o, none⟩ := by
  have := Below.heap_setCell w p u b h
  simp only [World.cell?, this]
theorem below7 {B : Nat} {a w : World} {g : Nat} {a0 a1 a2 a3 a4 a5 a6 : Value} (h : Below B a w) (hg : B ≤ g) : Below B a (((((((w.setCell ⟨g, 0, none⟩ (a0)).setCell ⟨g, 1, none⟩ (a1)).setCell ⟨g, 2, none⟩ (a2)).setCell ⟨g, 3, none⟩ (a3)).setCell ⟨g, 4, none⟩ (a4)).setCell ⟨g, 5, none⟩ (a5)).setCell ⟨g, 6, none⟩ (a6)) :=
  ((((((h.setCell hg _).setCell hg _).setCell hg _).setCell hg _).setCell hg _).setCell hg _).setCell hg _
theorem IntAt.far {w : World} {b off : Nat} {l : List Int} {p : Addr} (h : IntAt w b off l) (hne : b ≠ p.block) (u : Value) : IntAt (w.setCell p u) b off l := fun i r hr => (cell_far hne _).trans (h i r hr)
theorem far8 {w : World} {g b : Nat} {t : TypeId} {cs : Array Value} {a0 a1 a2 a3 a4 a5 a6 a7 : Value} (h : BlockIs w b t cs) (hne : b ≠ g) : BlockIs ((((((((w.setCell ⟨g, 0, none⟩ (a0)).setCell ⟨g, 1, none⟩ (a1)).setCell ⟨g, 2, none⟩ (a2)).setCell ⟨g, 3, none⟩ (a3)).setCell ⟨g, 4, none⟩ (a4)).setCell ⟨g, 5, none⟩ (a5)).setCell ⟨g, 6, none⟩ (a6)).setCell ⟨g, 7, none⟩ (a7)) b t cs :=
  (((((((h.far hne _).far hne _).far hne _).far hne _).far hne _).far hne _).far hne _).far hne _
theorem below8 {B : Nat} {a w : World} {g : Nat} {a0 a1 a2 a3 a4 a5 a6 a7 : Value} (h : Below B a w) (hg : B ≤ g) : Below B a ((((((((w.setCell ⟨g, 0, none⟩ (a0)).setCell ⟨g, 1, none⟩ (a1)).setCell ⟨g, 2, none⟩ (a2)).setCell ⟨g, 3, none⟩ (a3)).setCell ⟨g, 4, none⟩ (a4)).setCell ⟨g, 5, none⟩ (a5)).setCell ⟨g, 6, none⟩ (a6)).setCell ⟨g, 7, none⟩ (a7)) :=
  (((((((h.setCell hg _).setCell hg _).setCell hg _).setCell hg _).setCell hg _).setCell hg _).setCell hg _).setCell hg _
theorem IntAt.far8 {w : World} {g b off : Nat} {l : List Int} {a0 a1 a2 a3 a4 a5 a6 a7 : Value} (h : IntAt w b off l) (hne : b ≠ g) : IntAt ((((((((w.setCell ⟨g, 0, none⟩ (a0)).setCell ⟨g, 1, none⟩ (a1)).setCell ⟨g, 2, none⟩ (a2)).setCell ⟨g, 3, none⟩ (a3)).setCell ⟨g, 4, none⟩ (a4)).setCell ⟨g, 5, none⟩ (a5)).setCell ⟨g, 6, none⟩ (a6)).setCell ⟨g, 7, none⟩ (a7)) b off l :=
  (((((((h.far hne _).far hne _).far hne _).far hne _).far hne _).far hne _).far hne _).far hne _

set_option maxHeartbeats 1600000 in
theorem eqTask_same (t : TV) (v1 v2 u1 u2 : Value) (w : World) (h1 : LabSl w v1 t.want) (h2 : IntSl w v2 t.tols) (k1 : LabSl w u1 t.want) (k2 : IntSl w u2 t.tols) (l1 : t.want.length ≤ 1048576) (l2 : t.tols.length ≤ 1048576) :
    Calls Tryz.prog 119 #[.agg #[.int .i64 t.id, .int .i64 t.prio, .int .i64 t.need.c, .int .i64 t.need.m, .int .i64 t.need.p, v1, v2], .agg #[.int .i64 t.id, .int .i64 t.prio, .int .i64 t.need.c, .int .i64 t.need.m, .int .i64 t.need.p, u1, u2]] w fun e w' => e = .returned (.bool true) ∧ Below w.heap.size w w' := by
  have H1 := Lib.hid h1
  have H2 := Lib.hid h2
  have K1 := Lib.hid k1
  have K2 := Lib.hid k2
  have L1 := Lib.hid l1
  have L2 := Lib.hid l2
  have e1 : (t.id != t.id) = false := by simp
  have e2 : (t.prio != t.prio) = false := by simp
  clear h1 h2 k1 k2 l1 l2
  go_enter Tryz.func119, Tryz.ntmps119
  go_wp2_with fail
  refine (eqRes_same t.need _).mono ?_
  rintro e w1 ⟨rfl, hb1⟩
  have hz1 := hb1.size
  simp at hz1
  obtain ⟨hc1, hf1⟩ := bcell hb1
  have hC1 : Below w.heap.size w w1 := (by repeat' (first | exact Below.refl _ _ | refine Below.alloc ?_ ?_ _ | refine Below.setCell ?_ ?_ _ | refine Below.drew ?_ | (apply below_step; assumption) | (simp; done) | (simp; omega) | omega))
  go_wp2_with fail
  refine (eqLabS_same v1 u1 t.want _ (H1.out.below hC1) (K1.out.below hC1) L1.out).mono ?_
  rintro e w2 ⟨rfl, hb2⟩
  have hz2 := hb2.size
  obtain ⟨hc2, hf2⟩ := bcell hb2
  have hs1 : w.heap.size < w1.heap.size := by omega
  have hs1' : w.heap.size + 1 < w1.heap.size := by omega
  have hC2 : Below w.heap.size w w2 := hC1.trans (hb2.mono hC1.size)
  go_wp2_with fail
  refine (eqIntS_same v2 u2 t.tols _ (H2.out.below hC2) (K2.out.below hC2) L2.out).mono ?_
  rintro e w3 ⟨rfl, hb3⟩
  have hC3 : Below w.heap.size w w3 := hC2.trans (hb3.mono hC2.size)
  go_wp2_with fail
  go_ret
  exact ⟨rfl, hC3⟩
set_option maxHeartbeats 800000 in
theorem szNode_any (c0 c1 c2 c3 c4 c7 : Value) (A1 A2 : Option Addr) (n1 k1 n2 k2 : Nat) (z : Int) (w : World) (h0 : 0 ≤ z) (hz : z ≤ 1048576) (hm1 : n1 ≤ maxLen) (hm2 : n2 ≤ maxLen) :
    Calls Tryz.prog 38 #[.agg #[c0, c1, c2, c3, c4, .slice A1 n1 k1, .slice A2 n2 k2, c7], .int .i64 z] w fun e w' => e = .returned (.int .i64 (szTV z n1 n2)) ∧ Below w.heap.size w w' := by
  by_cases h1 : (n1 : Int) ≤ z
  · by_cases h2 : (n2 : Int) ≤ z - n1
    · have HE := Lib.hid (show szTV z n1 n2 = z - n1 - n2 by simp [szTV, h1, szLeft, h2])
      have HM := Lib.hid (And.intro hm1 hm2)
      clear hm1 hm2
      go_enter Tryz.func38, Tryz.ntmps38
      go_wp2_with fail
      refine (szLabS_yes A1 n1 k1 z _ hz h1).mono ?_
      rintro e w1 ⟨rfl, rfl⟩
      go_wp2_with fail
      refine (szIntS_yes A2 n2 k2 (z - n1) _ (by omega) h2).mono ?_
      rintro e w1 ⟨rfl, rfl⟩
      go_wp2_with fail
      go_ret
      rw [HE.out]
      exact ⟨rfl, (by repeat' (first | exact Below.refl _ _ | refine Below.alloc ?_ ?_ _ | refine Below.setCell ?_ ?_ _ | refine Below.drew ?_ | (apply below_step; assumption) | (simp; done) | (simp; omega) | omega))⟩
    · have HE := Lib.hid (show szTV z n1 n2 = -1 by simp [szTV, h1, szLeft, h2])
      have HM := Lib.hid (And.intro hm1 hm2)
      have h2' : z - n1 < n2 := by omega
      clear hm1 hm2 h2
      go_enter Tryz.func38, Tryz.ntmps38
      go_wp2_with fail
      refine (szLabS_yes A1 n1 k1 z _ hz h1).mono ?_
      rintro e w1 ⟨rfl, rfl⟩
      go_wp2_with fail
      refine (szIntS_no A2 n2 k2 (z - n1) _ (by omega) h2' HM.out.2).mono ?_
      rintro e w1 ⟨rfl, rfl⟩
      go_wp2_with fail
      go_ret
      rw [HE.out]
      exact ⟨rfl, (by repeat' (first | exact Below.refl _ _ | refine Below.alloc ?_ ?_ _ | refine Below.setCell ?_ ?_ _ | refine Below.drew ?_ | (apply below_step; assumption) | (simp; done) | (simp; omega) | omega))⟩
  · have HE := Lib.hid (show szTV z n1 n2 = -1 by simp [szTV, h1])
    have HM := Lib.hid (And.intro hm1 hm2)
    have h1' : z < n1 := by omega
    clear hm1 hm2 h1
    go_enter Tryz.func38, Tryz.ntmps38
    go_wp2_with fail
    refine (szLabS_no A1 n1 k1 z _ h0 h1' HM.out.1).mono ?_
    rintro e w1 ⟨rfl, rfl⟩
    go_wp2_with fail
    go_ret
    rw [HE.out]
    exact ⟨rfl, (by repeat' (first | exact Below.refl _ _ | refine Below.alloc ?_ ?_ _ | refine Below.setCell ?_ ?_ _ | refine Below.drew ?_ | (apply below_step; assumption) | (simp; done) | (simp; omega) | omega))⟩

set_option maxHeartbeats 1600000 in
theorem eqNode_same (t : NV) (v1 v2 u1 u2 : Value) (w : World) (h1 : LabSl w v1 t.labs) (h2 : IntSl w v2 t.taints) (k1 : LabSl w u1 t.labs) (k2 : IntSl w u2 t.taints) (l1 : t.labs.length ≤ 1048576) (l2 : t.taints.length ≤ 1048576) :
    Calls Tryz.prog 74 #[.agg #[.int .i64 t.id, .int .i64 t.pool, .int .i64 t.cap.c, .int .i64 t.cap.m, .int .i64 t.cap.p, v1, v2, .bool t.cordon], .agg #[.int .i64 t.id, .int .i64 t.pool, .int .i64 t.cap.c, .int .i64 t.cap.m, .int .i64 t.cap.p, u1, u2, .bool t.cordon]] w fun e w' => e = .returned (.bool true) ∧ Below w.heap.size w w' := by
  have H1 := Lib.hid h1
  have H2 := Lib.hid h2
  have K1 := Lib.hid k1
  have K2 := Lib.hid k2
  have L1 := Lib.hid l1
  have L2 := Lib.hid l2
  have e1 : (t.id != t.id) = false := by simp
  have e3 : (t.cordon != t.cordon) = false := by simp
  have e2 : (t.pool != t.pool) = false := by simp
  clear h1 h2 k1 k2 l1 l2
  go_enter Tryz.func74, Tryz.ntmps74
  go_wp2_with fail
  refine (eqRes_same t.cap _).mono ?_
  rintro e w1 ⟨rfl, hb1⟩
  have hz1 := hb1.size
  simp at hz1
  obtain ⟨hc1, hf1⟩ := bcell hb1
  have hC1 : Below w.heap.size w w1 := (by repeat' (first | exact Below.refl _ _ | refine Below.alloc ?_ ?_ _ | refine Below.setCell ?_ ?_ _ | refine Below.drew ?_ | (apply below_step; assumption) | (simp; done) | (simp; omega) | omega))
  go_wp2_with fail
  refine (eqLabS_same v1 u1 t.labs _ (H1.out.below hC1) (K1.out.below hC1) L1.out).mono ?_
  rintro e w2 ⟨rfl, hb2⟩
  have hz2 := hb2.size
  obtain ⟨hc2, hf2⟩ := bcell hb2
  have hs1 : w.heap.size < w1.heap.size := by omega
  have hs1' : w.heap.size + 1 < w1.heap.size := by omega
  have hC2 : Below w.heap.size w w2 := hC1.trans (hb2.mono hC1.size)
  go_wp2_with fail
  refine (eqIntS_same v2 u2 t.taints _ (H2.out.below hC2) (K2.out.below hC2) L2.out).mono ?_
  rintro e w3 ⟨rfl, hb3⟩
  obtain ⟨hc3, hf3⟩ := bcell hb3
  have hs2 : w.heap.size < w2.heap.size := by omega
  have hs2' : w.heap.size + 1 < w2.heap.size := by omega
  have hC3 : Below w.heap.size w w3 := hC2.trans (hb3.mono hC2.size)
  go_wp2_with fail
  go_ret
  exact ⟨rfl, hC3⟩
end Go.Proofs.YtmkpajjnjgnmkabGreatDoor
namespace Go.Proofs.YtmkpajjnjgnmkabGreatDoor
open Go.RowKit

end Go.Proofs.YtmkpajjnjgnmkabGreatDoor

namespace Go.Proofs.YtmkpajjnjgnmkabGreatDoor
open Go.RowKit

set_option maxHeartbeats 800000 in
theorem isTask_any (t : TV) (cs : List Value) (B : Nat) (z : Int) (w : World) (ok : Bool) (hR : TaskR w t cs) (hz : w.cell? ⟨B, 0, none⟩ = some (.int .i64 z)) (hok : decide (t.id = z) = ok) :
    Calls Tryz.prog 148 #[.agg cs.toArray, .pointer (some ⟨B, 0, none⟩)] w fun e w' => e = .returned (.bool ok) ∧ Below w.heap.size w w' := by
  obtain ⟨v1, v2, rfl, sl, si, m1, m2⟩ := hR; obtain ⟨A1, c1, rfl, _⟩ := sl.form; obtain ⟨A2, c2, rfl, _⟩ := si.form
  clear sl si m1 m2
  have hB := World.block_lt_of_cell? _ _ hz
  simp only at hB
  have HE := Lib.hid (show (t.id == z) = ok by rw [← hok]; rfl)
  clear hok
  go_enter Tryz.func148, Tryz.ntmps148
  go_wp2_with fail
  go_ret
  exact ⟨by rw [HE.out]; simp, (by repeat' (first | exact Below.refl _ _ | refine Below.alloc ?_ ?_ _ | refine Below.setCell ?_ ?_ _ | refine Below.drew ?_ | (apply below_step; assumption) | (simp; done) | (simp; omega) | omega))⟩

set_option maxHeartbeats 1600000 in
theorem indexTask_any (B : Nat) (z : Int) (v : Value) (l : List TV) (w : World) (hv : TaskSl w v l) (hlen : l.length ≤ 1048576) (hz : w.cell? ⟨B, 0, none⟩ = some (.int .i64 z)) :
    Calls Tryz.prog 161 #[v, .func (.func 148) #[] #[.pointer (some ⟨B, 0, none⟩)]] w fun e w' => e = .returned (.int .i64 (idxBy TV.id l z)) ∧ Below w.heap.size w w' := by
  obtain ⟨A, c, rfl, hA⟩ := hv.form
  have HA := Lib.hid hA
  have hB := World.block_lt_of_cell? _ _ hz
  simp only at hB
  have HZ := Lib.hid hz
  clear hA hv hz
  go_enter Tryz.func161, Tryz.ntmps161
  go_wp2_with fail
  go_loopw [8] (fun s8 wr => ∃ k : Nat, k ≤ l.length ∧ s8 = .int .i64 k ∧ idxBy TV.id l z = idxGo TV.id k (l.drop k) z ∧ Below w.heap.size w wr) (fun s8 _ => (l.length - intOf s8).toNat)
  case atStart => exact ⟨0, by omega, rfl, by simp [idxBy], Below.refl _ _⟩
  case round =>
    obtain ⟨k, hk, rfl, hidx, hBr⟩ := hrel
    have HI := Lib.hid hidx
    have hzr := hBr.size
    have HZR := Lib.hid ((hBr.cell (p := ⟨B, 0, none⟩) hB).trans HZ.out)
    clear hidx
    by_cases hlt : k < l.length
    · obtain ⟨b, off, rfl, hbw, hat⟩ := HA.out (by omega)
      obtain ⟨t, ht⟩ : ∃ t, l[k]? = some t := ⟨_, List.getElem?_eq_getElem hlt⟩
      obtain ⟨cs, hR, hC⟩ := (hat.below TaskR.kept hBr hbw) k t ht
      have HR := Lib.hid hR
      have HD := Lib.hid (drop_at ht)
      obtain ⟨v1, v2, rfl, sl, si, m1, m2⟩ := hR; obtain ⟨A1, c1, rfl, _⟩ := sl.form; obtain ⟨A2, c2, rfl, _⟩ := si.form
      clear sl si m1 m2
      obtain ⟨q0, q1, q2, q3, q4, q5, q6⟩ := task_cells hC
      clear hat hC ht
      by_cases e : t.id = z
      · have HE := Lib.hid e
        clear e
        go_wp2_with fail
        refine (isTask_any t _ B z _ true HR.out HZR.out (by simpa using HE.out)).mono ?_
        rintro e w2 ⟨rfl, hb2⟩
        go_wp2_with fail
        go_ret
        refine ⟨?_, (by repeat' (first | exact Below.refl _ _ | refine Below.alloc ?_ ?_ _ | refine Below.setCell ?_ ?_ _ | refine Below.drew ?_ | (apply below_step; assumption) | (simp; done) | (simp; omega) | omega))⟩
        rw [HI.out, HD.out, idxGo_hit HE.out]; rfl
      · have HE := Lib.hid e
        clear e
        go_wp2_with fail
        refine (isTask_any t _ B z _ false HR.out HZR.out (by simpa using HE.out)).mono ?_
        rintro e w2 ⟨rfl, hb2⟩
        go_wp2_with fail
        go_roundw
        case rel => exact ⟨k + 1, by omega, by go_num, by rw [HI.out, HD.out, idxGo_miss HE.out]; simp, (by repeat' (first | exact Below.refl _ _ | refine Below.alloc ?_ ?_ _ | refine Below.setCell ?_ ?_ _ | refine Below.drew ?_ | (apply below_step; assumption) | (simp; done) | (simp; omega) | omega))⟩
        case measure => simp [intOf]; omega
    · have hkl : k = l.length := by omega
      have HF := Lib.hid (show idxBy TV.id l z = -1 by rw [HI.out, hkl, List.drop_length]; rfl)
      clear hkl
      go_wp2_with fail
      go_ret
      exact ⟨by rw [HF.out]; rfl, hBr⟩

set_option maxHeartbeats 1600000 in
theorem findGTask_any (B : Nat) (z : Int) (v : Value) (l : List TV) (w0 w : World) (hw : Below w0.heap.size w0 w) (hv : TaskSl w0 v l) (hlen : l.length ≤ 1048576) (hz : w.cell? ⟨B, 0, none⟩ = some (.int .i64 z)) :
    Calls Tryz.prog 147 #[v, .func (.func 148) #[] #[.pointer (some ⟨B, 0, none⟩)]] w (RetFTask w0 w (fstBy TV.id l z)) := by
  have hv' := hv.below hw
  obtain ⟨A, c, rfl, hA⟩ := hv.form
  have hB := World.block_lt_of_cell? _ _ hz
  simp only at hB
  have HV := Lib.hid hv'
  have HZ := Lib.hid hz
  have HW := Lib.hid hw
  have hi := fun w hv hz => indexTask_any B z (.slice A l.length c) l w hv hlen hz
  cases hf : fstBy TV.id l z with
  | none =>
    rw [idxBy_none hf] at hi
    have HI := Lib.hid hi
    clear hi hf hv hv' hw hz hA
    go_enter Tryz.func147, Tryz.ntmps147
    go_wp2_with fail
    refine (HI.out _ (HV.out.below (by repeat' (first | exact Below.refl _ _ | refine Below.alloc ?_ ?_ _ | refine Below.setCell ?_ ?_ _ | refine Below.drew ?_ | (apply below_step; assumption) | (simp; done) | (simp; omega) | omega))) ((World.cell?_alloc_lt _ _ _ hB).trans HZ.out)).mono ?_
    rintro e w2 ⟨rfl, hb2⟩
    have hz2 := hb2.size
    simp at hz2
    have B1 : BlockIs w2 w.heap.size 119 #[.int .i64 0, .int .i64 0, .int .i64 0, .int .i64 0, .int .i64 0, .slice none 0 0, .slice none 0 0] := (BlockIs.new w _ _).below hb2 (by simp)
    have hC2 : Below w.heap.size w w2 := (by repeat' (first | exact Below.refl _ _ | refine Below.alloc ?_ ?_ _ | refine Below.setCell ?_ ?_ _ | refine Below.drew ?_ | (apply below_step; assumption) | (simp; done) | (simp; omega) | omega))
    have d0 := B1.cell 0; have d1 := B1.cell 1; have d2 := B1.cell 2; have d3 := B1.cell 3; have d4 := B1.cell 4; have d5 := B1.cell 5; have d6 := B1.cell 6
    have f1 := B1.frozen
    simp at d0 d1 d2 d3 d4 d5 d6
    have HB1 := Lib.hid B1
    have hl2 : w.heap.size < w2.heap.size := by omega
    clear B1
    go_wp2_with fail
    have hZ : BlockIs (World.alloc (((((((w2.setCell ⟨w.heap.size, 0, none⟩ (.int .i64 0)).setCell ⟨w.heap.size, 1, none⟩ (.int .i64 0)).setCell ⟨w.heap.size, 2, none⟩ (.int .i64 0)).setCell ⟨w.heap.size, 3, none⟩ (.int .i64 0)).setCell ⟨w.heap.size, 4, none⟩ (.int .i64 0)).setCell ⟨w.heap.size, 5, none⟩ (.slice none 0 0)).setCell ⟨w.heap.size, 6, none⟩ (.slice none 0 0)) (.cells #[.int .i64 0, .int .i64 0, .int .i64 0, .int .i64 0, .int .i64 0, .slice none 0 0, .slice none 0 0] 119)) w.heap.size 119 #[.int .i64 0, .int .i64 0, .int .i64 0, .int .i64 0, .int .i64 0, .slice none 0 0, .slice none 0 0] := (put7 _ _ _ _ _ _ _ HB1.out rfl).alloc _
    have hX : Below w.heap.size w (World.alloc (((((((w2.setCell ⟨w.heap.size, 0, none⟩ (.int .i64 0)).setCell ⟨w.heap.size, 1, none⟩ (.int .i64 0)).setCell ⟨w.heap.size, 2, none⟩ (.int .i64 0)).setCell ⟨w.heap.size, 3, none⟩ (.int .i64 0)).setCell ⟨w.heap.size, 4, none⟩ (.int .i64 0)).setCell ⟨w.heap.size, 5, none⟩ (.slice none 0 0)).setCell ⟨w.heap.size, 6, none⟩ (.slice none 0 0)) (.cells #[.int .i64 0, .int .i64 0, .int .i64 0, .int .i64 0, .int .i64 0, .slice none 0 0, .slice none 0 0] 119)) := (below7 hC2 (Nat.le_refl _)).alloc (by simp [World.setCell]; omega) _
    generalize (World.alloc (((((((w2.setCell ⟨w.heap.size, 0, none⟩ (.int .i64 0)).setCell ⟨w.heap.size, 1, none⟩ (.int .i64 0)).setCell ⟨w.heap.size, 2, none⟩ (.int .i64 0)).setCell ⟨w.heap.size, 3, none⟩ (.int .i64 0)).setCell ⟨w.heap.size, 4, none⟩ (.int .i64 0)).setCell ⟨w.heap.size, 5, none⟩ (.slice none 0 0)).setCell ⟨w.heap.size, 6, none⟩ (.slice none 0 0)) (.cells #[.int .i64 0, .int .i64 0, .int .i64 0, .int .i64 0, .int .i64 0, .slice none 0 0, .slice none 0 0] 119)) = X at hZ hX ⊢
    have z0 := hZ.cell 0; have z1 := hZ.cell 1; have z2 := hZ.cell 2; have z3 := hZ.cell 3; have z4 := hZ.cell 4; have z5 := hZ.cell 5; have z6 := hZ.cell 6
    simp at z0 z1 z2 z3 z4 z5 z6
    exact bodyPost_ret (v := .tuple #[.agg #[.int .i64 0, .int .i64 0, .int .i64 0, .int .i64 0, .int .i64 0, .slice none 0 0, .slice none 0 0], .bool false]) (by simp [results, Tryz.results147, go_sem, z0, z1, z2, z3, z4, z5, z6]) rfl ⟨_, rfl, TaskR.zero _, hX⟩
  | some t =>
    obtain ⟨j, hj, hjt, hkz, hmn⟩ := idxBy_some hf
    clear hkz hmn
    rw [hj] at hi
    have HI := Lib.hid hi
    have hjl : j < l.length := (List.getElem?_eq_some_iff.1 hjt).1
    obtain ⟨b, off, rfl, hbw, hat⟩ := hA (by omega)
    obtain ⟨cs, hR, hC⟩ := hat j t hjt
    have HR := Lib.hid hR
    have HC := Lib.hid hC
    have hbw' : b < w.heap.size := Nat.lt_of_lt_of_le hbw hw.size
    have HC' := Lib.hid (hC.below hw hbw)
    clear hi hf hv hv' hw hz hj hjt hat hC hA
    obtain ⟨v1, v2, rfl, sl, si, m1, m2⟩ := hR; obtain ⟨A1, c1, rfl, _⟩ := sl.form; obtain ⟨A2, c2, rfl, _⟩ := si.form
    clear sl si m1 m2
    go_enter Tryz.func147, Tryz.ntmps147
    go_wp2_with fail
    refine (HI.out _ (HV.out.below (by repeat' (first | exact Below.refl _ _ | refine Below.alloc ?_ ?_ _ | refine Below.setCell ?_ ?_ _ | refine Below.drew ?_ | (apply below_step; assumption) | (simp; done) | (simp; omega) | omega))) ((World.cell?_alloc_lt _ _ _ hB).trans HZ.out)).mono ?_
    rintro e w2 ⟨rfl, hb2⟩
    have hz2 := hb2.size
    simp at hz2
    have B1 : BlockIs w2 w.heap.size 119 #[.int .i64 0, .int .i64 0, .int .i64 0, .int .i64 0, .int .i64 0, .slice none 0 0, .slice none 0 0] := (BlockIs.new w _ _).below hb2 (by simp)
    have hC2 : Below w.heap.size w w2 := (by repeat' (first | exact Below.refl _ _ | refine Below.alloc ?_ ?_ _ | refine Below.setCell ?_ ?_ _ | refine Below.drew ?_ | (apply below_step; assumption) | (simp; done) | (simp; omega) | omega))
    obtain ⟨q0, q1, q2, q3, q4, q5, q6⟩ := task_cells (HC'.out.below hC2 hbw')
    have d0 := B1.cell 0; have d1 := B1.cell 1; have d2 := B1.cell 2; have d3 := B1.cell 3; have d4 := B1.cell 4; have d5 := B1.cell 5; have d6 := B1.cell 6
    have f1 := B1.frozen
    simp at d0 d1 d2 d3 d4 d5 d6
    have HB1 := Lib.hid B1
    have hji : (j : Int) < (l.length : Int) := by omega
    have hj0 : (0 : Int) ≤ (j : Int) := by omega
    clear B1
    go_wp2_with fail
    have hZ : BlockIs (((((((w2.setCell ⟨w.heap.size, 0, none⟩ (.int .i64 t.id)).setCell ⟨w.heap.size, 1, none⟩ (.int .i64 t.prio)).setCell ⟨w.heap.size, 2, none⟩ (.int .i64 t.need.c)).setCell ⟨w.heap.size, 3, none⟩ (.int .i64 t.need.m)).setCell ⟨w.heap.size, 4, none⟩ (.int .i64 t.need.p)).setCell ⟨w.heap.size, 5, none⟩ (.slice A1 t.want.length c1)).setCell ⟨w.heap.size, 6, none⟩ (.slice A2 t.tols.length c2)) w.heap.size 119 #[.int .i64 t.id, .int .i64 t.prio, .int .i64 t.need.c, .int .i64 t.need.m, .int .i64 t.need.p, .slice A1 t.want.length c1, .slice A2 t.tols.length c2] := put7 _ _ _ _ _ _ _ HB1.out rfl
    have hX : Below w.heap.size w (((((((w2.setCell ⟨w.heap.size, 0, none⟩ (.int .i64 t.id)).setCell ⟨w.heap.size, 1, none⟩ (.int .i64 t.prio)).setCell ⟨w.heap.size, 2, none⟩ (.int .i64 t.need.c)).setCell ⟨w.heap.size, 3, none⟩ (.int .i64 t.need.m)).setCell ⟨w.heap.size, 4, none⟩ (.int .i64 t.need.p)).setCell ⟨w.heap.size, 5, none⟩ (.slice A1 t.want.length c1)).setCell ⟨w.heap.size, 6, none⟩ (.slice A2 t.tols.length c2)) := below7 hC2 (Nat.le_refl _)
    generalize (((((((w2.setCell ⟨w.heap.size, 0, none⟩ (.int .i64 t.id)).setCell ⟨w.heap.size, 1, none⟩ (.int .i64 t.prio)).setCell ⟨w.heap.size, 2, none⟩ (.int .i64 t.need.c)).setCell ⟨w.heap.size, 3, none⟩ (.int .i64 t.need.m)).setCell ⟨w.heap.size, 4, none⟩ (.int .i64 t.need.p)).setCell ⟨w.heap.size, 5, none⟩ (.slice A1 t.want.length c1)).setCell ⟨w.heap.size, 6, none⟩ (.slice A2 t.tols.length c2)) = X at hZ hX ⊢
    have z0 := hZ.cell 0; have z1 := hZ.cell 1; have z2 := hZ.cell 2; have z3 := hZ.cell 3; have z4 := hZ.cell 4; have z5 := hZ.cell 5; have z6 := hZ.cell 6
    simp at z0 z1 z2 z3 z4 z5 z6
    exact bodyPost_ret (v := .tuple #[.agg #[.int .i64 t.id, .int .i64 t.prio, .int .i64 t.need.c, .int .i64 t.need.m, .int .i64 t.need.p, .slice A1 t.want.length c1, .slice A2 t.tols.length c2], .bool true]) (by simp [results, Tryz.results147, go_sem, z0, z1, z2, z3, z4, z5, z6]) rfl ⟨_, rfl, HR.out, hX⟩
set_option maxHeartbeats 800000 in
theorem isNode_any (t : NV) (cs : List Value) (B : Nat) (z : Int) (w : World) (ok : Bool) (hR : NodeR w t cs) (hz : w.cell? ⟨B, 0, none⟩ = some (.int .i64 z)) (hok : decide (t.id = z) = ok) :
    Calls Tryz.prog 150 #[.agg cs.toArray, .pointer (some ⟨B, 0, none⟩)] w fun e w' => e = .returned (.bool ok) ∧ Below w.heap.size w w' := by
  obtain ⟨v1, v2, rfl, sl, si, m1, m2⟩ := hR; obtain ⟨A1, c1, rfl, _⟩ := sl.form; obtain ⟨A2, c2, rfl, _⟩ := si.form
  clear sl si m1 m2
  have hB := World.block_lt_of_cell? _ _ hz
  simp only at hB
  have HE := Lib.hid (show (t.id == z) = ok by rw [← hok]; rfl)
  clear hok
  go_enter Tryz.func150, Tryz.ntmps150
  go_wp2_with fail
  go_ret
  exact ⟨by rw [HE.out]; simp, (by repeat' (first | exact Below.refl _ _ | refine Below.alloc ?_ ?_ _ | refine Below.setCell ?_ ?_ _ | refine Below.drew ?_ | (apply below_step; assumption) | (simp; done) | (simp; omega) | omega))⟩

set_option maxHeartbeats 1600000 in
theorem indexNode_any (B : Nat) (z : Int) (v : Value) (l : List NV) (w : World) (hv : NodeSl w v l) (hlen : l.length ≤ 1048576) (hz : w.cell? ⟨B, 0, none⟩ = some (.int .i64 z)) :
    Calls Tryz.prog 162 #[v, .func (.func 150) #[] #[.pointer (some ⟨B, 0, none⟩)]] w fun e w' => e = .returned (.int .i64 (idxBy NV.id l z)) ∧ Below w.heap.size w w' := by
  obtain ⟨A, c, rfl, hA⟩ := hv.form
  have HA := Lib.hid hA
  have hB := World.block_lt_of_cell? _ _ hz
  simp only at hB
  have HZ := Lib.hid hz
  clear hA hv hz
  go_enter Tryz.func162, Tryz.ntmps162
  go_wp2_with fail
  go_loopw [8] (fun s8 wr => ∃ k : Nat, k ≤ l.length ∧ s8 = .int .i64 k ∧ idxBy NV.id l z = idxGo NV.id k (l.drop k) z ∧ Below w.heap.size w wr) (fun s8 _ => (l.length - intOf s8).toNat)
  case atStart => exact ⟨0, by omega, rfl, by simp [idxBy], Below.refl _ _⟩
  case round =>
    obtain ⟨k, hk, rfl, hidx, hBr⟩ := hrel
    have HI := Lib.hid hidx
    have hzr := hBr.size
    have HZR := Lib.hid ((hBr.cell (p := ⟨B, 0, none⟩) hB).trans HZ.out)
    clear hidx
    by_cases hlt : k < l.length
    · obtain ⟨b, off, rfl, hbw, hat⟩ := HA.out (by omega)
      obtain ⟨t, ht⟩ : ∃ t, l[k]? = some t := ⟨_, List.getElem?_eq_getElem hlt⟩
      obtain ⟨cs, hR, hC⟩ := (hat.below NodeR.kept hBr hbw) k t ht
      have HR := Lib.hid hR
      have HD := Lib.hid (drop_at ht)
      obtain ⟨v1, v2, rfl, sl, si, m1, m2⟩ := hR; obtain ⟨A1, c1, rfl, _⟩ := sl.form; obtain ⟨A2, c2, rfl, _⟩ := si.form
      clear sl si m1 m2
      obtain ⟨q0, q1, q2, q3, q4, q5, q6, q7⟩ := node_cells hC
      clear hat hC ht
      by_cases e : t.id = z
      · have HE := Lib.hid e
        clear e
        go_wp2_with fail
        refine (isNode_any t _ B z _ true HR.out HZR.out (by simpa using HE.out)).mono ?_
        rintro e w2 ⟨rfl, hb2⟩
        go_wp2_with fail
        go_ret
        refine ⟨?_, (by repeat' (first | exact Below.refl _ _ | refine Below.alloc ?_ ?_ _ | refine Below.setCell ?_ ?_ _ | refine Below.drew ?_ | (apply below_step; assumption) | (simp; done) | (simp; omega) | omega))⟩
        rw [HI.out, HD.out, idxGo_hit HE.out]; rfl
      · have HE := Lib.hid e
        clear e
        go_wp2_with fail
        refine (isNode_any t _ B z _ false HR.out HZR.out (by simpa using HE.out)).mono ?_
        rintro e w2 ⟨rfl, hb2⟩
        go_wp2_with fail
        go_roundw
        case rel => exact ⟨k + 1, by omega, by go_num, by rw [HI.out, HD.out, idxGo_miss HE.out]; simp, (by repeat' (first | exact Below.refl _ _ | refine Below.alloc ?_ ?_ _ | refine Below.setCell ?_ ?_ _ | refine Below.drew ?_ | (apply below_step; assumption) | (simp; done) | (simp; omega) | omega))⟩
        case measure => simp [intOf]; omega
    · have hkl : k = l.length := by omega
      have HF := Lib.hid (show idxBy NV.id l z = -1 by rw [HI.out, hkl, List.drop_length]; rfl)
      clear hkl
      go_wp2_with fail
      go_ret
      exact ⟨by rw [HF.out]; rfl, hBr⟩

set_option maxHeartbeats 1600000 in
theorem findGNode_any (B : Nat) (z : Int) (v : Value) (l : List NV) (w0 w : World) (hw : Below w0.heap.size w0 w) (hv : NodeSl w0 v l) (hlen : l.length ≤ 1048576) (hz : w.cell? ⟨B, 0, none⟩ = some (.int .i64 z)) :
    Calls Tryz.prog 149 #[v, .func (.func 150) #[] #[.pointer (some ⟨B, 0, none⟩)]] w (RetFNode w0 w (fstBy NV.id l z)) := by
  have hv' := hv.below hw
  obtain ⟨A, c, rfl, hA⟩ := hv.form
  have hB := World.block_lt_of_cell? _ _ hz
  simp only at hB
  have HV := Lib.hid hv'
  have HZ := Lib.hid hz
  have HW := Lib.hid hw
  have hi := fun w hv hz => indexNode_any B z (.slice A l.length c) l w hv hlen hz
  cases hf : fstBy NV.id l z with
  | none =>
    rw [idxBy_none hf] at hi
    have HI := Lib.hid hi
    clear hi hf hv hv' hw hz hA
    go_enter Tryz.func149, Tryz.ntmps149
    go_wp2_with fail
    refine (HI.out _ (HV.out.below (by repeat' (first | exact Below.refl _ _ | refine Below.alloc ?_ ?_ _ | refine Below.setCell ?_ ?_ _ | refine Below.drew ?_ | (apply below_step; assumption) | (simp; done) | (simp; omega) | omega))) ((World.cell?_alloc_lt _ _ _ hB).trans HZ.out)).mono ?_
    rintro e w2 ⟨rfl, hb2⟩
    have hz2 := hb2.size
    simp at hz2
    have B1 : BlockIs w2 w.heap.size 61 #[.int .i64 0, .int .i64 0, .int .i64 0, .int .i64 0, .int .i64 0, .slice none 0 0, .slice none 0 0, .bool false] := (BlockIs.new w _ _).below hb2 (by simp)
    have hC2 : Below w.heap.size w w2 := (by repeat' (first | exact Below.refl _ _ | refine Below.alloc ?_ ?_ _ | refine Below.setCell ?_ ?_ _ | refine Below.drew ?_ | (apply below_step; assumption) | (simp; done) | (simp; omega) | omega))
    have d0 := B1.cell 0; have d1 := B1.cell 1; have d2 := B1.cell 2; have d3 := B1.cell 3; have d4 := B1.cell 4; have d5 := B1.cell 5; have d6 := B1.cell 6; have d7 := B1.cell 7
    have f1 := B1.frozen
    simp at d0 d1 d2 d3 d4 d5 d6 d7
    have HB1 := Lib.hid B1
    have hl2 : w.heap.size < w2.heap.size := by omega
    clear B1
    go_wp2_with fail
    have hZ : BlockIs (World.alloc ((((((((w2.setCell ⟨w.heap.size, 0, none⟩ (.int .i64 0)).setCell ⟨w.heap.size, 1, none⟩ (.int .i64 0)).setCell ⟨w.heap.size, 2, none⟩ (.int .i64 0)).setCell ⟨w.heap.size, 3, none⟩ (.int .i64 0)).setCell ⟨w.heap.size, 4, none⟩ (.int .i64 0)).setCell ⟨w.heap.size, 5, none⟩ (.slice none 0 0)).setCell ⟨w.heap.size, 6, none⟩ (.slice none 0 0)).setCell ⟨w.heap.size, 7, none⟩ (.bool false)) (.cells #[.int .i64 0, .int .i64 0, .int .i64 0, .int .i64 0, .int .i64 0, .slice none 0 0, .slice none 0 0, .bool false] 61)) w.heap.size 61 #[.int .i64 0, .int .i64 0, .int .i64 0, .int .i64 0, .int .i64 0, .slice none 0 0, .slice none 0 0, .bool false] := (put8 _ _ _ _ _ _ _ _ HB1.out rfl).alloc _
    have hX : Below w.heap.size w (World.alloc ((((((((w2.setCell ⟨w.heap.size, 0, none⟩ (.int .i64 0)).setCell ⟨w.heap.size, 1, none⟩ (.int .i64 0)).setCell ⟨w.heap.size, 2, none⟩ (.int .i64 0)).setCell ⟨w.heap.size, 3, none⟩ (.int .i64 0)).setCell ⟨w.heap.size, 4, none⟩ (.int .i64 0)).setCell ⟨w.heap.size, 5, none⟩ (.slice none 0 0)).setCell ⟨w.heap.size, 6, none⟩ (.slice none 0 0)).setCell ⟨w.heap.size, 7, none⟩ (.bool false)) (.cells #[.int .i64 0, .int .i64 0, .int .i64 0, .int .i64 0, .int .i64 0, .slice none 0 0, .slice none 0 0, .bool false] 61)) := (below8 hC2 (Nat.le_refl _)).alloc (by simp [World.setCell]; omega) _
    generalize (World.alloc ((((((((w2.setCell ⟨w.heap.size, 0, none⟩ (.int .i64 0)).setCell ⟨w.heap.size, 1, none⟩ (.int .i64 0)).setCell ⟨w.heap.size, 2, none⟩ (.int .i64 0)).setCell ⟨w.heap.size, 3, none⟩ (.int .i64 0)).setCell ⟨w.heap.size, 4, none⟩ (.int .i64 0)).setCell ⟨w.heap.size, 5, none⟩ (.slice none 0 0)).setCell ⟨w.heap.size, 6, none⟩ (.slice none 0 0)).setCell ⟨w.heap.size, 7, none⟩ (.bool false)) (.cells #[.int .i64 0, .int .i64 0, .int .i64 0, .int .i64 0, .int .i64 0, .slice none 0 0, .slice none 0 0, .bool false] 61)) = X at hZ hX ⊢
    have z0 := hZ.cell 0; have z1 := hZ.cell 1; have z2 := hZ.cell 2; have z3 := hZ.cell 3; have z4 := hZ.cell 4; have z5 := hZ.cell 5; have z6 := hZ.cell 6; have z7 := hZ.cell 7
    simp at z0 z1 z2 z3 z4 z5 z6 z7
    exact bodyPost_ret (v := .tuple #[.agg #[.int .i64 0, .int .i64 0, .int .i64 0, .int .i64 0, .int .i64 0, .slice none 0 0, .slice none 0 0, .bool false], .bool false]) (by simp [results, Tryz.results149, go_sem, z0, z1, z2, z3, z4, z5, z6, z7]) rfl ⟨_, rfl, NodeR.zero _, hX⟩
  | some t =>
    obtain ⟨j, hj, hjt, hkz, hmn⟩ := idxBy_some hf
    clear hkz hmn
    rw [hj] at hi
    have HI := Lib.hid hi
    have hjl : j < l.length := (List.getElem?_eq_some_iff.1 hjt).1
    obtain ⟨b, off, rfl, hbw, hat⟩ := hA (by omega)
    obtain ⟨cs, hR, hC⟩ := hat j t hjt
    have HR := Lib.hid hR
    have HC := Lib.hid hC
    have hbw' : b < w.heap.size := Nat.lt_of_lt_of_le hbw hw.size
    have HC' := Lib.hid (hC.below hw hbw)
    clear hi hf hv hv' hw hz hj hjt hat hC hA
    obtain ⟨v1, v2, rfl, sl, si, m1, m2⟩ := hR; obtain ⟨A1, c1, rfl, _⟩ := sl.form; obtain ⟨A2, c2, rfl, _⟩ := si.form
    clear sl si m1 m2
    go_enter Tryz.func149, Tryz.ntmps149
    go_wp2_with fail
    refine (HI.out _ (HV.out.below (by repeat' (first | exact Below.refl _ _ | refine Below.alloc ?_ ?_ _ | refine Below.setCell ?_ ?_ _ | refine Below.drew ?_ | (apply below_step; assumption) | (simp; done) | (simp; omega) | omega))) ((World.cell?_alloc_lt _ _ _ hB).trans HZ.out)).mono ?_
    rintro e w2 ⟨rfl, hb2⟩
    have hz2 := hb2.size
    simp at hz2
    have B1 : BlockIs w2 w.heap.size 61 #[.int .i64 0, .int .i64 0, .int .i64 0, .int .i64 0, .int .i64 0, .slice none 0 0, .slice none 0 0, .bool false] := (BlockIs.new w _ _).below hb2 (by simp)
    have hC2 : Below w.heap.size w w2 := (by repeat' (first | exact Below.refl _ _ | refine Below.alloc ?_ ?_ _ | refine Below.setCell ?_ ?_ _ | refine Below.drew ?_ | (apply below_step; assumption) | (simp; done) | (simp; omega) | omega))
    obtain ⟨q0, q1, q2, q3, q4, q5, q6, q7⟩ := node_cells (HC'.out.below hC2 hbw')
    have d0 := B1.cell 0; have d1 := B1.cell 1; have d2 := B1.cell 2; have d3 := B1.cell 3; have d4 := B1.cell 4; have d5 := B1.cell 5; have d6 := B1.cell 6; have d7 := B1.cell 7
    have f1 := B1.frozen
    simp at d0 d1 d2 d3 d4 d5 d6 d7
    have HB1 := Lib.hid B1
    have hji : (j : Int) < (l.length : Int) := by omega
    have hj0 : (0 : Int) ≤ (j : Int) := by omega
    clear B1
    go_wp2_with fail
    have hZ : BlockIs ((((((((w2.setCell ⟨w.heap.size, 0, none⟩ (.int .i64 t.id)).setCell ⟨w.heap.size, 1, none⟩ (.int .i64 t.pool)).setCell ⟨w.heap.size, 2, none⟩ (.int .i64 t.cap.c)).setCell ⟨w.heap.size, 3, none⟩ (.int .i64 t.cap.m)).setCell ⟨w.heap.size, 4, none⟩ (.int .i64 t.cap.p)).setCell ⟨w.heap.size, 5, none⟩ (.slice A1 t.labs.length c1)).setCell ⟨w.heap.size, 6, none⟩ (.slice A2 t.taints.length c2)).setCell ⟨w.heap.size, 7, none⟩ (.bool t.cordon)) w.heap.size 61 #[.int .i64 t.id, .int .i64 t.pool, .int .i64 t.cap.c, .int .i64 t.cap.m, .int .i64 t.cap.p, .slice A1 t.labs.length c1, .slice A2 t.taints.length c2, .bool t.cordon] := put8 _ _ _ _ _ _ _ _ HB1.out rfl
    have hX : Below w.heap.size w ((((((((w2.setCell ⟨w.heap.size, 0, none⟩ (.int .i64 t.id)).setCell ⟨w.heap.size, 1, none⟩ (.int .i64 t.pool)).setCell ⟨w.heap.size, 2, none⟩ (.int .i64 t.cap.c)).setCell ⟨w.heap.size, 3, none⟩ (.int .i64 t.cap.m)).setCell ⟨w.heap.size, 4, none⟩ (.int .i64 t.cap.p)).setCell ⟨w.heap.size, 5, none⟩ (.slice A1 t.labs.length c1)).setCell ⟨w.heap.size, 6, none⟩ (.slice A2 t.taints.length c2)).setCell ⟨w.heap.size, 7, none⟩ (.bool t.cordon)) := below8 hC2 (Nat.le_refl _)
    generalize ((((((((w2.setCell ⟨w.heap.size, 0, none⟩ (.int .i64 t.id)).setCell ⟨w.heap.size, 1, none⟩ (.int .i64 t.pool)).setCell ⟨w.heap.size, 2, none⟩ (.int .i64 t.cap.c)).setCell ⟨w.heap.size, 3, none⟩ (.int .i64 t.cap.m)).setCell ⟨w.heap.size, 4, none⟩ (.int .i64 t.cap.p)).setCell ⟨w.heap.size, 5, none⟩ (.slice A1 t.labs.length c1)).setCell ⟨w.heap.size, 6, none⟩ (.slice A2 t.taints.length c2)).setCell ⟨w.heap.size, 7, none⟩ (.bool t.cordon)) = X at hZ hX ⊢
    have z0 := hZ.cell 0; have z1 := hZ.cell 1; have z2 := hZ.cell 2; have z3 := hZ.cell 3; have z4 := hZ.cell 4; have z5 := hZ.cell 5; have z6 := hZ.cell 6; have z7 := hZ.cell 7
    simp at z0 z1 z2 z3 z4 z5 z6 z7
    exact bodyPost_ret (v := .tuple #[.agg #[.int .i64 t.id, .int .i64 t.pool, .int .i64 t.cap.c, .int .i64 t.cap.m, .int .i64 t.cap.p, .slice A1 t.labs.length c1, .slice A2 t.taints.length c2, .bool t.cordon], .bool true]) (by simp [results, Tryz.results149, go_sem, z0, z1, z2, z3, z4, z5, z6, z7]) rfl ⟨_, rfl, HR.out, hX⟩
end Go.Proofs.YtmkpajjnjgnmkabGreatDoor
namespace Go.Proofs.YtmkpajjnjgnmkabGreatDoor
open Go.RowKit

def CluR (w : World) (c : CV) (a0 a1 a2 : Value) : Prop := TaskSl w a0 c.tasks ∧ NodeSl w a1 c.nodes ∧ BindSl w a2 c.binds ∧ c.tasks.length ≤ 1048576 ∧ c.nodes.length ≤ 1048576 ∧ c.binds.length ≤ 1048576
theorem CluR.below {w w' : World} {c : CV} {a0 a1 a2 : Value} (h : CluR w c a0 a1 a2) (hb : Below w.heap.size w w') : CluR w' c a0 a1 a2 := by
  obtain ⟨h0, h1, h2, h3⟩ := h
  exact ⟨h0.below hb, h1.below hb, h2.below hb, h3⟩

set_option maxHeartbeats 1600000 in
theorem findTask_any (c : CV) (a0 a1 a2 : Value) (z : Int) (w0 w : World) (hw : Below w0.heap.size w0 w) (hc : CluR w0 c a0 a1 a2) :
    Calls Tryz.prog 132 #[.agg #[a0, a1, a2], .int .i64 z] w (RetFTask w0 w (fstBy TV.id c.tasks z)) := by
  obtain ⟨h0, h1, h2, l0, l1, l2⟩ := hc
  obtain ⟨D0, e0, rfl, r0⟩ := h0.form
  obtain ⟨D1, e1, rfl, r1⟩ := h1.form
  obtain ⟨D2, e2, rfl, r2⟩ := h2.form
  have hf := fun B w1 hw1 hz => findGTask_any B z (.slice D0 c.tasks.length e0) c.tasks w0 w1 hw1 h0 l0 hz
  generalize fstBy TV.id c.tasks z = o at hf ⊢
  have HF := Lib.hid hf
  have HW := Lib.hid hw
  have hmf : ∀ (fn : Fn) (first cap : Array Value) (w : World), (Instr.makeFunc fn first cap).run Tryz.prog w = .ok (.func fn first cap) w := fun _ _ _ _ => rfl
  clear hf hw h0 h1 h2 l0 l1 l2 r0 r1 r2
  go_enter Tryz.func132, Tryz.ntmps132
  go_wp2_with fail
  have hX3 : Below w.heap.size w (((w.alloc (.cells #[.slice D0 c.tasks.length e0, .slice D1 c.nodes.length e1, .slice D2 c.binds.length e2] 32)).alloc (.cells #[.int .i64 z] 3)).alloc (.cells #[.int .i64 0, .int .i64 0, .int .i64 0, .int .i64 0, .int .i64 0, .slice none 0 0, .slice none 0 0] 119)) := (by repeat' (first | exact Below.refl _ _ | refine Below.alloc ?_ ?_ _ | refine Below.setCell ?_ ?_ _ | refine Below.drew ?_ | (apply below_step; assumption) | (simp; done) | (simp; omega) | omega))
  refine (HF.out (w.heap.size + 1) _ (below_of HW.out hX3) ((BlockIs.alloc (BlockIs.new' (g := w.heap.size + 1) (by simp)) _).cell 0)).mono ?_
  rintro e w3 ⟨cs, rfl, hR, hb3⟩
  have hz3 := hb3.size
  simp at hz3
  have hC3 := below_of hX3 hb3
  have B2 : BlockIs w3 (w.heap.size + 1 + 1) 119 #[.int .i64 0, .int .i64 0, .int .i64 0, .int .i64 0, .int .i64 0, .slice none 0 0, .slice none 0 0] := (BlockIs.new' (by simp)).below hb3 (by simp)
  have HR := Lib.hid hR
  generalize hgt : o.getD TV.zero = t at hR HR
  have HG := Lib.hid hgt
  clear hgt
  obtain ⟨v1, v2, rfl, sl, si, m1, m2⟩ := hR; obtain ⟨A1, c1, rfl, _⟩ := sl.form; obtain ⟨A2, c2, rfl, _⟩ := si.form
  clear sl si m1 m2
  have d0 := B2.cell 0; have d1 := B2.cell 1; have d2 := B2.cell 2; have d3 := B2.cell 3; have d4 := B2.cell 4; have d5 := B2.cell 5; have d6 := B2.cell 6
  have f1 := B2.frozen
  simp at d0 d1 d2 d3 d4 d5 d6
  have HB2 := Lib.hid B2
  clear B2 hX3 hb3
  go_wp2_with fail
  have hZ : BlockIs (((((((w3.setCell ⟨w.heap.size + 1 + 1, 0, none⟩ (.int .i64 t.id)).setCell ⟨w.heap.size + 1 + 1, 1, none⟩ (.int .i64 t.prio)).setCell ⟨w.heap.size + 1 + 1, 2, none⟩ (.int .i64 t.need.c)).setCell ⟨w.heap.size + 1 + 1, 3, none⟩ (.int .i64 t.need.m)).setCell ⟨w.heap.size + 1 + 1, 4, none⟩ (.int .i64 t.need.p)).setCell ⟨w.heap.size + 1 + 1, 5, none⟩ (.slice A1 t.want.length c1)).setCell ⟨w.heap.size + 1 + 1, 6, none⟩ (.slice A2 t.tols.length c2)) (w.heap.size + 1 + 1) 119 #[.int .i64 t.id, .int .i64 t.prio, .int .i64 t.need.c, .int .i64 t.need.m, .int .i64 t.need.p, .slice A1 t.want.length c1, .slice A2 t.tols.length c2] := put7 _ _ _ _ _ _ _ HB2.out rfl
  have hX : Below w.heap.size w (((((((w3.setCell ⟨w.heap.size + 1 + 1, 0, none⟩ (.int .i64 t.id)).setCell ⟨w.heap.size + 1 + 1, 1, none⟩ (.int .i64 t.prio)).setCell ⟨w.heap.size + 1 + 1, 2, none⟩ (.int .i64 t.need.c)).setCell ⟨w.heap.size + 1 + 1, 3, none⟩ (.int .i64 t.need.m)).setCell ⟨w.heap.size + 1 + 1, 4, none⟩ (.int .i64 t.need.p)).setCell ⟨w.heap.size + 1 + 1, 5, none⟩ (.slice A1 t.want.length c1)).setCell ⟨w.heap.size + 1 + 1, 6, none⟩ (.slice A2 t.tols.length c2)) := below7 hC3 (by omega)
  generalize (((((((w3.setCell ⟨w.heap.size + 1 + 1, 0, none⟩ (.int .i64 t.id)).setCell ⟨w.heap.size + 1 + 1, 1, none⟩ (.int .i64 t.prio)).setCell ⟨w.heap.size + 1 + 1, 2, none⟩ (.int .i64 t.need.c)).setCell ⟨w.heap.size + 1 + 1, 3, none⟩ (.int .i64 t.need.m)).setCell ⟨w.heap.size + 1 + 1, 4, none⟩ (.int .i64 t.need.p)).setCell ⟨w.heap.size + 1 + 1, 5, none⟩ (.slice A1 t.want.length c1)).setCell ⟨w.heap.size + 1 + 1, 6, none⟩ (.slice A2 t.tols.length c2)) = X at hZ hX ⊢
  have z0 := hZ.cell 0; have z1 := hZ.cell 1; have z2 := hZ.cell 2; have z3 := hZ.cell 3; have z4 := hZ.cell 4; have z5 := hZ.cell 5; have z6 := hZ.cell 6
  simp at z0 z1 z2 z3 z4 z5 z6
  exact bodyPost_ret (v := .tuple #[.agg #[.int .i64 t.id, .int .i64 t.prio, .int .i64 t.need.c, .int .i64 t.need.m, .int .i64 t.need.p, .slice A1 t.want.length c1, .slice A2 t.tols.length c2], .bool o.isSome]) (by simp [results, Tryz.results132, go_sem, z0, z1, z2, z3, z4, z5, z6]) rfl ⟨_, rfl, by rw [HG.out]; exact HR.out, hX⟩
set_option maxHeartbeats 1600000 in
theorem findNode_any (c : CV) (a0 a1 a2 : Value) (z : Int) (w0 w : World) (hw : Below w0.heap.size w0 w) (hc : CluR w0 c a0 a1 a2) :
    Calls Tryz.prog 133 #[.agg #[a0, a1, a2], .int .i64 z] w (RetFNode w0 w (fstBy NV.id c.nodes z)) := by
  obtain ⟨h0, h1, h2, l0, l1, l2⟩ := hc
  obtain ⟨D0, e0, rfl, r0⟩ := h0.form
  obtain ⟨D1, e1, rfl, r1⟩ := h1.form
  obtain ⟨D2, e2, rfl, r2⟩ := h2.form
  have hf := fun B w1 hw1 hz => findGNode_any B z (.slice D1 c.nodes.length e1) c.nodes w0 w1 hw1 h1 l1 hz
  generalize fstBy NV.id c.nodes z = o at hf ⊢
  have HF := Lib.hid hf
  have HW := Lib.hid hw
  have hmf : ∀ (fn : Fn) (first cap : Array Value) (w : World), (Instr.makeFunc fn first cap).run Tryz.prog w = .ok (.func fn first cap) w := fun _ _ _ _ => rfl
  clear hf hw h0 h1 h2 l0 l1 l2 r0 r1 r2
  go_enter Tryz.func133, Tryz.ntmps133
  go_wp2_with fail
  have hX3 : Below w.heap.size w (((w.alloc (.cells #[.slice D0 c.tasks.length e0, .slice D1 c.nodes.length e1, .slice D2 c.binds.length e2] 32)).alloc (.cells #[.int .i64 z] 3)).alloc (.cells #[.int .i64 0, .int .i64 0, .int .i64 0, .int .i64 0, .int .i64 0, .slice none 0 0, .slice none 0 0, .bool false] 61)) := (by repeat' (first | exact Below.refl _ _ | refine Below.alloc ?_ ?_ _ | refine Below.setCell ?_ ?_ _ | refine Below.drew ?_ | (apply below_step; assumption) | (simp; done) | (simp; omega) | omega))
  refine (HF.out (w.heap.size + 1) _ (below_of HW.out hX3) ((BlockIs.alloc (BlockIs.new' (g := w.heap.size + 1) (by simp)) _).cell 0)).mono ?_
  rintro e w3 ⟨cs, rfl, hR, hb3⟩
  have hz3 := hb3.size
  simp at hz3
  have hC3 := below_of hX3 hb3
  have B2 : BlockIs w3 (w.heap.size + 1 + 1) 61 #[.int .i64 0, .int .i64 0, .int .i64 0, .int .i64 0, .int .i64 0, .slice none 0 0, .slice none 0 0, .bool false] := (BlockIs.new' (by simp)).below hb3 (by simp)
  have HR := Lib.hid hR
  generalize hgt : o.getD NV.zero = t at hR HR
  have HG := Lib.hid hgt
  clear hgt
  obtain ⟨v1, v2, rfl, sl, si, m1, m2⟩ := hR; obtain ⟨A1, c1, rfl, _⟩ := sl.form; obtain ⟨A2, c2, rfl, _⟩ := si.form
  clear sl si m1 m2
  have d0 := B2.cell 0; have d1 := B2.cell 1; have d2 := B2.cell 2; have d3 := B2.cell 3; have d4 := B2.cell 4; have d5 := B2.cell 5; have d6 := B2.cell 6; have d7 := B2.cell 7
  have f1 := B2.frozen
  simp at d0 d1 d2 d3 d4 d5 d6 d7
  have HB2 := Lib.hid B2
  clear B2 hX3 hb3
  go_wp2_with fail
  have hZ : BlockIs ((((((((w3.setCell ⟨w.heap.size + 1 + 1, 0, none⟩ (.int .i64 t.id)).setCell ⟨w.heap.size + 1 + 1, 1, none⟩ (.int .i64 t.pool)).setCell ⟨w.heap.size + 1 + 1, 2, none⟩ (.int .i64 t.cap.c)).setCell ⟨w.heap.size + 1 + 1, 3, none⟩ (.int .i64 t.cap.m)).setCell ⟨w.heap.size + 1 + 1, 4, none⟩ (.int .i64 t.cap.p)).setCell ⟨w.heap.size + 1 + 1, 5, none⟩ (.slice A1 t.labs.length c1)).setCell ⟨w.heap.size + 1 + 1, 6, none⟩ (.slice A2 t.taints.length c2)).setCell ⟨w.heap.size + 1 + 1, 7, none⟩ (.bool t.cordon)) (w.heap.size + 1 + 1) 61 #[.int .i64 t.id, .int .i64 t.pool, .int .i64 t.cap.c, .int .i64 t.cap.m, .int .i64 t.cap.p, .slice A1 t.labs.length c1, .slice A2 t.taints.length c2, .bool t.cordon] := put8 _ _ _ _ _ _ _ _ HB2.out rfl
  have hX : Below w.heap.size w ((((((((w3.setCell ⟨w.heap.size + 1 + 1, 0, none⟩ (.int .i64 t.id)).setCell ⟨w.heap.size + 1 + 1, 1, none⟩ (.int .i64 t.pool)).setCell ⟨w.heap.size + 1 + 1, 2, none⟩ (.int .i64 t.cap.c)).setCell ⟨w.heap.size + 1 + 1, 3, none⟩ (.int .i64 t.cap.m)).setCell ⟨w.heap.size + 1 + 1, 4, none⟩ (.int .i64 t.cap.p)).setCell ⟨w.heap.size + 1 + 1, 5, none⟩ (.slice A1 t.labs.length c1)).setCell ⟨w.heap.size + 1 + 1, 6, none⟩ (.slice A2 t.taints.length c2)).setCell ⟨w.heap.size + 1 + 1, 7, none⟩ (.bool t.cordon)) := below8 hC3 (by omega)
  generalize ((((((((w3.setCell ⟨w.heap.size + 1 + 1, 0, none⟩ (.int .i64 t.id)).setCell ⟨w.heap.size + 1 + 1, 1, none⟩ (.int .i64 t.pool)).setCell ⟨w.heap.size + 1 + 1, 2, none⟩ (.int .i64 t.cap.c)).setCell ⟨w.heap.size + 1 + 1, 3, none⟩ (.int .i64 t.cap.m)).setCell ⟨w.heap.size + 1 + 1, 4, none⟩ (.int .i64 t.cap.p)).setCell ⟨w.heap.size + 1 + 1, 5, none⟩ (.slice A1 t.labs.length c1)).setCell ⟨w.heap.size + 1 + 1, 6, none⟩ (.slice A2 t.taints.length c2)).setCell ⟨w.heap.size + 1 + 1, 7, none⟩ (.bool t.cordon)) = X at hZ hX ⊢
  have z0 := hZ.cell 0; have z1 := hZ.cell 1; have z2 := hZ.cell 2; have z3 := hZ.cell 3; have z4 := hZ.cell 4; have z5 := hZ.cell 5; have z6 := hZ.cell 6; have z7 := hZ.cell 7
  simp at z0 z1 z2 z3 z4 z5 z6 z7
  exact bodyPost_ret (v := .tuple #[.agg #[.int .i64 t.id, .int .i64 t.pool, .int .i64 t.cap.c, .int .i64 t.cap.m, .int .i64 t.cap.p, .slice A1 t.labs.length c1, .slice A2 t.taints.length c2, .bool t.cordon], .bool o.isSome]) (by simp [results, Tryz.results133, go_sem, z0, z1, z2, z3, z4, z5, z6, z7]) rfl ⟨_, rfl, by rw [HG.out]; exact HR.out, hX⟩
end Go.Proofs.YtmkpajjnjgnmkabGreatDoor

namespace Go.Proofs.YtmkpajjnjgnmkabGreatDoor
open Go.RowKit

theorem rhN {α : Type} (a : α) (l : List α) : (a :: l).toArray[0]? = some a := rfl
theorem rhM {α : Type} (a : α) (l : List α) (n : Nat) : (a :: l).toArray[n + 1]? = l.toArray[n]? := by simp
theorem rhA {α : Type} (l : List α) (i : Nat) (a : α) : l.toArray.setIfInBounds i a = (l.set i a).toArray := by simp
theorem rhS {α : Type} (x a : α) (l : List α) : (x :: l).set 0 a = a :: l := rfl
theorem rhT {α : Type} (x a : α) (l : List α) (n : Nat) : (x :: l).set (n + 1) a = x :: l.set n a := rfl
section
variable {P : Program} {ops : Array Oper} {Q : Exit → Act → World → Prop} {md : Region.Mode} {S : World → Prop}
theorem hTake {i : Nat} {oi : Oper} {v : Value} {d : Option Tmp} {fuel : Nat} {listed : Array Bool} {a : Act} {w : World} (hi : ops[i]? = some oi) (hd : oi.dst = d)
    (hb : (Region.noSelect ops && (Region.free md ops listed i && (Region.ready md ops listed).contains i)) = true)
    (hQ : ∀ c a w, Q (.panic c) (a.put d v) w → Q (.panic c) a w) (hw : Region.wanted oi (yielded ops a.tmps) = true) (hy : ∀ w, S w → (execOp a.eval oi).run P w = .ok (.value v) w) (hS : S w)
    (h : wpAnyH P md ops Q S fuel (listed.setIfInBounds i true) (a.put d v) w) : wpAnyH P md ops Q S (fuel + 1) listed a w := by
  subst hd
  simp only [Bool.and_eq_true] at hb
  exact wpAnyH_take hi hb.1 hb.2.1 hb.2.2 hQ (.inl ⟨hw, hy⟩) hS h
theorem hSkip {i : Nat} {oi : Oper} {d : Option Tmp} {fuel : Nat} {listed : Array Bool} {a : Act} {w : World} (hi : ops[i]? = some oi) (hd : oi.dst = d)
    (hb : (Region.noSelect ops && (Region.free md ops listed i && (Region.ready md ops listed).contains i)) = true)
    (hQ : ∀ c a w, Q (.panic c) (a.put d undef) w → Q (.panic c) a w) (hw : Region.wanted oi (yielded ops a.tmps) = false) (hS : S w)
    (h : wpAnyH P md ops Q S fuel (listed.setIfInBounds i true) (a.put d undef) w) : wpAnyH P md ops Q S (fuel + 1) listed a w := by
  subst hd
  simp only [Bool.and_eq_true] at hb
  exact wpAnyH_take hi hb.1 hb.2.1 hb.2.2 hQ (.inr ⟨hw, rfl⟩) hS h
theorem hT (i : Nat) {oi : Oper} {v : Value} {d : Option Tmp} {fuel : Nat} {listed : Array Bool} {a : Act} {w : World} (h : wpAnyH P md ops Q S fuel (listed.setIfInBounds i true) (a.put d v) w)
    (hi : ops[i]? = some oi := by (simp only [rhN, rhM]; try rfl)) (hd : oi.dst = d := by first | rfl | (dsimp only; rfl)) (hw : Region.wanted oi (yielded ops a.tmps) = true := by rfl)
    (hQ : ∀ c a w, Q (.panic c) (a.put d v) w → Q (.panic c) a w := by exact fun _ _ _ h => h) (hy : ∀ w, S w → (execOp a.eval oi).run P w = .ok (.value v) w := by (intro w hSw; (try dsimp only at hSw); go_simp <;> with_reducible rfl))
    (hS : S w := by assumption) (hb : (Region.noSelect ops && (Region.free md ops listed i && (Region.ready md ops listed).contains i)) = true := by kernel_rfl) : wpAnyH P md ops Q S (fuel + 1) listed a w := hTake hi hd hb hQ hw hy hS h
theorem hP (i : Nat) {oi : Oper} {d : Option Tmp} {fuel : Nat} {listed : Array Bool} {a : Act} {w : World} (h : wpAnyH P md ops Q S fuel (listed.setIfInBounds i true) (a.put d undef) w)
    (hi : ops[i]? = some oi := by (simp only [rhN, rhM]; try rfl)) (hd : oi.dst = d := by first | rfl | (dsimp only; rfl)) (hw : Region.wanted oi (yielded ops a.tmps) = false := by rfl)
    (hQ : ∀ c a w, Q (.panic c) (a.put d undef) w → Q (.panic c) a w := by exact fun _ _ _ h => h) (hS : S w := by assumption)
    (hb : (Region.noSelect ops && (Region.free md ops listed i && (Region.ready md ops listed).contains i)) = true := by kernel_rfl) : wpAnyH P md ops Q S (fuel + 1) listed a w := hSkip hi hd hb hQ hw hS h
theorem hCall {i : Nat} {o : Oper} {fuel : Nat} {listed : Array Bool} {a : Act} {w : World} (ho : ops[i]? = some o) (hr : Region.ready md ops listed = [i]) (hw : Region.wanted o (yielded ops a.tmps) = true)
    (h : ∀ K' : Act → World → Prop, Shut (∀ a w, S w → (S w → wpAnyH P md ops Q S fuel (listed.setIfInBounds i true) a w) → K' a w) → Oper.wp P o a w K' Q) : wpAnyH P md ops Q S (fuel + 1) listed a w :=
  wpAnyH_ready hr (by simp) (AllReadyH.cons ho (fun K' hK => by rw [if_pos hw]; exact h K' hK) AllReadyH.nil)
end
end Go.Proofs.YtmkpajjnjgnmkabGreatDoor

namespace Go.Proofs.YtmkpajjnjgnmkabGreatDoor
open Go.RowKit

theorem szTV_ok {z : Int} {a b : Nat} {y : Int} (h : szTV z a b = y) : y = -1 ∨ (0 ≤ z → 0 ≤ y ∧ y ≤ z ∧ (a : Int) ≤ z ∧ (b : Int) ≤ z) := by
  unfold szTV szLeft at h
  split at h
  · split at h
    · right; intro; omega
    · left; omega
  · left; omega
def TaskQ (w : World) (t : TV) (cs : List Value) : Prop := ∃ v1 v2, cs = [.int .i64 t.id, .int .i64 t.prio, .int .i64 t.need.c, .int .i64 t.need.m, .int .i64 t.need.p, v1, v2] ∧ LabSl w v1 t.want ∧ IntSl w v2 t.tols ∧ t.want.length ≤ maxLen ∧ t.tols.length ≤ maxLen
def NodeQ (w : World) (t : NV) (cs : List Value) : Prop := ∃ v1 v2, cs = [.int .i64 t.id, .int .i64 t.pool, .int .i64 t.cap.c, .int .i64 t.cap.m, .int .i64 t.cap.p, v1, v2, .bool t.cordon] ∧ LabSl w v1 t.labs ∧ IntSl w v2 t.taints ∧ t.labs.length ≤ maxLen ∧ t.taints.length ≤ maxLen
theorem TaskQ.kept : Kept TaskQ := fun _ _ _ _ hb ⟨v1, v2, e, h1, h2, h3⟩ => ⟨v1, v2, e, h1.below hb, h2.below hb, h3⟩
theorem NodeQ.kept : Kept NodeQ := fun _ _ _ _ hb ⟨v1, v2, e, h1, h2, h3⟩ => ⟨v1, v2, e, h1.below hb, h2.below hb, h3⟩
def TV.small (t : TV) : Prop := t.want.length ≤ 1048576 ∧ t.tols.length ≤ 1048576
def NV.small (t : NV) : Prop := t.labs.length ≤ 1048576 ∧ t.taints.length ≤ 1048576

def CluQ (w : World) (c : CV) (a0 a1 a2 : Value) : Prop := GSl TaskQ 7 w a0 c.tasks ∧ GSl NodeQ 8 w a1 c.nodes ∧ BindSl w a2 c.binds ∧ c.tasks.length ≤ maxLen ∧ c.nodes.length ≤ maxLen ∧ c.binds.length ≤ maxLen
theorem CluQ.below {w w' : World} {c : CV} {a0 a1 a2 : Value} (h : CluQ w c a0 a1 a2) (hb : Below w.heap.size w w') : CluQ w' c a0 a1 a2 := by
  obtain ⟨h0, h1, h2, h3⟩ := h
  exact ⟨h0.below TaskQ.kept hb, h1.below NodeQ.kept hb, h2.below hb, h3⟩
def CV.small (c : CV) : Prop := c.tasks.length ≤ 1048576 ∧ (∀ t ∈ c.tasks, t.small) ∧ c.nodes.length ≤ 1048576 ∧ (∀ t ∈ c.nodes, t.small) ∧ c.binds.length ≤ 1048576
theorem GSl.small {α : Type} {R S : World → α → List Value → Prop} {n : Nat} {w : World} {v : Value} {l : List α} (h : GSl R n w v l) (hRS : ∀ x ∈ l, ∀ cs, R w x cs → S w x cs) : GSl S n w v l := by
  rcases h with h | ⟨b, off, c, rfl, hlt, h⟩
  · exact .inl h
  · refine .inr ⟨b, off, c, rfl, hlt, fun i x hx => ?_⟩
    obtain ⟨cs, h1, h2⟩ := h i x hx
    exact ⟨cs, hRS x (List.mem_of_getElem? hx) _ h1, h2⟩
theorem CluQ.clu {w : World} {c : CV} {a0 a1 a2 : Value} (h : CluQ w c a0 a1 a2) (hs : c.small) : CluR w c a0 a1 a2 := by
  obtain ⟨h0, h1, h2, h3⟩ := h
  obtain ⟨s0, s1, s2, s3, s4⟩ := hs
  exact ⟨h0.small fun x hx cs ⟨v1, v2, e, a, b, _⟩ => ⟨v1, v2, e, a, b, s1 x hx⟩, h1.small fun x hx cs ⟨v1, v2, e, a, b, _⟩ => ⟨v1, v2, e, a, b, s3 x hx⟩, h2, s0, s2, s4⟩

end Go.Proofs.YtmkpajjnjgnmkabGreatDoor

namespace Go.Proofs.YtmkpajjnjgnmkabGreatDoor
open Go.ChangeShapes Go.WideShapes Go.ChangeAt Go.RowKit Go.Joins

section
variable {H : Type} {enc : TypeId × Value → H} {W : World}
theorem open_gslice {α : Type} {R : World → α → List Value → Prop} {n : Nat} {T E : TypeId} (z : α) (hn : 0 < n) (hu : Tryz.prog.underlying T = some (.slice E)) (hcE : Tryz.prog.cellsOf E = n)
    (hop : ∀ (fuel : Nat) (cs : List Value) (x : DataW H × List MemPlace), DataW.trod enc Tryz.prog W 0 (fun _ => true) true fuel E cs = some x → ∃ t, R W t cs)
    {fuel : Nat} {v : Value} {x : DataW H × List MemPlace} (h : DataW.trod enc Tryz.prog W 0 (fun _ => true) true fuel T [v] = some x) : ∃ l : List α, l.length ≤ maxLen ∧ GSl R n W v l := by
  rcases Go.Deep.open_slice hu h with ⟨hcs, _⟩ | ⟨a, len, cap, m, n', D, Pl, hcs, hb, hl, hm, hmm, hx, hi⟩
  · simp at hcs
    subst hcs
    exact ⟨[], by simp, .inl ⟨rfl, _, _, rfl⟩⟩
  · simp at hcs
    subst hcs
    rw [if_pos rfl] at hmm
    subst hmm
    have hel : ∀ i, i < len → ∃ (t : α) (cs : List Value), R W t cs ∧ cs.length = n ∧ ∀ (j : Nat) (u : Value), cs[j]? = some u → W.cell? (a.add (i * n + j)) = some u := by
      intro i hin
      obtain ⟨cs', hc, ht⟩ := hi i (by omega)
      rw [hcE] at hc
      obtain ⟨t, hR⟩ := hop _ _ _ ht
      obtain ⟨_, hlen, hat⟩ := World.cells?_some hc
      refine ⟨t, cs', hR, hlen, fun j u hj => ?_⟩
      have hjn : j < n := by rw [← hlen]; exact (List.getElem?_eq_some_iff.1 hj).1
      have := hat j hjn
      rw [Go.Deep.add_add] at this
      exact this.trans hj
    obtain ⟨f, hf⟩ : ∃ f : Nat → α, ∀ i, i < len → ∃ cs : List Value, R W (f i) cs ∧ cs.length = n ∧ ∀ (j : Nat) (u : Value), cs[j]? = some u → W.cell? (a.add (i * n + j)) = some u := by
      classical
      refine ⟨fun i => if hi : i < len then Classical.choose (hel i hi) else z, fun i hi => ?_⟩
      simp only [dif_pos hi]
      exact Classical.choose_spec (hel i hi)
    refine ⟨(List.range len).map f, by simp; omega, ?_⟩
    rcases Nat.eq_zero_or_pos len with rfl | hp
    · exact .inl ⟨rfl, _, _, rfl⟩
    · obtain ⟨b, off, spot⟩ := a
      obtain ⟨cs0, _, hl0, h0⟩ := hf 0 hp
      obtain ⟨u0, hu0⟩ : ∃ u, cs0[0]? = some u := ⟨_, List.getElem?_eq_getElem (by omega)⟩
      have h0 := h0 0 u0 hu0
      have hspot : spot = none := by simpa [Addr.add] using World.cell?_spot h0
      subst hspot
      have hlt := World.block_lt_of_cell? _ _ h0
      refine .inr ⟨b, off, m, by simp, by simpa [Addr.add] using hlt, fun i r hr => ?_⟩
      have hi : i < len := by
        have := (List.getElem?_eq_some_iff.1 hr).1
        simpa using this
      have hri : f i = r := by simpa [hi] using hr
      obtain ⟨cs, hR, _, hc⟩ := hf i hi
      rw [hri] at hR
      refine ⟨cs, hR, fun j u hj => ?_⟩
      have := hc j u hj
      rw [add_plain, ← Nat.add_assoc] at this
      exact this
end
end Go.Proofs.YtmkpajjnjgnmkabGreatDoor

namespace Go.Proofs.YtmkpajjnjgnmkabGreatDoor
open Go.RowKit

def blk (v : Value) : List Nat := v.ownBlock.toList
def Agree (bs : List Nat) (w w' : World) : Prop := ∀ b ∈ bs, w'.heap[b]? = w.heap[b]?
theorem Agree.left {a b : List Nat} {w w' : World} (h : Agree (a ++ b) w w') : Agree a w w' := fun x hx => h x (List.mem_append_left _ hx)
theorem Agree.right {a b : List Nat} {w w' : World} (h : Agree (a ++ b) w w') : Agree b w w' := fun x hx => h x (List.mem_append_right _ hx)
theorem Agree.trans {bs : List Nat} {w w1 w2 : World} (h : Agree bs w w1) (k : Agree bs w1 w2) : Agree bs w w2 := fun b hb => (k b hb).trans (h b hb)
theorem Agree.of_below {bs : List Nat} {B : Nat} {w w' : World} (hb : Below B w w') (h : ∀ b ∈ bs, b < B) : Agree bs w w' := fun b hx => hb.block b (h b hx)
theorem Agree.of_grown {bs : List Nat} {w w' : World} {row : Option Nat} (hg : w.grownBy w' row) (h : ∀ b ∈ bs, b < w.heap.size ∧ some b ≠ row) : Agree bs w w' := fun b hx => hg.block b (h b hx).1 (h b hx).2

section
variable {w w' : World} {e : TypeId} {size n : Nat} {v : Value} {xs : List Value}
theorem own_agree {base : Nat} (h : w.ownsRow base e size v n xs) (ha : Agree (blk v) w w') : w'.ownsRow base e size v n xs := by
  obtain ⟨h1, h2⟩ := h
  refine ⟨h1, ?_⟩
  rcases h2 with h | ⟨g, cap, cur, rfl, hg, hh, h⟩
  · exact .inl h
  · exact .inr ⟨g, cap, cur, rfl, hg, (ha g (by simp [blk, Value.ownBlock])).trans hh, h⟩
theorem own_lt {base : Nat} (h : w.ownsRow base e size v n xs) : ∀ b ∈ blk v, b < w.heap.size := by
  rcases h.2 with ⟨rfl, _⟩ | ⟨g, cap, cur, rfl, hg, hh, _⟩
  · intro b hb; simp [blk, Value.ownBlock] at hb
  · intro b hb
    simp [blk, Value.ownBlock] at hb
    subst hb
    exact (Array.getElem?_eq_some_iff.1 hh).1
theorem own_form {base : Nat} (h : w.ownsRow base e size v n xs) : ∃ A c, v = .slice A n c ∧ (0 < n → ∃ b, A = some ⟨b, 0, none⟩ ∧ b < w.heap.size ∧ CellsAt w b 0 xs) := by
  obtain ⟨h1, h2⟩ := h
  rcases h2 with ⟨rfl, rfl⟩ | ⟨g, cap, cur, rfl, hg, hh, hnc, _, hs, ht⟩
  · exact ⟨none, 0, rfl, fun h => absurd h (by omega)⟩
  · refine ⟨_, cap, rfl, fun _ => ⟨g, rfl, (Array.getElem?_eq_some_iff.1 hh).1, fun j u hu => ?_⟩⟩
    rw [← ht] at hu
    have hj : j < n * size := by
      have := (List.getElem?_eq_some_iff.1 hu).1
      rw [List.length_take] at this; omega
    rw [List.getElem?_take_of_lt hj] at hu
    simp [World.cell?, hh]
    simpa using hu
end

theorem run_append_zero {P : Program} (w : World) (t ty e : TypeId) (i : TypeInfo) (size : Nat) (ht : P.underlying t = some (.slice e)) (hi : P.info? e = some i)
    (v : Value) (n : Nat) (xs : List Value) (A : Option Addr) (c : Nat) (hown : w.ownsRow 0 e size v n xs) :
    (Builtin.append_ #[t, t] ty #[v, .slice A 0 c]).run P w = .ok v w := by
  rcases hown.2 with ⟨rfl, rfl⟩ | ⟨g, cap, cur, rfl, _, _, hnc, _⟩
  · cases A <;> simp [Builtin.append_, run_underlying ht, sizeOf, typeInfo, hi, Builtin.lenOf, Builtin.firstCells, loadCells, loadCellsFrom]
  · cases A <;> simp [Builtin.append_, run_underlying ht, sizeOf, typeInfo, hi, Builtin.lenOf, Builtin.firstCells, hnc, storeCells, loadCells, loadCellsFrom]
theorem grownBy_refl (w : World) (row : Option Nat) : w.grownBy w row := ⟨rfl, rfl, rfl, Nat.le_refl _, fun _ _ _ => rfl⟩
theorem cellsAt_add {w : World} {b off : Nat} {news : List Value} (h : CellsAt w b off news) : ∀ j u, news[j]? = some u → w.cell? ((⟨b, off, none⟩ : Addr).add j) = some u := fun j u hu => by
  rw [Go.WideShapes.add_plain]; exact h j u hu
section
variable {P : Program} {ops : Array Oper} {rest : List Oper} {o : Oper} {a : Act} {Q : Exit → Act → World → Prop}
theorem wpList_spread (w : World) (hgd : o.guard = none) (s x : Operand) (t : TypeId)
    (ho : o.op = .call { callee := .builtin .append, args := #[s, x], argTypes := #[t, t] })
    (e : TypeId) (i : TypeInfo) (z : Value) (size bytes : Nat) (ht : P.underlying t = some (.slice e)) (hi : P.info? e = some i) (hz : i.zero = some z)
    (hsize : i.size = size) (hby : i.bytes = bytes) (hzs : z.cells.size = size) (hsz : 0 < size)
    (v : Value) (n : Nat) (xs : List Value) (hs : a.eval s = v) (hown : w.ownsRow 0 e size v n xs)
    (A : Option Addr) (m c : Nat) (news : List Value) (hx : a.eval x = .slice A m c) (hl : news.length = m * size) (hnews : 0 < m → ∃ b off, A = some ⟨b, off, none⟩ ∧ CellsAt w b off news) (h1 : ∀ u ∈ news, u.oneCell' = true)
    (h63 : n + m ≤ maxLen) (hbytes : (n + m) * bytes ≤ 140737488355328)
    (h : ∀ v' w', w'.ownsRow 0 e size v' (n + m) (xs ++ news) → w.grownBy w' v.ownBlock → (v'.ownBlock = v.ownBlock ∨ v'.ownBlock = some w.heap.size) → wpList P ops Q rest (a.put o.dst v') w') :
    wpList P ops Q (o :: rest) a w := by
  rcases Nat.eq_zero_or_pos m with rfl | hm
  · obtain rfl : news = [] := List.eq_nil_of_length_eq_zero (by simpa using hl)
    refine wpList_plain hgd fun K hK => ?_
    have hrun := run_append_zero (P := P) w t o.type e i size ht hi v n xs A c hown
    unfold Oper.wp
    simp [execOp, ho, resolve, invoke, builtin, hs, hx, hrun, Result.andThen]
    exact hK _ _ (h v w (by simpa using hown) (grownBy_refl _ _) (.inl rfl))
  · obtain ⟨b, off, rfl, hc⟩ := hnews hm
    exact wpList_append_own_at w hgd s x t ho 0 e i z size bytes ht hi hz hsize hby hzs hsz v n xs hs hown ⟨b, off, none⟩ m c news hx hl (cellsAt_add hc) h1 h63 hbytes (Nat.zero_le _) (fun v' w' h2 h3 _ h5 => h v' w' h2 h3 h5)
end

def Elems {α : Type} (R : World → α → List Value → List Nat → Prop) (w : World) : List α → List Value → List Nat → Prop
  | [], xs, bs => xs = [] ∧ bs = []
  | x :: r, xs, bs => ∃ cs ys b1 b2, xs = cs ++ ys ∧ bs = b1 ++ b2 ∧ R w x cs b1 ∧ Elems R w r ys b2
def Framed {α : Type} (R : World → α → List Value → List Nat → Prop) : Prop := ∀ (w w' : World) (x : α) (cs : List Value) (bs : List Nat), R w x cs bs → Agree bs w w' → R w' x cs bs
section
variable {α : Type} {R : World → α → List Value → List Nat → Prop} {w w' : World} {l : List α} {xs : List Value} {bs : List Nat}
theorem Elems.agree (hR : Framed R) (h : Elems R w l xs bs) (ha : Agree bs w w') : Elems R w' l xs bs := by
  induction l generalizing xs bs with
  | nil => exact h
  | cons x r ih =>
    obtain ⟨cs, ys, b1, b2, rfl, rfl, h1, h2⟩ := h
    exact ⟨cs, ys, b1, b2, rfl, rfl, hR _ _ _ _ _ h1 ha.left, ih h2 ha.right⟩
theorem Elems.snoc {x : α} {cs : List Value} {b : List Nat} (h : Elems R w l xs bs) (hx : R w x cs b) : Elems R w (l ++ [x]) (xs ++ cs) (bs ++ b) := by
  induction l generalizing xs bs with
  | nil =>
    obtain ⟨rfl, rfl⟩ := h
    exact ⟨cs, [], b, [], by simp, by simp, hx, rfl, rfl⟩
  | cons y r ih =>
    obtain ⟨ds, ys, b1, b2, rfl, rfl, h1, h2⟩ := h
    exact ⟨ds, ys ++ cs, b1, b2 ++ b, by simp, by simp, h1, ih h2⟩
theorem Elems.at {n : Nat} (hn : ∀ x cs b, R w x cs b → cs.length = n) (h : Elems R w l xs bs) {i : Nat} {x : α} (hx : l[i]? = some x) : ∃ cs b, R w x cs b ∧ (∀ c ∈ b, c ∈ bs) ∧ ∀ (j : Nat) (u : Value), cs[j]? = some u → xs[i * n + j]? = some u := by
  induction l generalizing xs bs i with
  | nil => simp at hx
  | cons y r ih =>
    obtain ⟨ds, ys, b1, b2, rfl, rfl, h1, h2⟩ := h
    cases i with
    | zero =>
      simp at hx; subst hx
      refine ⟨ds, b1, h1, fun c hc => List.mem_append_left _ hc, fun j u hu => ?_⟩
      rw [Nat.zero_mul, Nat.zero_add, List.getElem?_append_left (List.getElem?_eq_some_iff.1 hu).1]; exact hu
    | succ i =>
      obtain ⟨cs, b, a1, a2, a3⟩ := ih h2 (by simpa using hx)
      refine ⟨cs, b, a1, fun c hc => List.mem_append_right _ (a2 c hc), fun j u hu => ?_⟩
      have := hn _ _ _ h1
      rw [List.getElem?_append_right (by rw [this, Nat.add_mul]; omega), this, show (i + 1) * n + j - n = i * n + j by rw [Nat.add_mul]; omega]
      exact a3 j u hu
def RowO (R : World → α → List Value → List Nat → Prop) (ty : TypeId) (n : Nat) (w : World) (v : Value) (l : List α) (bs : List Nat) : Prop := ∃ xs b, w.ownsRow 0 ty n v l.length xs ∧ Elems R w l xs b ∧ bs = blk v ++ b
theorem RowO.agree {ty : TypeId} {n : Nat} {v : Value} (hR : Framed R) (h : RowO R ty n w v l bs) (ha : Agree bs w w') : RowO R ty n w' v l bs := by
  obtain ⟨xs, b, h1, h2, rfl⟩ := h
  exact ⟨xs, b, own_agree h1 ha.left, h2.agree hR ha.right, rfl⟩
theorem RowO.sl {ty : TypeId} {n : Nat} {v : Value} {S : World → α → List Value → Prop} (hn : ∀ x cs b, R w x cs b → cs.length = n) (hS : ∀ x cs b, R w x cs b → S w x cs) (h : RowO R ty n w v l bs) : GSl S n w v l := by
  obtain ⟨xs, b, h1, h2, rfl⟩ := h
  obtain ⟨A, c, rfl, hA⟩ := own_form h1
  rcases Nat.eq_zero_or_pos l.length with h0 | hp
  · obtain rfl : l = [] := List.eq_nil_of_length_eq_zero h0
    exact .inl ⟨rfl, _, _, rfl⟩
  · obtain ⟨g, rfl, hlt, hc⟩ := hA hp
    refine .inr ⟨g, 0, c, rfl, hlt, fun i x hx => ?_⟩
    obtain ⟨cs, b', a1, _, a3⟩ := h2.at hn hx
    exact ⟨cs, hS _ _ _ a1, fun j u hu => by rw [show 0 + i * n + j = 0 + (i * n + j) by omega]; exact hc _ _ (a3 j u hu)⟩
end

def intL (l : List Int) : List Value := l.map (Value.int .i64)
def LabO (w : World) (v : Value) (l : List LV) : Prop := w.ownsRow 0 110 2 v l.length (labL l)
def IntO (w : World) (v : Value) (l : List Int) : Prop := w.ownsRow 0 3 1 v l.length (intL l)
theorem LabO.sl {w : World} {v : Value} {l : List LV} (h : LabO w v l) : LabSl w v l := by
  obtain ⟨A, c, rfl, hA⟩ := own_form h
  rcases Nat.eq_zero_or_pos l.length with h0 | hp
  · obtain rfl : l = [] := List.eq_nil_of_length_eq_zero h0
    exact .inl ⟨rfl, _, _, rfl⟩
  · obtain ⟨g, rfl, hlt, hc⟩ := hA hp
    refine .inr ⟨g, 0, c, rfl, hlt, fun i r hr => ?_⟩
    obtain ⟨h1, h2⟩ := labL_at hr
    exact ⟨hc _ _ h1, hc _ _ h2⟩
theorem IntO.sl {w : World} {v : Value} {l : List Int} (h : IntO w v l) : IntSl w v l := by
  obtain ⟨A, c, rfl, hA⟩ := own_form h
  rcases Nat.eq_zero_or_pos l.length with h0 | hp
  · obtain rfl : l = [] := List.eq_nil_of_length_eq_zero h0
    exact .inl ⟨rfl, _, _, rfl⟩
  · obtain ⟨g, rfl, hlt, hc⟩ := hA hp
    exact .inr ⟨g, 0, c, rfl, hlt, fun i r hr => hc _ _ (by simp [intL, hr])⟩
def TaskO (w : World) (t : TV) (cs : List Value) (bs : List Nat) : Prop := ∃ v1 v2, cs = [.int .i64 t.id, .int .i64 t.prio, .int .i64 t.need.c, .int .i64 t.need.m, .int .i64 t.need.p, v1, v2] ∧ LabO w v1 t.want ∧ IntO w v2 t.tols ∧ bs = blk v1 ++ blk v2 ∧ t.want.length ≤ 1048576 ∧ t.tols.length ≤ 1048576
def NodeO (w : World) (t : NV) (cs : List Value) (bs : List Nat) : Prop := ∃ v1 v2, cs = [.int .i64 t.id, .int .i64 t.pool, .int .i64 t.cap.c, .int .i64 t.cap.m, .int .i64 t.cap.p, v1, v2, .bool t.cordon] ∧ LabO w v1 t.labs ∧ IntO w v2 t.taints ∧ bs = blk v1 ++ blk v2 ∧ t.labs.length ≤ 1048576 ∧ t.taints.length ≤ 1048576
def BindO (_ : World) (t : BV) (cs : List Value) (bs : List Nat) : Prop := cs = [.int .i64 t.task, .int .i64 t.node] ∧ bs = []
theorem TaskO.framed : Framed TaskO := fun _ _ _ _ _ ⟨v1, v2, e, h1, h2, hb, h3⟩ ha => by
  subst hb
  exact ⟨v1, v2, e, own_agree h1 ha.left, own_agree h2 ha.right, rfl, h3⟩
theorem TaskO.r {w : World} {t : TV} {cs : List Value} {bs : List Nat} (h : TaskO w t cs bs) : TaskR w t cs := by
  obtain ⟨v1, v2, e, h1, h2, _, h3⟩ := h
  exact ⟨v1, v2, e, h1.sl, h2.sl, h3⟩
theorem TaskO.len {w : World} {t : TV} {cs : List Value} {bs : List Nat} (h : TaskO w t cs bs) : cs.length = 7 := by
  obtain ⟨v1, v2, e, _⟩ := h; subst e; rfl
theorem TaskO.lt {w : World} {t : TV} {cs : List Value} {bs : List Nat} (h : TaskO w t cs bs) : ∀ b ∈ bs, b < w.heap.size := by
  obtain ⟨v1, v2, _, h1, h2, rfl, _⟩ := h
  intro b hb
  rcases List.mem_append.1 hb with hb | hb
  · exact own_lt h1 b hb
  · exact own_lt h2 b hb
theorem NodeO.framed : Framed NodeO := fun _ _ _ _ _ ⟨v1, v2, e, h1, h2, hb, h3⟩ ha => by
  subst hb
  exact ⟨v1, v2, e, own_agree h1 ha.left, own_agree h2 ha.right, rfl, h3⟩
theorem NodeO.r {w : World} {t : NV} {cs : List Value} {bs : List Nat} (h : NodeO w t cs bs) : NodeR w t cs := by
  obtain ⟨v1, v2, e, h1, h2, _, h3⟩ := h
  exact ⟨v1, v2, e, h1.sl, h2.sl, h3⟩
theorem NodeO.len {w : World} {t : NV} {cs : List Value} {bs : List Nat} (h : NodeO w t cs bs) : cs.length = 8 := by
  obtain ⟨v1, v2, e, _⟩ := h; subst e; rfl
theorem NodeO.lt {w : World} {t : NV} {cs : List Value} {bs : List Nat} (h : NodeO w t cs bs) : ∀ b ∈ bs, b < w.heap.size := by
  obtain ⟨v1, v2, _, h1, h2, rfl, _⟩ := h
  intro b hb
  rcases List.mem_append.1 hb with hb | hb
  · exact own_lt h1 b hb
  · exact own_lt h2 b hb
theorem BindO.framed : Framed BindO := fun _ _ _ _ _ h _ => h
theorem BindO.r {w : World} {t : BV} {cs : List Value} {bs : List Nat} (h : BindO w t cs bs) : BindR w t cs := h.1
theorem BindO.len {w : World} {t : BV} {cs : List Value} {bs : List Nat} (h : BindO w t cs bs) : cs.length = 2 := by rw [h.1]; rfl
theorem BindO.lt {w : World} {t : BV} {cs : List Value} {bs : List Nat} (h : BindO w t cs bs) : ∀ b ∈ bs, b < w.heap.size := by rw [h.2]; simp
theorem elems_lt {α : Type} {R : World → α → List Value → List Nat → Prop} {w : World} {l : List α} {xs : List Value} {bs : List Nat} (hR : ∀ x cs b, R w x cs b → ∀ c ∈ b, c < w.heap.size) (h : Elems R w l xs bs) : ∀ b ∈ bs, b < w.heap.size := by
  induction l generalizing xs bs with
  | nil => obtain ⟨_, rfl⟩ := h; simp
  | cons x r ih =>
    obtain ⟨cs, ys, b1, b2, rfl, rfl, h1, h2⟩ := h
    intro b hb
    rcases List.mem_append.1 hb with hb | hb
    · exact hR _ _ _ h1 b hb
    · exact ih h2 b hb
end Go.Proofs.YtmkpajjnjgnmkabGreatDoor

namespace Go.Proofs.YtmkpajjnjgnmkabGreatDoor
open Go.RowKit

def setAll (cs : Array Value) (o : Nat) : List Value → Array Value
  | [] => cs
  | u :: r => setAll (cs.setIfInBounds o u) (o + 1) r
def putAll (w : World) (g o : Nat) : List Value → World
  | [] => w
  | u :: r => putAll (w.setCell ⟨g, o, none⟩ u) g (o + 1) r
theorem setAll_size (cs : Array Value) (o : Nat) (ds : List Value) : (setAll cs o ds).size = cs.size := by
  induction ds generalizing cs o with
  | nil => rfl
  | cons u r ih => simp [setAll, ih]
theorem setAll_far {cs : Array Value} {o i : Nat} {ds : List Value} (h : i < o ∨ o + ds.length ≤ i) : (setAll cs o ds)[i]? = cs[i]? := by
  induction ds generalizing cs o with
  | nil => rfl
  | cons u r ih =>
    simp only [List.length_cons] at h
    rw [setAll, ih (by omega), Array.getElem?_setIfInBounds_ne (by omega)]
theorem setAll_at {cs : Array Value} {o j : Nat} {ds : List Value} {u : Value} (hj : ds[j]? = some u) (h : o + ds.length ≤ cs.size) : (setAll cs o ds)[o + j]? = some u := by
  induction ds generalizing cs o j with
  | nil => simp at hj
  | cons x r ih =>
    simp only [List.length_cons] at h
    cases j with
    | zero =>
      simp at hj; subst hj
      rw [setAll, setAll_far (by omega), Nat.add_zero, Array.getElem?_setIfInBounds_self_of_lt (by omega)]
    | succ j =>
      have := ih (cs := cs.setIfInBounds o x) (o := o + 1) (j := j) (by simpa using hj) (by simp; omega)
      rw [setAll, show o + (j + 1) = o + 1 + j by omega]
      exact this
theorem BlockIs.putAll {w : World} {g o : Nat} {t : TypeId} {cs : Array Value} {ds : List Value} (h : BlockIs w g t cs) : BlockIs (putAll w g o ds) g t (setAll cs o ds) := by
  induction ds generalizing w o cs with
  | nil => exact h
  | cons u r ih => exact ih (h.put o u)
theorem BlockIs.putFar {w : World} {g b o : Nat} {t : TypeId} {cs : Array Value} {ds : List Value} (h : BlockIs w b t cs) (hne : b ≠ g) : BlockIs (Go.Proofs.YtmkpajjnjgnmkabGreatDoor.putAll w g o ds) b t cs := by
  induction ds generalizing w o with
  | nil => exact h
  | cons u r ih => exact ih (h.far hne u)
theorem IntAt.putFar {w : World} {g b o off : Nat} {l : List Int} {ds : List Value} (h : IntAt w b off l) (hne : b ≠ g) : IntAt (putAll w g o ds) b off l := by
  induction ds generalizing w o with
  | nil => exact h
  | cons u r ih => exact ih (h.far hne u)
theorem putAll_size {w : World} {g o : Nat} {ds : List Value} : (putAll w g o ds).heap.size = w.heap.size := by
  induction ds generalizing w o with
  | nil => rfl
  | cons u r ih => rw [putAll, ih]; simp [World.setCell]
theorem putAll_below {B : Nat} {a w : World} {g o : Nat} {ds : List Value} (h : Below B a w) (hg : B ≤ g) : Below B a (putAll w g o ds) := by
  induction ds generalizing w o with
  | nil => exact h
  | cons u r ih => exact ih (h.setCell hg u)

def TaskN (base : Nat) (w : World) (t : TV) (cs : List Value) : Prop := ∃ g1 g2, cs = [.int .i64 t.id, .int .i64 t.prio, .int .i64 t.need.c, .int .i64 t.need.m, .int .i64 t.need.p, .slice (some ⟨g1, 0, none⟩) t.want.length t.want.length, .slice (some ⟨g2, 0, none⟩) t.tols.length t.tols.length] ∧
  base ≤ g1 ∧ base ≤ g2 ∧ g2 < w.heap.size ∧ BlockIs w g1 110 (labL t.want).toArray ∧ IntAt w g2 0 t.tols ∧ t.want.length ≤ 1048576 ∧ t.tols.length ≤ 1048576
def NodeN (base : Nat) (w : World) (t : NV) (cs : List Value) : Prop := ∃ g1 g2, cs = [.int .i64 t.id, .int .i64 t.pool, .int .i64 t.cap.c, .int .i64 t.cap.m, .int .i64 t.cap.p, .slice (some ⟨g1, 0, none⟩) t.labs.length t.labs.length, .slice (some ⟨g2, 0, none⟩) t.taints.length t.taints.length, .bool t.cordon] ∧
  base ≤ g1 ∧ base ≤ g2 ∧ g2 < w.heap.size ∧ BlockIs w g1 110 (labL t.labs).toArray ∧ IntAt w g2 0 t.taints ∧ t.labs.length ≤ 1048576 ∧ t.taints.length ≤ 1048576
def BindN (_ : Nat) (_ : World) (t : BV) (cs : List Value) : Prop := cs = [.int .i64 t.task, .int .i64 t.node]
theorem TaskN.kept (base : Nat) : Kept (TaskN base) := fun _ _ _ _ hb ⟨g1, g2, e, h1, h2, h3, h4, h5, h6⟩ => ⟨g1, g2, e, h1, h2, Nat.lt_of_lt_of_le h3 hb.size, h4.below hb h4.lt, h5.below hb h3, h6⟩
theorem TaskN.put {base g o : Nat} {w : World} {t : TV} {cs ds : List Value} (h : TaskN base w t cs) (hg : g < base) : TaskN base (putAll w g o ds) t cs := by
  obtain ⟨g1, g2, e, h1, h2, h3, h4, h5, h6⟩ := h
  exact ⟨g1, g2, e, h1, h2, by rw [putAll_size]; exact h3, h4.putFar (by omega), h5.putFar (by omega), h6⟩
theorem TaskN.r {base : Nat} {w : World} {t : TV} {cs : List Value} (h : TaskN base w t cs) : TaskR w t cs := by
  obtain ⟨g1, g2, e, h1, h2, h3, h4, h5, h6⟩ := h
  exact ⟨_, _, e, .inr ⟨g1, 0, _, rfl, h4.lt, LabAt.of_cells h4⟩, .inr ⟨g2, 0, _, rfl, h3, h5⟩, h6⟩
theorem TaskN.len {base : Nat} {w : World} {t : TV} {cs : List Value} (h : TaskN base w t cs) : cs.length = 7 := by
  obtain ⟨g1, g2, e, _⟩ := h; subst e; rfl
theorem NodeN.kept (base : Nat) : Kept (NodeN base) := fun _ _ _ _ hb ⟨g1, g2, e, h1, h2, h3, h4, h5, h6⟩ => ⟨g1, g2, e, h1, h2, Nat.lt_of_lt_of_le h3 hb.size, h4.below hb h4.lt, h5.below hb h3, h6⟩
theorem NodeN.put {base g o : Nat} {w : World} {t : NV} {cs ds : List Value} (h : NodeN base w t cs) (hg : g < base) : NodeN base (putAll w g o ds) t cs := by
  obtain ⟨g1, g2, e, h1, h2, h3, h4, h5, h6⟩ := h
  exact ⟨g1, g2, e, h1, h2, by rw [putAll_size]; exact h3, h4.putFar (by omega), h5.putFar (by omega), h6⟩
theorem NodeN.r {base : Nat} {w : World} {t : NV} {cs : List Value} (h : NodeN base w t cs) : NodeR w t cs := by
  obtain ⟨g1, g2, e, h1, h2, h3, h4, h5, h6⟩ := h
  exact ⟨_, _, e, .inr ⟨g1, 0, _, rfl, h4.lt, LabAt.of_cells h4⟩, .inr ⟨g2, 0, _, rfl, h3, h5⟩, h6⟩
theorem NodeN.len {base : Nat} {w : World} {t : NV} {cs : List Value} (h : NodeN base w t cs) : cs.length = 8 := by
  obtain ⟨g1, g2, e, _⟩ := h; subst e; rfl
theorem BindN.kept (base : Nat) : Kept (BindN base) := fun _ _ _ _ _ h => h
theorem BindN.put {base g o : Nat} {w : World} {t : BV} {cs ds : List Value} (h : BindN base w t cs) (_ : g < base) : BindN base (putAll w g o ds) t cs := h
theorem BindN.r {base : Nat} {w : World} {t : BV} {cs : List Value} (h : BindN base w t cs) : BindR w t cs := h
theorem BindN.len {base : Nat} {w : World} {t : BV} {cs : List Value} (h : BindN base w t cs) : cs.length = 2 := by rw [h]; rfl

def CopyG {α : Type} (R : World → α → List Value → Prop) (n : Nat) (ty : TypeId) (w : World) (g : Nat) (l : List α) (k : Nat) : Prop :=
  ∃ cs : Array Value, BlockIs w g ty cs ∧ cs.size = l.length * n ∧ ∀ (i : Nat) (x : α), i < k → l[i]? = some x → ∃ ds, R w x ds ∧ ds.length = n ∧ ∀ (j : Nat) (u : Value), ds[j]? = some u → cs[i * n + j]? = some u
section
variable {α : Type} {R : World → α → List Value → Prop} {n g k : Nat} {ty : TypeId} {w w' : World} {l : List α}
theorem CopyG.lt (h : CopyG R n ty w g l k) : g < w.heap.size := by obtain ⟨cs, hb, _⟩ := h; exact hb.lt
theorem CopyG.below (hR : Kept R) (h : CopyG R n ty w g l k) (hb : Below w.heap.size w w') : CopyG R n ty w' g l k := by
  obtain ⟨cs, h1, h2, h3⟩ := h
  refine ⟨cs, h1.below hb h1.lt, h2, fun i x hi hx => ?_⟩
  obtain ⟨ds, a, b⟩ := h3 i x hi hx
  exact ⟨ds, hR _ _ _ _ hb a, b⟩
theorem CopyG.step {x : α} {ds : List Value} (h : CopyG R n ty w g l k) (hx : l[k]? = some x) (hd : R (putAll w g (k * n) ds) x ds) (hn : ds.length = n) (hp : ∀ y es, R w y es → R (putAll w g (k * n) ds) y es) : CopyG R n ty (putAll w g (k * n) ds) g l (k + 1) := by
  obtain ⟨cs, h1, h2, h3⟩ := h
  have hk : k < l.length := (List.getElem?_eq_some_iff.1 hx).1
  have hkn : k * n + n ≤ l.length * n := by
    have := Nat.mul_le_mul_right n (show k + 1 ≤ l.length from hk)
    rw [Nat.add_mul, Nat.one_mul] at this; exact this
  refine ⟨_, h1.putAll, by rw [setAll_size, h2], fun i y hi hy => ?_⟩
  by_cases e : i = k
  · subst e
    obtain rfl := Option.some.inj (hx.symm.trans hy)
    exact ⟨ds, hd, hn, fun j u hu => setAll_at hu (by omega)⟩
  · obtain ⟨es, a, b, d⟩ := h3 i y (by omega) hy
    refine ⟨es, hp y es a, b, fun j u hu => ?_⟩
    have hj : j < n := by rw [← b]; exact (List.getElem?_eq_some_iff.1 hu).1
    have hin : i * n + n ≤ k * n := by
      have := Nat.mul_le_mul_right n (show i + 1 ≤ k by omega)
      rw [Nat.add_mul, Nat.one_mul] at this; exact this
    rw [setAll_far (by omega)]; exact d j u hu
theorem CopyG.sl {S : World → α → List Value → Prop} (hRS : ∀ x cs, R w x cs → S w x cs) (h : CopyG R n ty w g l l.length) : GSl S n w (.slice (some ⟨g, 0, none⟩) l.length l.length) l := by
  obtain ⟨cs, h1, h2, h3⟩ := h
  refine .inr ⟨g, 0, _, rfl, h1.lt, fun i x hx => ?_⟩
  obtain ⟨ds, a, b, d⟩ := h3 i x (List.getElem?_eq_some_iff.1 hx).1 hx
  exact ⟨ds, hRS _ _ a, CellsAt.of_block h1 (fun j u hu => by rw [Nat.zero_add]; exact d j u hu)⟩
end

def RetN {α : Type} (N : Nat → World → α → List Value → Prop) (w : World) (t : α) (e : Ending) (w' : World) : Prop := ∃ cs : List Value, e = .returned (.agg cs.toArray) ∧ N w.heap.size w' t cs ∧ Below w.heap.size w w'
theorem Tryz.infoTask : (Tryz.prog.info? 119).map (fun i => (i.zero, i.size, i.bytes)) = some (some (.agg #[.int .i64 0, .int .i64 0, .int .i64 0, .int .i64 0, .int .i64 0, .slice none 0 0, .slice none 0 0]), 7, 88) := by kernel_rfl
theorem Tryz.infoNode : (Tryz.prog.info? 61).map (fun i => (i.zero, i.size, i.bytes)) = some (some (.agg #[.int .i64 0, .int .i64 0, .int .i64 0, .int .i64 0, .int .i64 0, .slice none 0 0, .slice none 0 0, .bool false]), 8, 96) := by kernel_rfl
theorem Tryz.infoBind : (Tryz.prog.info? 122).map (fun i => (i.zero, i.size, i.bytes)) = some (some (.agg #[.int .i64 0, .int .i64 0]), 2, 16) := by kernel_rfl
end Go.Proofs.YtmkpajjnjgnmkabGreatDoor
namespace Go.Proofs.YtmkpajjnjgnmkabGreatDoor
open Go.RowKit

section
variable {α : Type} {R S : World → α → List Value → Prop} {n g k : Nat} {ty : TypeId} {w w' : World} {l : List α}
theorem CopyG.putFar {b o : Nat} {es : List Value} (h : CopyG R n ty w g l k) (hne : g ≠ b) (hp : ∀ y ds, R w y ds → R (putAll w b o es) y ds) : CopyG R n ty (putAll w b o es) g l k := by
  obtain ⟨cs, h1, h2, h3⟩ := h
  refine ⟨cs, h1.putFar hne, h2, fun i x hi hx => ?_⟩
  obtain ⟨ds, a, b⟩ := h3 i x hi hx
  exact ⟨ds, hp _ _ a, b⟩
end
def CluN (base : Nat) (w : World) (c : CV) (g0 g1 g2 : Nat) : Prop := base ≤ g0 ∧ base ≤ g1 ∧ base ≤ g2 ∧ CopyG (TaskN base) 7 119 w g0 c.tasks c.tasks.length ∧ CopyG (NodeN base) 8 61 w g1 c.nodes c.nodes.length ∧ CopyG (BindN base) 2 122 w g2 c.binds c.binds.length ∧
  c.tasks.length ≤ 1048576 ∧ c.nodes.length ≤ 1048576 ∧ c.binds.length ≤ 1048576
theorem CluN.below {base : Nat} {w w' : World} {c : CV} {g0 g1 g2 : Nat} (h : CluN base w c g0 g1 g2) (hb : Below w.heap.size w w') : CluN base w' c g0 g1 g2 := by
  obtain ⟨a0, a1, a2, h0, h1, h2, l⟩ := h
  exact ⟨a0, a1, a2, h0.below (TaskN.kept _) hb, h1.below (NodeN.kept _) hb, h2.below (BindN.kept _) hb, l⟩
theorem CluN.clu {base : Nat} {w : World} {c : CV} {g0 g1 g2 : Nat} (h : CluN base w c g0 g1 g2) : CluR w c (.slice (some ⟨g0, 0, none⟩) c.tasks.length c.tasks.length) (.slice (some ⟨g1, 0, none⟩) c.nodes.length c.nodes.length) (.slice (some ⟨g2, 0, none⟩) c.binds.length c.binds.length) := by
  obtain ⟨a0, a1, a2, h0, h1, h2, l⟩ := h
  exact ⟨h0.sl (fun _ _ h => h.r), h1.sl (fun _ _ h => h.r), h2.sl (fun _ _ h => h.r), l⟩
theorem eqBind_same (t : BV) (w : World) : Calls Tryz.prog 120 #[.agg #[.int .i64 t.task, .int .i64 t.node], .agg #[.int .i64 t.task, .int .i64 t.node]] w fun e w' => e = .returned (.bool true) ∧ Below w.heap.size w w' := by
  have h1 : (t.task != t.task) = false := by simp
  have h2 : (t.node != t.node) = false := by simp
  go_enter Tryz.func120, Tryz.ntmps120
  go_wp2
  go_ret
  exact ⟨rfl, (by repeat' (first | exact Below.refl _ _ | refine Below.alloc ?_ ?_ _ | refine Below.setCell ?_ ?_ _ | refine Below.drew ?_ | (apply below_step; assumption) | (simp; done) | (simp; omega) | omega))⟩
theorem eqTask_r (t : TV) (cs ds : List Value) (w : World) (h : TaskR w t cs) (k : TaskR w t ds) : Calls Tryz.prog 119 #[.agg cs.toArray, .agg ds.toArray] w fun e w' => e = .returned (.bool true) ∧ Below w.heap.size w w' := by
  obtain ⟨v1, v2, rfl, h1, h2, l1, l2⟩ := h
  obtain ⟨u1, u2, rfl, k1, k2, _, _⟩ := k
  exact eqTask_same t v1 v2 u1 u2 w h1 h2 k1 k2 l1 l2
theorem eqNode_r (t : NV) (cs ds : List Value) (w : World) (h : NodeR w t cs) (k : NodeR w t ds) : Calls Tryz.prog 74 #[.agg cs.toArray, .agg ds.toArray] w fun e w' => e = .returned (.bool true) ∧ Below w.heap.size w w' := by
  obtain ⟨v1, v2, rfl, h1, h2, l1, l2⟩ := h
  obtain ⟨u1, u2, rfl, k1, k2, _, _⟩ := k
  exact eqNode_same t v1 v2 u1 u2 w h1 h2 k1 k2 l1 l2
theorem eqBind_r (t : BV) (cs ds : List Value) (w : World) (h : BindR w t cs) (k : BindR w t ds) : Calls Tryz.prog 120 #[.agg cs.toArray, .agg ds.toArray] w fun e w' => e = .returned (.bool true) ∧ Below w.heap.size w w' := by
  obtain rfl := h
  obtain rfl := k
  exact eqBind_same t w
set_option maxHeartbeats 1600000 in
set_option maxRecDepth 20000 in
theorem eqTaskS_same (v1 v2 : Value) (l : List TV) (w : World) (h1 : TaskSl w v1 l) (h2 : TaskSl w v2 l) (hlen : l.length ≤ 1048576) :
    Calls Tryz.prog 68 #[v1, v2] w fun e w' => e = .returned (.bool true) ∧ Below w.heap.size w w' := by
  obtain ⟨A, c, rfl, hA⟩ := h1.form
  obtain ⟨A', c', rfl, hA'⟩ := h2.form
  have HA := Lib.hid hA
  have HA' := Lib.hid hA'
  clear hA hA' h1 h2
  have hnn : ((l.length : Int) != (l.length : Int)) = false := by simp
  go_enter Tryz.func68, Tryz.ntmps68
  go_wp2_with fail
  go_loopw [5] (fun s5 wr => ∃ k : Nat, k ≤ l.length ∧ s5 = .int .i64 k ∧ Below w.heap.size w wr) (fun s5 _ => (l.length - intOf s5).toNat)
  case atStart => exact ⟨0, by omega, rfl, Below.refl _ _⟩
  case round =>
    obtain ⟨k, hk, rfl, hB⟩ := hrel
    have hzr := hB.size
    by_cases hlt : k < l.length
    · obtain ⟨b, off, rfl, hbw, hat⟩ := HA.out (by omega)
      obtain ⟨b', off', rfl, hbw', hat'⟩ := HA'.out (by omega)
      obtain ⟨t, ht⟩ : ∃ t, l[k]? = some t := ⟨_, List.getElem?_eq_getElem hlt⟩
      obtain ⟨ds, hR, hC⟩ := (hat'.below TaskR.kept hB hbw') k t ht
      have HR' := Lib.hid hR
      obtain ⟨v3, v4, rfl, sl, si, m1, m2⟩ := hR; obtain ⟨A3, c3, rfl, _⟩ := sl.form; obtain ⟨A4, c4, rfl, _⟩ := si.form; clear sl si m1 m2
      obtain ⟨p0, p1, p2, p3, p4, p5, p6⟩ := task_cells hC
      clear hC
      obtain ⟨cs, hR, hC⟩ := (hat.below TaskR.kept hB hbw) k t ht
      have HR := Lib.hid hR
      obtain ⟨v1, v2, rfl, sl, si, m1, m2⟩ := hR; obtain ⟨A1, c1, rfl, _⟩ := sl.form; obtain ⟨A2, c2, rfl, _⟩ := si.form
      clear sl si m1 m2
      obtain ⟨q0, q1, q2, q3, q4, q5, q6⟩ := task_cells hC
      have hbr : b < wr.heap.size := by omega
      have hbr' : b' < wr.heap.size := by omega
      have HK := Lib.hid (show ∀ w', Below wr.heap.size wr w' → Below wr.heap.size wr w' ∧ w'.cell? ⟨b, off + k * 7, none⟩ = some (.int .i64 t.id) ∧ w'.cell? ⟨b, off + k * 7 + 1, none⟩ = some (.int .i64 t.prio) ∧ w'.cell? ⟨b, off + k * 7 + 2, none⟩ = some (.int .i64 t.need.c) ∧ w'.cell? ⟨b, off + k * 7 + 3, none⟩ = some (.int .i64 t.need.m) ∧ w'.cell? ⟨b, off + k * 7 + 4, none⟩ = some (.int .i64 t.need.p) ∧ w'.cell? ⟨b, off + k * 7 + 5, none⟩ = some (.slice A1 t.want.length c1) ∧ w'.cell? ⟨b, off + k * 7 + 6, none⟩ = some (.slice A2 t.tols.length c2) ∧ w'.cell? ⟨b', off' + k * 7, none⟩ = some (.int .i64 t.id) ∧ w'.cell? ⟨b', off' + k * 7 + 1, none⟩ = some (.int .i64 t.prio) ∧ w'.cell? ⟨b', off' + k * 7 + 2, none⟩ = some (.int .i64 t.need.c) ∧ w'.cell? ⟨b', off' + k * 7 + 3, none⟩ = some (.int .i64 t.need.m) ∧ w'.cell? ⟨b', off' + k * 7 + 4, none⟩ = some (.int .i64 t.need.p) ∧ w'.cell? ⟨b', off' + k * 7 + 5, none⟩ = some (.slice A3 t.want.length c3) ∧ w'.cell? ⟨b', off' + k * 7 + 6, none⟩ = some (.slice A4 t.tols.length c4) from fun w' hb => ⟨hb, (hb.cell (p := ⟨_, _, none⟩) hbr).trans q0, (hb.cell (p := ⟨_, _, none⟩) hbr).trans q1, (hb.cell (p := ⟨_, _, none⟩) hbr).trans q2, (hb.cell (p := ⟨_, _, none⟩) hbr).trans q3, (hb.cell (p := ⟨_, _, none⟩) hbr).trans q4, (hb.cell (p := ⟨_, _, none⟩) hbr).trans q5, (hb.cell (p := ⟨_, _, none⟩) hbr).trans q6, (hb.cell (p := ⟨_, _, none⟩) hbr').trans p0, (hb.cell (p := ⟨_, _, none⟩) hbr').trans p1, (hb.cell (p := ⟨_, _, none⟩) hbr').trans p2, (hb.cell (p := ⟨_, _, none⟩) hbr').trans p3, (hb.cell (p := ⟨_, _, none⟩) hbr').trans p4, (hb.cell (p := ⟨_, _, none⟩) hbr').trans p5, (hb.cell (p := ⟨_, _, none⟩) hbr').trans p6⟩)
      have hlti : (k : Int) < (l.length : Int) := by omega
      have hk0 : (0 : Int) ≤ (k : Int) := by omega
      clear hat hat' ht hC q0 q1 q2 q3 q4 q5 q6 p0 p1 p2 p3 p4 p5 p6
      go_wp2_with fail
      refine wp_region_held_drew (S := (fun w' => Below wr.heap.size wr w' ∧ w'.cell? ⟨b, off + k * 7, none⟩ = some (.int .i64 t.id) ∧ w'.cell? ⟨b, off + k * 7 + 1, none⟩ = some (.int .i64 t.prio) ∧ w'.cell? ⟨b, off + k * 7 + 2, none⟩ = some (.int .i64 t.need.c) ∧ w'.cell? ⟨b, off + k * 7 + 3, none⟩ = some (.int .i64 t.need.m) ∧ w'.cell? ⟨b, off + k * 7 + 4, none⟩ = some (.int .i64 t.need.p) ∧ w'.cell? ⟨b, off + k * 7 + 5, none⟩ = some (.slice A1 t.want.length c1) ∧ w'.cell? ⟨b, off + k * 7 + 6, none⟩ = some (.slice A2 t.tols.length c2) ∧ w'.cell? ⟨b', off' + k * 7, none⟩ = some (.int .i64 t.id) ∧ w'.cell? ⟨b', off' + k * 7 + 1, none⟩ = some (.int .i64 t.prio) ∧ w'.cell? ⟨b', off' + k * 7 + 2, none⟩ = some (.int .i64 t.need.c) ∧ w'.cell? ⟨b', off' + k * 7 + 3, none⟩ = some (.int .i64 t.need.m) ∧ w'.cell? ⟨b', off' + k * 7 + 4, none⟩ = some (.int .i64 t.need.p) ∧ w'.cell? ⟨b', off' + k * 7 + 5, none⟩ = some (.slice A3 t.want.length c3) ∧ w'.cell? ⟨b', off' + k * 7 + 6, none⟩ = some (.slice A4 t.tols.length c4))) (by kernel_rfl) (by (try dsimp only); exact HK.out _ (by repeat' (first | exact Below.refl _ _ | refine Below.alloc ?_ ?_ _ | refine Below.setCell ?_ ?_ _ | refine Below.drew ?_ | (apply below_step; assumption) | (simp; done) | (simp; omega) | omega))) (fun hHeld => ?_)
      refine hT 0 ?_; simp only [Act.put, rhA, rhS, rhT]
      refine hT 1 ?_; simp only [Act.put, rhA, rhS, rhT]
      refine hT 2 ?_; simp only [Act.put, rhA, rhS, rhT]
      refine hT 3 ?_; simp only [Act.put, rhA, rhS, rhT]
      refine hT 4 ?_; simp only [Act.put, rhA, rhS, rhT]
      refine hT 5 ?_; simp only [Act.put, rhA, rhS, rhT]
      refine hT 6 ?_; simp only [Act.put, rhA, rhS, rhT]
      refine hT 7 ?_; simp only [Act.put, rhA, rhS, rhT]
      refine hCall (i := 8) (o := ?a10) ?b10 (by kernel_rfl) ?c10 (fun K hK => ?d10)
      case b10 => simp only [rhN, rhM]; try rfl
      case c10 => rfl
      go_simp
      refine (eqTask_r t _ _ _ (TaskR.kept _ _ _ _ (by repeat' (first | exact Below.refl _ _ | refine Below.alloc ?_ ?_ _ | refine Below.setCell ?_ ?_ _ | refine Below.drew ?_ | (apply below_step; assumption) | (simp; done) | (simp; omega) | omega)) HR.out) (TaskR.kept _ _ _ _ (by repeat' (first | exact Below.refl _ _ | refine Below.alloc ?_ ?_ _ | refine Below.setCell ?_ ?_ _ | refine Below.drew ?_ | (apply below_step; assumption) | (simp; done) | (simp; omega) | omega)) HR'.out)).mono ?_
      rintro e w3 ⟨rfl, hb3⟩
      have hz3 := hb3.size
      try simp at hz3
      go_wp2_with fail
      refine hK.out _ _ (by (try dsimp only); exact HK.out _ (by repeat' (first | exact Below.refl _ _ | refine Below.alloc ?_ ?_ _ | refine Below.setCell ?_ ?_ _ | refine Below.drew ?_ | (apply below_step; assumption) | (simp; done) | (simp; omega) | omega))) (fun hHeld => ?_)
      clear hK K
      try simp only [Act.put, rhA, rhS, rhT]
      refine hT 9 ?_; simp only [Act.put, rhA, rhS, rhT]
      refine wpAnyH_done (by kernel_rfl) ?_ _
      go_wp2_with fail
      go_roundw
      case rel => exact ⟨k + 1, by omega, by go_num, (by repeat' (first | exact Below.refl _ _ | refine Below.alloc ?_ ?_ _ | refine Below.setCell ?_ ?_ _ | refine Below.drew ?_ | (apply below_step; assumption) | (simp; done) | (simp; omega) | omega))⟩
      case measure => simp [intOf]; omega
    · go_wp2_with fail
      go_ret
      exact ⟨rfl, hB⟩
set_option maxHeartbeats 1600000 in
set_option maxRecDepth 20000 in
theorem eqNodeS_same (v1 v2 : Value) (l : List NV) (w : World) (h1 : NodeSl w v1 l) (h2 : NodeSl w v2 l) (hlen : l.length ≤ 1048576) :
    Calls Tryz.prog 69 #[v1, v2] w fun e w' => e = .returned (.bool true) ∧ Below w.heap.size w w' := by
  obtain ⟨A, c, rfl, hA⟩ := h1.form
  obtain ⟨A', c', rfl, hA'⟩ := h2.form
  have HA := Lib.hid hA
  have HA' := Lib.hid hA'
  clear hA hA' h1 h2
  have hnn : ((l.length : Int) != (l.length : Int)) = false := by simp
  go_enter Tryz.func69, Tryz.ntmps69
  go_wp2_with fail
  go_loopw [5] (fun s5 wr => ∃ k : Nat, k ≤ l.length ∧ s5 = .int .i64 k ∧ Below w.heap.size w wr) (fun s5 _ => (l.length - intOf s5).toNat)
  case atStart => exact ⟨0, by omega, rfl, Below.refl _ _⟩
  case round =>
    obtain ⟨k, hk, rfl, hB⟩ := hrel
    have hzr := hB.size
    by_cases hlt : k < l.length
    · obtain ⟨b, off, rfl, hbw, hat⟩ := HA.out (by omega)
      obtain ⟨b', off', rfl, hbw', hat'⟩ := HA'.out (by omega)
      obtain ⟨t, ht⟩ : ∃ t, l[k]? = some t := ⟨_, List.getElem?_eq_getElem hlt⟩
      obtain ⟨ds, hR, hC⟩ := (hat'.below NodeR.kept hB hbw') k t ht
      have HR' := Lib.hid hR
      obtain ⟨v3, v4, rfl, sl, si, m1, m2⟩ := hR; obtain ⟨A3, c3, rfl, _⟩ := sl.form; obtain ⟨A4, c4, rfl, _⟩ := si.form; clear sl si m1 m2
      obtain ⟨p0, p1, p2, p3, p4, p5, p6, p7⟩ := node_cells hC
      clear hC
      obtain ⟨cs, hR, hC⟩ := (hat.below NodeR.kept hB hbw) k t ht
      have HR := Lib.hid hR
      obtain ⟨v1, v2, rfl, sl, si, m1, m2⟩ := hR; obtain ⟨A1, c1, rfl, _⟩ := sl.form; obtain ⟨A2, c2, rfl, _⟩ := si.form
      clear sl si m1 m2
      obtain ⟨q0, q1, q2, q3, q4, q5, q6, q7⟩ := node_cells hC
      have hbr : b < wr.heap.size := by omega
      have hbr' : b' < wr.heap.size := by omega
      have HK := Lib.hid (show ∀ w', Below wr.heap.size wr w' → Below wr.heap.size wr w' ∧ w'.cell? ⟨b, off + k * 8, none⟩ = some (.int .i64 t.id) ∧ w'.cell? ⟨b, off + k * 8 + 1, none⟩ = some (.int .i64 t.pool) ∧ w'.cell? ⟨b, off + k * 8 + 2, none⟩ = some (.int .i64 t.cap.c) ∧ w'.cell? ⟨b, off + k * 8 + 3, none⟩ = some (.int .i64 t.cap.m) ∧ w'.cell? ⟨b, off + k * 8 + 4, none⟩ = some (.int .i64 t.cap.p) ∧ w'.cell? ⟨b, off + k * 8 + 5, none⟩ = some (.slice A1 t.labs.length c1) ∧ w'.cell? ⟨b, off + k * 8 + 6, none⟩ = some (.slice A2 t.taints.length c2) ∧ w'.cell? ⟨b, off + k * 8 + 7, none⟩ = some (.bool t.cordon) ∧ w'.cell? ⟨b', off' + k * 8, none⟩ = some (.int .i64 t.id) ∧ w'.cell? ⟨b', off' + k * 8 + 1, none⟩ = some (.int .i64 t.pool) ∧ w'.cell? ⟨b', off' + k * 8 + 2, none⟩ = some (.int .i64 t.cap.c) ∧ w'.cell? ⟨b', off' + k * 8 + 3, none⟩ = some (.int .i64 t.cap.m) ∧ w'.cell? ⟨b', off' + k * 8 + 4, none⟩ = some (.int .i64 t.cap.p) ∧ w'.cell? ⟨b', off' + k * 8 + 5, none⟩ = some (.slice A3 t.labs.length c3) ∧ w'.cell? ⟨b', off' + k * 8 + 6, none⟩ = some (.slice A4 t.taints.length c4) ∧ w'.cell? ⟨b', off' + k * 8 + 7, none⟩ = some (.bool t.cordon) from fun w' hb => ⟨hb, (hb.cell (p := ⟨_, _, none⟩) hbr).trans q0, (hb.cell (p := ⟨_, _, none⟩) hbr).trans q1, (hb.cell (p := ⟨_, _, none⟩) hbr).trans q2, (hb.cell (p := ⟨_, _, none⟩) hbr).trans q3, (hb.cell (p := ⟨_, _, none⟩) hbr).trans q4, (hb.cell (p := ⟨_, _, none⟩) hbr).trans q5, (hb.cell (p := ⟨_, _, none⟩) hbr).trans q6, (hb.cell (p := ⟨_, _, none⟩) hbr).trans q7, (hb.cell (p := ⟨_, _, none⟩) hbr').trans p0, (hb.cell (p := ⟨_, _, none⟩) hbr').trans p1, (hb.cell (p := ⟨_, _, none⟩) hbr').trans p2, (hb.cell (p := ⟨_, _, none⟩) hbr').trans p3, (hb.cell (p := ⟨_, _, none⟩) hbr').trans p4, (hb.cell (p := ⟨_, _, none⟩) hbr').trans p5, (hb.cell (p := ⟨_, _, none⟩) hbr').trans p6, (hb.cell (p := ⟨_, _, none⟩) hbr').trans p7⟩)
      have hlti : (k : Int) < (l.length : Int) := by omega
      have hk0 : (0 : Int) ≤ (k : Int) := by omega
      clear hat hat' ht hC q0 q1 q2 q3 q4 q5 q6 q7 p0 p1 p2 p3 p4 p5 p6 p7
      go_wp2_with fail
      refine wp_region_held_drew (S := (fun w' => Below wr.heap.size wr w' ∧ w'.cell? ⟨b, off + k * 8, none⟩ = some (.int .i64 t.id) ∧ w'.cell? ⟨b, off + k * 8 + 1, none⟩ = some (.int .i64 t.pool) ∧ w'.cell? ⟨b, off + k * 8 + 2, none⟩ = some (.int .i64 t.cap.c) ∧ w'.cell? ⟨b, off + k * 8 + 3, none⟩ = some (.int .i64 t.cap.m) ∧ w'.cell? ⟨b, off + k * 8 + 4, none⟩ = some (.int .i64 t.cap.p) ∧ w'.cell? ⟨b, off + k * 8 + 5, none⟩ = some (.slice A1 t.labs.length c1) ∧ w'.cell? ⟨b, off + k * 8 + 6, none⟩ = some (.slice A2 t.taints.length c2) ∧ w'.cell? ⟨b, off + k * 8 + 7, none⟩ = some (.bool t.cordon) ∧ w'.cell? ⟨b', off' + k * 8, none⟩ = some (.int .i64 t.id) ∧ w'.cell? ⟨b', off' + k * 8 + 1, none⟩ = some (.int .i64 t.pool) ∧ w'.cell? ⟨b', off' + k * 8 + 2, none⟩ = some (.int .i64 t.cap.c) ∧ w'.cell? ⟨b', off' + k * 8 + 3, none⟩ = some (.int .i64 t.cap.m) ∧ w'.cell? ⟨b', off' + k * 8 + 4, none⟩ = some (.int .i64 t.cap.p) ∧ w'.cell? ⟨b', off' + k * 8 + 5, none⟩ = some (.slice A3 t.labs.length c3) ∧ w'.cell? ⟨b', off' + k * 8 + 6, none⟩ = some (.slice A4 t.taints.length c4) ∧ w'.cell? ⟨b', off' + k * 8 + 7, none⟩ = some (.bool t.cordon))) (by kernel_rfl) (by (try dsimp only); exact HK.out _ (by repeat' (first | exact Below.refl _ _ | refine Below.alloc ?_ ?_ _ | refine Below.setCell ?_ ?_ _ | refine Below.drew ?_ | (apply below_step; assumption) | (simp; done) | (simp; omega) | omega))) (fun hHeld => ?_)
      refine hT 0 ?_; simp only [Act.put, rhA, rhS, rhT]
      refine hT 1 ?_; simp only [Act.put, rhA, rhS, rhT]
      refine hT 2 ?_; simp only [Act.put, rhA, rhS, rhT]
      refine hT 3 ?_; simp only [Act.put, rhA, rhS, rhT]
      refine hT 4 ?_; simp only [Act.put, rhA, rhS, rhT]
      refine hT 5 ?_; simp only [Act.put, rhA, rhS, rhT]
      refine hT 6 ?_; simp only [Act.put, rhA, rhS, rhT]
      refine hT 7 ?_; simp only [Act.put, rhA, rhS, rhT]
      refine hCall (i := 8) (o := ?a22) ?b22 (by kernel_rfl) ?c22 (fun K hK => ?d22)
      case b22 => simp only [rhN, rhM]; try rfl
      case c22 => rfl
      go_simp
      refine (eqNode_r t _ _ _ (NodeR.kept _ _ _ _ (by repeat' (first | exact Below.refl _ _ | refine Below.alloc ?_ ?_ _ | refine Below.setCell ?_ ?_ _ | refine Below.drew ?_ | (apply below_step; assumption) | (simp; done) | (simp; omega) | omega)) HR.out) (NodeR.kept _ _ _ _ (by repeat' (first | exact Below.refl _ _ | refine Below.alloc ?_ ?_ _ | refine Below.setCell ?_ ?_ _ | refine Below.drew ?_ | (apply below_step; assumption) | (simp; done) | (simp; omega) | omega)) HR'.out)).mono ?_
      rintro e w3 ⟨rfl, hb3⟩
      have hz3 := hb3.size
      try simp at hz3
      go_wp2_with fail
      refine hK.out _ _ (by (try dsimp only); exact HK.out _ (by repeat' (first | exact Below.refl _ _ | refine Below.alloc ?_ ?_ _ | refine Below.setCell ?_ ?_ _ | refine Below.drew ?_ | (apply below_step; assumption) | (simp; done) | (simp; omega) | omega))) (fun hHeld => ?_)
      clear hK K
      try simp only [Act.put, rhA, rhS, rhT]
      refine hT 9 ?_; simp only [Act.put, rhA, rhS, rhT]
      refine wpAnyH_done (by kernel_rfl) ?_ _
      go_wp2_with fail
      go_roundw
      case rel => exact ⟨k + 1, by omega, by go_num, (by repeat' (first | exact Below.refl _ _ | refine Below.alloc ?_ ?_ _ | refine Below.setCell ?_ ?_ _ | refine Below.drew ?_ | (apply below_step; assumption) | (simp; done) | (simp; omega) | omega))⟩
      case measure => simp [intOf]; omega
    · go_wp2_with fail
      go_ret
      exact ⟨rfl, hB⟩
set_option maxHeartbeats 1600000 in
set_option maxRecDepth 20000 in
theorem eqBindS_same (v1 v2 : Value) (l : List BV) (w : World) (h1 : BindSl w v1 l) (h2 : BindSl w v2 l) (hlen : l.length ≤ 1048576) :
    Calls Tryz.prog 70 #[v1, v2] w fun e w' => e = .returned (.bool true) ∧ Below w.heap.size w w' := by
  obtain ⟨A, c, rfl, hA⟩ := h1.form
  obtain ⟨A', c', rfl, hA'⟩ := h2.form
  have HA := Lib.hid hA
  have HA' := Lib.hid hA'
  clear hA hA' h1 h2
  have hnn : ((l.length : Int) != (l.length : Int)) = false := by simp
  go_enter Tryz.func70, Tryz.ntmps70
  go_wp2_with fail
  go_loopw [5] (fun s5 wr => ∃ k : Nat, k ≤ l.length ∧ s5 = .int .i64 k ∧ Below w.heap.size w wr) (fun s5 _ => (l.length - intOf s5).toNat)
  case atStart => exact ⟨0, by omega, rfl, Below.refl _ _⟩
  case round =>
    obtain ⟨k, hk, rfl, hB⟩ := hrel
    have hzr := hB.size
    by_cases hlt : k < l.length
    · obtain ⟨b, off, rfl, hbw, hat⟩ := HA.out (by omega)
      obtain ⟨b', off', rfl, hbw', hat'⟩ := HA'.out (by omega)
      obtain ⟨t, ht⟩ : ∃ t, l[k]? = some t := ⟨_, List.getElem?_eq_getElem hlt⟩
      obtain ⟨ds, hR, hC⟩ := (hat'.below BindR.kept hB hbw') k t ht
      have HR' := Lib.hid hR
      obtain rfl := hR
      obtain ⟨p0, p1⟩ := bind_cells hC
      clear hC
      obtain ⟨cs, hR, hC⟩ := (hat.below BindR.kept hB hbw) k t ht
      have HR := Lib.hid hR
      obtain rfl := hR
      skip
      obtain ⟨q0, q1⟩ := bind_cells hC
      have hbr : b < wr.heap.size := by omega
      have hbr' : b' < wr.heap.size := by omega
      have HK := Lib.hid (show ∀ w', Below wr.heap.size wr w' → Below wr.heap.size wr w' ∧ w'.cell? ⟨b, off + k * 2, none⟩ = some (.int .i64 t.task) ∧ w'.cell? ⟨b, off + k * 2 + 1, none⟩ = some (.int .i64 t.node) ∧ w'.cell? ⟨b', off' + k * 2, none⟩ = some (.int .i64 t.task) ∧ w'.cell? ⟨b', off' + k * 2 + 1, none⟩ = some (.int .i64 t.node) from fun w' hb => ⟨hb, (hb.cell (p := ⟨_, _, none⟩) hbr).trans q0, (hb.cell (p := ⟨_, _, none⟩) hbr).trans q1, (hb.cell (p := ⟨_, _, none⟩) hbr').trans p0, (hb.cell (p := ⟨_, _, none⟩) hbr').trans p1⟩)
      have hlti : (k : Int) < (l.length : Int) := by omega
      have hk0 : (0 : Int) ≤ (k : Int) := by omega
      clear hat hat' ht hC q0 q1 p0 p1
      go_wp2_with fail
      refine wp_region_held_drew (S := (fun w' => Below wr.heap.size wr w' ∧ w'.cell? ⟨b, off + k * 2, none⟩ = some (.int .i64 t.task) ∧ w'.cell? ⟨b, off + k * 2 + 1, none⟩ = some (.int .i64 t.node) ∧ w'.cell? ⟨b', off' + k * 2, none⟩ = some (.int .i64 t.task) ∧ w'.cell? ⟨b', off' + k * 2 + 1, none⟩ = some (.int .i64 t.node))) (by kernel_rfl) (by (try dsimp only); exact HK.out _ (by repeat' (first | exact Below.refl _ _ | refine Below.alloc ?_ ?_ _ | refine Below.setCell ?_ ?_ _ | refine Below.drew ?_ | (apply below_step; assumption) | (simp; done) | (simp; omega) | omega))) (fun hHeld => ?_)
      refine hT 0 ?_; simp only [Act.put, rhA, rhS, rhT]
      refine hT 1 ?_; simp only [Act.put, rhA, rhS, rhT]
      refine hT 2 ?_; simp only [Act.put, rhA, rhS, rhT]
      refine hT 3 ?_; simp only [Act.put, rhA, rhS, rhT]
      refine hT 4 ?_; simp only [Act.put, rhA, rhS, rhT]
      refine hT 5 ?_; simp only [Act.put, rhA, rhS, rhT]
      refine hT 6 ?_; simp only [Act.put, rhA, rhS, rhT]
      refine hT 7 ?_; simp only [Act.put, rhA, rhS, rhT]
      refine hCall (i := 8) (o := ?a34) ?b34 (by kernel_rfl) ?c34 (fun K hK => ?d34)
      case b34 => simp only [rhN, rhM]; try rfl
      case c34 => rfl
      go_simp
      refine (eqBind_r t _ _ _ (BindR.kept _ _ _ _ (by repeat' (first | exact Below.refl _ _ | refine Below.alloc ?_ ?_ _ | refine Below.setCell ?_ ?_ _ | refine Below.drew ?_ | (apply below_step; assumption) | (simp; done) | (simp; omega) | omega)) HR.out) (BindR.kept _ _ _ _ (by repeat' (first | exact Below.refl _ _ | refine Below.alloc ?_ ?_ _ | refine Below.setCell ?_ ?_ _ | refine Below.drew ?_ | (apply below_step; assumption) | (simp; done) | (simp; omega) | omega)) HR'.out)).mono ?_
      rintro e w3 ⟨rfl, hb3⟩
      have hz3 := hb3.size
      try simp at hz3
      go_wp2_with fail
      refine hK.out _ _ (by (try dsimp only); exact HK.out _ (by repeat' (first | exact Below.refl _ _ | refine Below.alloc ?_ ?_ _ | refine Below.setCell ?_ ?_ _ | refine Below.drew ?_ | (apply below_step; assumption) | (simp; done) | (simp; omega) | omega))) (fun hHeld => ?_)
      clear hK K
      try simp only [Act.put, rhA, rhS, rhT]
      refine hT 9 ?_; simp only [Act.put, rhA, rhS, rhT]
      refine wpAnyH_done (by kernel_rfl) ?_ _
      go_wp2_with fail
      go_roundw
      case rel => exact ⟨k + 1, by omega, by go_num, (by repeat' (first | exact Below.refl _ _ | refine Below.alloc ?_ ?_ _ | refine Below.setCell ?_ ?_ _ | refine Below.drew ?_ | (apply below_step; assumption) | (simp; done) | (simp; omega) | omega))⟩
      case measure => simp [intOf]; omega
    · go_wp2_with fail
      go_ret
      exact ⟨rfl, hB⟩

set_option maxHeartbeats 800000 in
theorem eqCluster_same (c : CV) (a0 a1 a2 b0 b1 b2 : Value) (w : World) (h : CluR w c a0 a1 a2) (k : CluR w c b0 b1 b2) :
    Calls Tryz.prog 21 #[.agg #[a0, a1, a2], .agg #[b0, b1, b2]] w fun e w' => e = .returned (.bool true) ∧ Below w.heap.size w w' := by
  have HC := Lib.hid h
  have HD := Lib.hid k
  obtain ⟨h0, h1, h2, l0, l1, l2⟩ := h
  obtain ⟨k0, k1, k2, _⟩ := k
  obtain ⟨D0, d0, rfl, _⟩ := h0.form
  obtain ⟨D1, d1, rfl, _⟩ := h1.form
  obtain ⟨D2, d2, rfl, _⟩ := h2.form
  obtain ⟨E0, e0, rfl, _⟩ := k0.form
  obtain ⟨E1, e1, rfl, _⟩ := k1.form
  obtain ⟨E2, e2, rfl, _⟩ := k2.form
  have L := Lib.hid (And.intro l0 (And.intro l1 l2))
  clear h0 h1 h2 k0 k1 k2 l0 l1 l2
  go_enter Tryz.func21, Tryz.ntmps21
  go_wp2_with fail
  have hX : Below w.heap.size w ((w.alloc (.cells #[.slice D0 c.tasks.length d0, .slice D1 c.nodes.length d1, .slice D2 c.binds.length d2] 32)).alloc (.cells #[.slice E0 c.tasks.length e0, .slice E1 c.nodes.length e1, .slice E2 c.binds.length e2] 32)) := (by repeat' (first | exact Below.refl _ _ | refine Below.alloc ?_ ?_ _ | refine Below.setCell ?_ ?_ _ | refine Below.drew ?_ | (apply below_step; assumption) | (simp; done) | (simp; omega) | omega))
  refine (eqTaskS_same _ _ c.tasks _ (HC.out.below hX).1 (HD.out.below hX).1 L.out.1).mono ?_
  rintro e w1 ⟨rfl, hb1⟩
  have hC1 := below_of hX hb1
  have B0 := ((BlockIs.new w 32 #[.slice D0 c.tasks.length d0, .slice D1 c.nodes.length d1, .slice D2 c.binds.length d2]).alloc (.cells #[.slice E0 c.tasks.length e0, .slice E1 c.nodes.length e1, .slice E2 c.binds.length e2] 32)).below hb1 (by simp; omega)
  have B1 : BlockIs w1 (w.heap.size + 1) 32 #[.slice E0 c.tasks.length e0, .slice E1 c.nodes.length e1, .slice E2 c.binds.length e2] := (BlockIs.new' (by simp)).below hb1 (by simp)
  have x1 := B0.cell 1
  have y1 := B1.cell 1
  simp at x1 y1
  have HB0 := Lib.hid B0
  have HB1 := Lib.hid B1
  clear B0 B1 hb1
  go_wp2_with fail
  refine (eqNodeS_same _ _ c.nodes _ (HC.out.below hC1).2.1 (HD.out.below hC1).2.1 L.out.2.1).mono ?_
  rintro e w2 ⟨rfl, hb2⟩
  have hC2 := below_of hC1 hb2
  have B0 := HB0.out.below hb2 HB0.out.lt
  have B1 := HB1.out.below hb2 HB1.out.lt
  have x2 := B0.cell 2
  have y2 := B1.cell 2
  simp at x2 y2
  clear B0 B1 hb2 x1 y1
  go_wp2_with fail
  refine (eqBindS_same _ _ c.binds _ (HC.out.below hC2).2.2.1 (HD.out.below hC2).2.2.1 L.out.2.2).mono ?_
  rintro e w3 ⟨rfl, hb3⟩
  have hC3 := below_of hC2 hb3
  go_wp2_with fail
  go_ret
  exact ⟨rfl, hC3⟩
end Go.Proofs.YtmkpajjnjgnmkabGreatDoor

namespace Go.Proofs.YtmkpajjnjgnmkabGreatDoor
open Go.RowKit

structure TurnB (bs : List Nat) (w w' : World) : Prop where
  os : w'.os = w.os
  tape : w'.tape = w.tape
  output : w'.output = w.output
  size : w.heap.size ≤ w'.heap.size
  block : ∀ k, k < w.heap.size → k ∉ bs → w'.heap[k]? = w.heap[k]?
section
variable {bs cs : List Nat} {w w' w'' : World}
theorem TurnB.refl (bs : List Nat) (w : World) : TurnB bs w w := ⟨rfl, rfl, rfl, Nat.le_refl _, fun _ _ _ => rfl⟩
theorem TurnB.trans (h : TurnB bs w w') (k : TurnB bs w' w'') : TurnB bs w w'' :=
  ⟨k.os.trans h.os, k.tape.trans h.tape, k.output.trans h.output, Nat.le_trans h.size k.size, fun b hb hne => (k.block b (Nat.lt_of_lt_of_le hb h.size) hne).trans (h.block b hb hne)⟩
theorem TurnB.mono (h : TurnB bs w w') (hs : ∀ b ∈ bs, b ∈ cs) : TurnB cs w w' := ⟨h.os, h.tape, h.output, h.size, fun b hb hn => h.block b hb (fun e => hn (hs b e))⟩
theorem TurnB.of_below (hb : Below w.heap.size w w') : TurnB bs w w' := ⟨hb.os, hb.tape, hb.output, hb.size, fun k hk _ => hb.block k hk⟩
theorem TurnB.step (h : TurnB bs w w') (hb : Below w'.heap.size w' w'') : TurnB bs w w'' := h.trans (.of_below hb)
theorem TurnB.of_grown {row : Option Nat} (hg : w.grownBy w' row) (hr : ∀ k, row = some k → k ∈ bs) : TurnB bs w w' := ⟨hg.os, hg.tape, hg.output, hg.size, fun k hk hne => hg.block k hk (fun e => hne (hr k e.symm))⟩
theorem TurnB.put {g : Nat} (h : TurnB bs w w') (hg : g ∈ bs) (o : Nat) (u : Value) : TurnB bs w (w'.setCell ⟨g, o, none⟩ u) :=
  h.trans ⟨rfl, rfl, rfl, by simp [World.setCell], fun k _ hne => Below.heap_setCell _ _ _ k (fun e => hne (by rw [e]; exact hg))⟩
theorem TurnB.putAll {g : Nat} (h : TurnB bs w w') (hg : g ∈ bs) (o : Nat) (ds : List Value) : TurnB bs w (Go.Proofs.YtmkpajjnjgnmkabGreatDoor.putAll w' g o ds) := by
  induction ds generalizing w' o with
  | nil => exact h
  | cons u r ih => exact ih (h.put hg o u) _
theorem TurnB.agree (h : TurnB bs w w') {ds : List Nat} (hd : ∀ b ∈ ds, b < w.heap.size ∧ b ∉ bs) : Agree ds w w' := fun b hb => h.block b (hd b hb).1 (hd b hb).2
theorem TurnB.below {B : Nat} (h : TurnB bs w w') (hB : B ≤ w.heap.size) (hg : ∀ b ∈ bs, B ≤ b) : Below B w w' :=
  ⟨h.os, h.tape, h.output, h.size, fun k hk => h.block k (by omega) (fun e => by have := hg k e; omega)⟩
theorem TurnB.old (h : TurnB (bs ++ cs) w w') (hc : ∀ b ∈ cs, w.heap.size ≤ b) : TurnB bs w w' :=
  ⟨h.os, h.tape, h.output, h.size, fun k hk hne => h.block k hk (fun e => by
    rcases List.mem_append.1 e with e | e
    · exact hne e
    · have := hc k e; omega)⟩
theorem BlockIs.turn {g : Nat} {t : TypeId} {c : Array Value} (h : BlockIs w g t c) (k : TurnB bs w w') (hn : g ∉ bs) : BlockIs w' g t c := (k.block g h.lt hn).trans h
end

section
variable {α : Type} {R S : World → α → List Value → List Nat → Prop} {w w' : World} {a b l : List α} {xs xa xb : List Value} {bs ba bb : List Nat}
theorem Elems.split (h : Elems R w (a ++ b) xs bs) : ∃ xa xb ba bb, xs = xa ++ xb ∧ bs = ba ++ bb ∧ Elems R w a xa ba ∧ Elems R w b xb bb := by
  induction a generalizing xs bs with
  | nil => exact ⟨[], xs, [], bs, rfl, rfl, ⟨rfl, rfl⟩, h⟩
  | cons x r ih =>
    obtain ⟨cs, ys, b1, b2, rfl, rfl, h1, h2⟩ := h
    obtain ⟨xa, xb, ba, bb, rfl, rfl, h3, h4⟩ := ih h2
    exact ⟨cs ++ xa, xb, b1 ++ ba, bb, by simp, by simp, ⟨cs, xa, b1, ba, rfl, rfl, h1, h3⟩, h4⟩
theorem Elems.len {n : Nat} (hn : ∀ x cs b, R w x cs b → cs.length = n) (h : Elems R w l xs bs) : xs.length = l.length * n := by
  induction l generalizing xs bs with
  | nil => obtain ⟨rfl, rfl⟩ := h; simp
  | cons x r ih =>
    obtain ⟨cs, ys, b1, b2, rfl, rfl, h1, h2⟩ := h
    rw [List.length_append, ih h2, hn _ _ _ h1, List.length_cons, Nat.add_mul]; omega
theorem Elems.imp (hRS : ∀ x cs b, R w x cs b → S w' x cs b) (h : Elems R w l xs bs) : Elems S w' l xs bs := by
  induction l generalizing xs bs with
  | nil => exact h
  | cons x r ih =>
    obtain ⟨cs, ys, b1, b2, rfl, rfl, h1, h2⟩ := h
    exact ⟨cs, ys, b1, b2, rfl, rfl, hRS _ _ _ h1, ih h2⟩
end
theorem setAll_list {cs : Array Value} {o : Nat} {ds : List Value} (h : o + ds.length ≤ cs.size) : (setAll cs o ds).toList = cs.toList.take o ++ (ds ++ cs.toList.drop (o + ds.length)) := by
  apply List.ext_getElem?
  intro i
  rw [Array.getElem?_toList]
  have hs : (cs.toList.take o).length = o := by simp; omega
  rcases Nat.lt_or_ge i o with h1 | h1
  · rw [setAll_far (.inl h1), List.getElem?_append_left (by omega), List.getElem?_take_of_lt h1, Array.getElem?_toList]
  · rw [List.getElem?_append_right (by omega), hs]
    rcases Nat.lt_or_ge i (o + ds.length) with h2 | h2
    · rw [List.getElem?_append_left (by omega)]
      obtain ⟨u, hu⟩ : ∃ u, ds[i - o]? = some u := ⟨_, List.getElem?_eq_getElem (by omega)⟩
      have := setAll_at (cs := cs) (o := o) hu h
      rw [show o + (i - o) = i by omega] at this
      rw [this, hu]
    · rw [setAll_far (.inr h2), List.getElem?_append_right (by omega), List.getElem?_drop, Array.getElem?_toList]
      congr 1; omega
theorem own_put {w : World} {e : TypeId} {size n g : Nat} {v : Value} {xa cs xb ds : List Value} (h : w.ownsRow 0 e size v n (xa ++ (cs ++ xb))) (hd : ds.length = cs.length) (hg : v.ownBlock = some g) :
    (putAll w g xa.length ds).ownsRow 0 e size v n (xa ++ (ds ++ xb)) := by
  obtain ⟨h1, h2⟩ := h
  refine ⟨by simpa [hd] using h1, ?_⟩
  rcases h2 with ⟨rfl, _⟩ | ⟨g', cap, cur, rfl, hb, hh, hnc, hcm, hs, ht⟩
  · cases hg
  · obtain rfl : g' = g := by simpa [Value.ownBlock] using hg
    have hlen : (xa ++ (cs ++ xb)).length ≤ cur.toList.length := by rw [← ht, List.length_take]; omega
    have hcur : cur.toList = (xa ++ (cs ++ xb)) ++ cur.toList.drop (n * size) := by rw [← ht, List.take_append_drop]
    simp only [List.length_append, Array.length_toList] at hlen
    refine .inr ⟨g', cap, setAll cur xa.length ds, rfl, hb, BlockIs.putAll hh, hnc, hcm, by rw [setAll_size, hs], ?_⟩
    have e1 : cur.toList.take xa.length = xa := by rw [hcur, List.append_assoc, List.take_left']; rfl
    have e2 : cur.toList.drop (xa.length + ds.length) = xb ++ cur.toList.drop (n * size) := by
      rw [hcur, hd]
      have : (xa ++ (cs ++ xb) ++ cur.toList.drop (n * size)) = (xa ++ cs) ++ (xb ++ cur.toList.drop (n * size)) := by simp
      rw [this, ← List.length_append, List.drop_left']
      · congr 1; rw [← this, ← hcur]
      · rfl
    rw [setAll_list (by omega), e1, e2]
    have e3 : xa ++ (ds ++ (xb ++ cur.toList.drop (n * size))) = (xa ++ (ds ++ xb)) ++ cur.toList.drop (n * size) := by simp
    rw [e3, List.take_left']
    simp only [List.length_append] at h1 ⊢
    omega
theorem own_cells {w : World} {e : TypeId} {size n : Nat} {v : Value} {xs : List Value} (h : w.ownsRow 0 e size v n xs) (hn : 0 < n) : ∃ g cap, v = .slice (some ⟨g, 0, none⟩) n cap ∧ g < w.heap.size ∧ (∀ j u, xs[j]? = some u → w.cell? ⟨g, j, none⟩ = some u) ∧ ∀ o, w.frozen? ⟨g, o, none⟩ = false := by
  obtain ⟨h1, h2⟩ := h
  rcases h2 with ⟨_, rfl⟩ | ⟨g, cap, cur, rfl, hb, hh, hnc, hcm, hs, ht⟩
  · omega
  · refine ⟨g, cap, rfl, (Array.getElem?_eq_some_iff.1 hh).1, fun j u hu => ?_, fun o => BlockIs.frozen hh o⟩
    rw [BlockIs.cell hh]
    rw [← ht] at hu
    have hj : j < n * size := by
      have := (List.getElem?_eq_some_iff.1 hu).1
      rw [List.length_take] at this; omega
    rw [List.getElem?_take_of_lt hj] at hu
    simpa using hu
end Go.Proofs.YtmkpajjnjgnmkabGreatDoor

namespace Go.Proofs.YtmkpajjnjgnmkabGreatDoor
open Go.RowKit

theorem wpList_load_rowG {P : Program} {ops : Array Oper} {rest : List Oper} {o : Oper} {a : Act} {w : World} {Q : Exit → Act → World → Prop} (hw : Region.wanted o (yielded ops a.tmps) = true) (ty : TypeId) (x : Operand) (ho : o.op = .load ty x)
    (g : Nat) (hx : a.eval x = .pointer (some ⟨g, 0, none⟩)) (t : TypeId) (cs : Array Value) (fr : Nat × Nat) (d : TypeDesc) (hg : w.heap[g]? = some (.cells cs t fr))
    (hu : P.underlying ty = some d) (hd : (match d with | .struct _ | .array _ _ => true | _ => false) = true) (hi : (P.info? ty).map (·.size) = some cs.size)
    (h : wpList P ops Q rest (a.put o.dst (.agg cs)) w) : wpList P ops Q (o :: rest) a w :=
  wpList_step fun K hK => by
    simp only [hw, if_true]
    exact wp_load_row ty x ho g hx t cs fr d hg hu hd hi (hK _ _ h)
theorem cell_turn {bs : List Nat} {w w' : World} {b o : Nat} (h : TurnB bs w w') (hb : b < w.heap.size) (hn : b ∉ bs) : w'.cell? ⟨b, o, none⟩ = w.cell? ⟨b, o, none⟩ := by
  simp only [World.cell?, h.block b hb hn]
theorem TurnB.setRow {bs : List Nat} {w w' : World} {g : Nat} (h : TurnB bs w w') (hg : g ∈ bs) (cs : Array Value) : TurnB bs w (w'.setRow g cs) :=
  h.trans ⟨rfl, rfl, rfl, by simp [World.setRow], fun k _ hne => setRow_other _ _ _ _ (fun e => hne (by rw [e]; exact hg))⟩
theorem IntAt.turn {bs : List Nat} {w w' : World} {b off : Nat} {l : List Int} (h : IntAt w b off l) (ht : TurnB bs w w') (hb : b < w.heap.size) (hn : b ∉ bs) : IntAt w' b off l := fun i r hr => (cell_turn ht hb hn).trans (h i r hr)
theorem BlockIs.row {w : World} {g : Nat} {t : TypeId} {old cs : Array Value} (h : BlockIs w g t old) : BlockIs (w.setRow g cs) g t cs := setRow_heap _ _ _ _ _ _ h
end Go.Proofs.YtmkpajjnjgnmkabGreatDoor

namespace Go.Proofs.YtmkpajjnjgnmkabGreatDoor
open Go.RowKit

def RetO {α : Type} (R : World → α → List Value → List Nat → Prop) (w : World) (t : α) (e : Ending) (w' : World) : Prop := ∃ ds bs, e = .returned (.agg ds.toArray) ∧ R w' t ds bs ∧ bs.Nodup ∧ (∀ b ∈ bs, w.heap.size ≤ b) ∧ Below w.heap.size w w'
theorem LabSl.news {w : World} {A : Option Addr} {c : Nat} {l : List LV} (h : LabSl w (.slice A l.length c) l) : 0 < l.length → ∃ b off, A = some ⟨b, off, none⟩ ∧ CellsAt w b off (labL l) := by
  intro hp
  obtain ⟨A', c', e, h'⟩ := h.form
  simp only [Value.slice.injEq] at e
  obtain ⟨rfl, _, _⟩ := e
  obtain ⟨b, off, rfl, _, hat⟩ := h' hp
  refine ⟨b, off, rfl, fun j u hu => ?_⟩
  have hj : j < l.length * 2 := by
    have := (List.getElem?_eq_some_iff.1 hu).1
    rwa [labL_len] at this
  obtain ⟨r, hr⟩ : ∃ r, l[j / 2]? = some r := ⟨_, List.getElem?_eq_getElem (by omega)⟩
  obtain ⟨a1, a2⟩ := hat _ _ hr
  obtain ⟨b1, b2⟩ := labL_at hr
  rcases Nat.mod_two_eq_zero_or_one j with e | e
  · have ej : j / 2 * 2 = j := by omega
    rw [ej] at a1 b1
    rw [b1] at hu
    obtain rfl := Option.some.inj hu
    exact a1
  · have ej : j / 2 * 2 + 1 = j := by omega
    rw [Nat.add_assoc, ej] at a2
    rw [ej] at b2
    rw [b2] at hu
    obtain rfl := Option.some.inj hu
    exact a2
theorem IntSl.news {w : World} {A : Option Addr} {c : Nat} {l : List Int} (h : IntSl w (.slice A l.length c) l) : 0 < l.length → ∃ b off, A = some ⟨b, off, none⟩ ∧ CellsAt w b off (intL l) := by
  intro hp
  obtain ⟨A', c', e, h'⟩ := h.form
  simp only [Value.slice.injEq] at e
  obtain ⟨rfl, _, _⟩ := e
  obtain ⟨b, off, rfl, _, hat⟩ := h' hp
  refine ⟨b, off, rfl, fun j u hu => ?_⟩
  simp [intL] at hu
  obtain ⟨r, hr, rfl⟩ := hu
  exact hat _ _ hr
theorem labL_one (l : List LV) : ∀ u ∈ labL l, u.oneCell' = true := by
  intro u hu
  simp [labL] at hu
  obtain ⟨r, _, h | h⟩ := hu <;> subst h <;> rfl
theorem intL_one (l : List Int) : ∀ u ∈ intL l, u.oneCell' = true := by
  intro u hu
  simp [intL] at hu
  obtain ⟨r, _, h⟩ := hu; subst h; rfl
theorem made_own (w : World) (ty : TypeId) (n : Nat) : (w.alloc (.cells #[] ty)).ownsRow 0 ty n (.slice (some ⟨w.heap.size, 0, none⟩) 0 0) 0 [] := by
  have := World.ownsRow_made (base := 0) (e := ty) (size := n) w #[] 0 (Nat.zero_le _) (by unfold maxLen; omega) (by simp)
  simpa using this
theorem blk_of {v v' : Value} {g : Nat} {k : Nat} (hv : v.ownBlock = some g) (h : v'.ownBlock = v.ownBlock ∨ v'.ownBlock = some k) : blk v' = [g] ∨ blk v' = [k] := by
  rcases h with h | h
  · left; simp [blk, h, hv]
  · right; simp [blk, h]

theorem putAll_block {w : World} {g o b : Nat} {ds : List Value} (h : b ≠ g) : (putAll w g o ds).heap[b]? = w.heap[b]? := by
  induction ds generalizing w o with
  | nil => rfl
  | cons u r ih => rw [putAll, ih]; exact Below.heap_setCell _ _ _ b h
set_option maxHeartbeats 1600000 in
theorem sCopyNode_any (t : NV) (cs : List Value) (w : World) (hR : NodeR w t cs) : Calls Tryz.prog 39 #[.agg cs.toArray] w (RetO NodeO w t) := by
  obtain ⟨i1, hi1, hz1, hs1, hy1⟩ := info_parts Tryz.infoLab
  obtain ⟨i2, hi2, hz2, hs2, hy2⟩ := info_parts Tryz.infoI
  obtain ⟨v1, v2, rfl, sl, si, m1, m2⟩ := hR
  obtain ⟨A1, c1, rfl, _⟩ := sl.form
  obtain ⟨A2, c2, rfl, _⟩ := si.form
  have SL := Lib.hid sl
  have SI := Lib.hid si
  have M := Lib.hid (And.intro m1 m2)
  clear sl si m1 m2
  go_enter Tryz.func39, Tryz.ntmps39
  go_upto_region 1 with fail
  have hX : Below w.heap.size w ((w.alloc (.cells #[.int .i64 t.id, .int .i64 t.pool, .int .i64 t.cap.c, .int .i64 t.cap.m, .int .i64 t.cap.p, .slice A1 t.labs.length c1, .slice A2 t.taints.length c2, .bool t.cordon] 61)).alloc (.cells #[.int .i64 0, .int .i64 0, .int .i64 0, .int .i64 0, .int .i64 0, .slice none 0 0, .slice none 0 0, .bool false] 61)) := (by repeat' (first | exact Below.refl _ _ | refine Below.alloc ?_ ?_ _ | refine Below.setCell ?_ ?_ _ | refine Below.drew ?_ | (apply below_step; assumption) | (simp; done) | (simp; omega) | omega))
  have B0 : BlockIs ((w.alloc (.cells #[.int .i64 t.id, .int .i64 t.pool, .int .i64 t.cap.c, .int .i64 t.cap.m, .int .i64 t.cap.p, .slice A1 t.labs.length c1, .slice A2 t.taints.length c2, .bool t.cordon] 61)).alloc (.cells #[.int .i64 0, .int .i64 0, .int .i64 0, .int .i64 0, .int .i64 0, .slice none 0 0, .slice none 0 0, .bool false] 61)) w.heap.size 61 #[.int .i64 t.id, .int .i64 t.pool, .int .i64 t.cap.c, .int .i64 t.cap.m, .int .i64 t.cap.p, .slice A1 t.labs.length c1, .slice A2 t.taints.length c2, .bool t.cordon] := (BlockIs.new w _ _).alloc _
  have B1 : BlockIs ((w.alloc (.cells #[.int .i64 t.id, .int .i64 t.pool, .int .i64 t.cap.c, .int .i64 t.cap.m, .int .i64 t.cap.p, .slice A1 t.labs.length c1, .slice A2 t.taints.length c2, .bool t.cordon] 61)).alloc (.cells #[.int .i64 0, .int .i64 0, .int .i64 0, .int .i64 0, .int .i64 0, .slice none 0 0, .slice none 0 0, .bool false] 61)) (w.heap.size + 1) 61 #[.int .i64 0, .int .i64 0, .int .i64 0, .int .i64 0, .int .i64 0, .slice none 0 0, .slice none 0 0, .bool false] := BlockIs.new' (by simp)
  have hXz : ((w.alloc (.cells #[.int .i64 t.id, .int .i64 t.pool, .int .i64 t.cap.c, .int .i64 t.cap.m, .int .i64 t.cap.p, .slice A1 t.labs.length c1, .slice A2 t.taints.length c2, .bool t.cordon] 61)).alloc (.cells #[.int .i64 0, .int .i64 0, .int .i64 0, .int .i64 0, .int .i64 0, .slice none 0 0, .slice none 0 0, .bool false] 61)).heap.size = w.heap.size + 2 := by simp
  generalize ((w.alloc (.cells #[.int .i64 t.id, .int .i64 t.pool, .int .i64 t.cap.c, .int .i64 t.cap.m, .int .i64 t.cap.p, .slice A1 t.labs.length c1, .slice A2 t.taints.length c2, .bool t.cordon] 61)).alloc (.cells #[.int .i64 0, .int .i64 0, .int .i64 0, .int .i64 0, .int .i64 0, .slice none 0 0, .slice none 0 0, .bool false] 61)) = X at hX B0 B1 hXz ⊢
  have b5 := B0.cell 5
  simp at b5
  have hl0 : w.heap.size < X.heap.size := by omega
  have hl1 : w.heap.size + 1 < X.heap.size := by omega
  have HX := Lib.hid hX
  have HB0 := Lib.hid B0
  have HB1 := Lib.hid B1
  have hXa : Below X.heap.size X (X.alloc (.cells #[] 110)) := (by repeat' (first | exact Below.refl _ _ | refine Below.alloc ?_ ?_ _ | refine Below.setCell ?_ ?_ _ | refine Below.drew ?_ | (apply below_step; assumption) | (simp; done) | (simp; omega) | omega))
  clear B0 B1 hX hXz
  go_upto_region 2 with (at_builtin; refine wpList_spread _ rfl (.tmp 3) (.tmp 5) 59 rfl 110 i1 _ 2 16 Tryz.underlying59 hi1 hz1 hs1 hy1 rfl (by omega) (.slice (some ⟨X.heap.size, 0, none⟩) 0 0) 0 [] rfl (made_own X _ _) A1 t.labs.length c1 (labL t.labs) rfl (labL_len _) ((SL.out.below (below_of HX.out hXa)).news) (labL_one _) (by have := M.out.1; unfold maxLen; omega) (by have := M.out.1; omega) ?_; intro u1 w1 hown1 hg1 hk1; rw [Nat.zero_add, List.nil_append] at hown1; obtain ⟨E1, d1, rfl, _⟩ := own_form hown1; have hb1 : Below X.heap.size X w1 := hXa.grown hg1 (by simp) (by intro k hk; simp [Value.ownBlock] at hk; omega); have B0 := HB0.out.below hb1 HB0.out.lt; have x5 := B0.cell 5; have xf := B0.frozen; have xl := B0.lt; simp at x5; clear B0)
  have hbl1 : ∀ b ∈ blk (.slice E1 t.labs.length d1), X.heap.size ≤ b := by
    have h2 : (Value.slice (some ⟨X.heap.size, 0, none⟩) 0 0).ownBlock = some X.heap.size := rfl
    rcases blk_of h2 hk1 with e | e <;> rw [e] <;> simp
  have hnd1 : (blk (.slice E1 t.labs.length d1)).Nodup := by
    have h2 : (Value.slice (some ⟨X.heap.size, 0, none⟩) 0 0).ownBlock = some X.heap.size := rfl
    rcases blk_of h2 hk1 with e | e <;> rw [e] <;> simp
  have BY0 : BlockIs (w1.setCell ⟨w.heap.size, 5, none⟩ (.slice E1 t.labs.length d1)) w.heap.size 61 #[.int .i64 t.id, .int .i64 t.pool, .int .i64 t.cap.c, .int .i64 t.cap.m, .int .i64 t.cap.p, .slice E1 t.labs.length d1, .slice A2 t.taints.length c2, .bool t.cordon] := by simpa using (HB0.out.below hb1 hl0).put 5 (.slice E1 t.labs.length d1)
  have BY1 : BlockIs (w1.setCell ⟨w.heap.size, 5, none⟩ (.slice E1 t.labs.length d1)) (w.heap.size + 1) 61 #[.int .i64 0, .int .i64 0, .int .i64 0, .int .i64 0, .int .i64 0, .slice none 0 0, .slice none 0 0, .bool false] := (HB1.out.below hb1 hl1).far (by dsimp only; omega) _
  have OY := own_agree hown1 (w' := w1.setCell ⟨w.heap.size, 5, none⟩ (.slice E1 t.labs.length d1)) (fun b hb => Below.heap_setCell _ _ _ b (by have := hbl1 b hb; dsimp only; omega))
  have hbY : Below w.heap.size w (w1.setCell ⟨w.heap.size, 5, none⟩ (.slice E1 t.labs.length d1)) := (below_of HX.out hb1).setCell (Nat.le_refl _) _
  have hYz : X.heap.size ≤ (w1.setCell ⟨w.heap.size, 5, none⟩ (.slice E1 t.labs.length d1)).heap.size := by simpa [World.setCell] using hb1.size
  generalize w1.setCell ⟨w.heap.size, 5, none⟩ (.slice E1 t.labs.length d1) = Y at BY0 BY1 OY hbY hYz ⊢
  have OL := Lib.hid (And.intro OY (And.intro hbl1 hnd1))
  have HB0 := Lib.hid BY0
  have HB1 := Lib.hid BY1
  have HY := Lib.hid hbY
  have b6 := BY0.cell 6
  have hl0 := BY0.lt
  have hl1 := BY1.lt
  simp at b6
  have hYa : Below Y.heap.size Y (Y.alloc (.cells #[] 3)) := (by repeat' (first | exact Below.refl _ _ | refine Below.alloc ?_ ?_ _ | refine Below.setCell ?_ ?_ _ | refine Below.drew ?_ | (apply below_step; assumption) | (simp; done) | (simp; omega) | omega))
  clear BY0 BY1 OY hbY hown1 hg1 hk1 hb1 xf xl x5 b5 hbl1 hnd1 hXa
  go_upto_region 3 with (at_builtin; refine wpList_spread _ rfl (.tmp 8) (.tmp 10) 26 rfl 3 i2 _ 1 8 Tryz.underlying26 hi2 hz2 hs2 hy2 rfl (by omega) (.slice (some ⟨Y.heap.size, 0, none⟩) 0 0) 0 [] rfl (made_own Y _ _) A2 t.taints.length c2 (intL t.taints) rfl (by simp [intL]) ((SI.out.below (below_of HY.out hYa)).news) (intL_one _) (by have := M.out.2; unfold maxLen; omega) (by have := M.out.2; omega) ?_; intro u2 w2 hown2 hg2 hk2; rw [Nat.zero_add, List.nil_append] at hown2; obtain ⟨E2, d2, rfl, _⟩ := own_form hown2; have hb2 : Below Y.heap.size Y w2 := hYa.grown hg2 (by simp) (by intro k hk; simp [Value.ownBlock] at hk; omega); have B0 := HB0.out.below hb2 HB0.out.lt; have x6 := B0.cell 6; have xf := B0.frozen; have xl := B0.lt; simp at x6; clear B0)
  have hbl2 : ∀ b ∈ blk (.slice E2 t.taints.length d2), Y.heap.size ≤ b := by
    have h2 : (Value.slice (some ⟨Y.heap.size, 0, none⟩) 0 0).ownBlock = some Y.heap.size := rfl
    rcases blk_of h2 hk2 with e | e <;> rw [e] <;> simp
  have hnd2 : (blk (.slice E2 t.taints.length d2)).Nodup := by
    have h2 : (Value.slice (some ⟨Y.heap.size, 0, none⟩) 0 0).ownBlock = some Y.heap.size := rfl
    rcases blk_of h2 hk2 with e | e <;> rw [e] <;> simp
  obtain ⟨OY, hbl1, hnd1⟩ := OL.out
  have hY1 := own_lt OY
  have O1 := own_agree OY (Agree.of_below hb2 hY1)
  have BZ0 : BlockIs (w2.setCell ⟨w.heap.size, 6, none⟩ (.slice E2 t.taints.length d2)) w.heap.size 61 #[.int .i64 t.id, .int .i64 t.pool, .int .i64 t.cap.c, .int .i64 t.cap.m, .int .i64 t.cap.p, .slice E1 t.labs.length d1, .slice E2 t.taints.length d2, .bool t.cordon] := by simpa using (HB0.out.below hb2 hl0).put 6 (.slice E2 t.taints.length d2)
  have BZ1 : BlockIs (w2.setCell ⟨w.heap.size, 6, none⟩ (.slice E2 t.taints.length d2)) (w.heap.size + 1) 61 #[.int .i64 0, .int .i64 0, .int .i64 0, .int .i64 0, .int .i64 0, .slice none 0 0, .slice none 0 0, .bool false] := (HB1.out.below hb2 hl1).far (by dsimp only; omega) _
  have P1 := own_agree O1 (w' := w2.setCell ⟨w.heap.size, 6, none⟩ (.slice E2 t.taints.length d2)) (fun b hb => Below.heap_setCell _ _ _ b (by have := hbl1 b hb; dsimp only; omega))
  have P2 := own_agree hown2 (w' := w2.setCell ⟨w.heap.size, 6, none⟩ (.slice E2 t.taints.length d2)) (fun b hb => Below.heap_setCell _ _ _ b (by have := hbl2 b hb; dsimp only; omega))
  have hbZ : Below w.heap.size w (w2.setCell ⟨w.heap.size, 6, none⟩ (.slice E2 t.taints.length d2)) := (below_of HY.out hb2).setCell (Nat.le_refl _) _
  generalize w2.setCell ⟨w.heap.size, 6, none⟩ (.slice E2 t.taints.length d2) = Z at BZ0 BZ1 P1 P2 hbZ ⊢
  have y0 := BZ0.cell 0; have y1 := BZ0.cell 1; have y2 := BZ0.cell 2; have y3 := BZ0.cell 3; have y4 := BZ0.cell 4; have y5 := BZ0.cell 5; have y6 := BZ0.cell 6; have y7 := BZ0.cell 7
  have z0 := BZ1.cell 0; have z1 := BZ1.cell 1; have z2 := BZ1.cell 2; have z3 := BZ1.cell 3; have z4 := BZ1.cell 4; have z5 := BZ1.cell 5; have z6 := BZ1.cell 6; have z7 := BZ1.cell 7
  have zf := BZ1.frozen
  simp at y0 y1 y2 y3 y4 y5 y6 y7 z0 z1 z2 z3 z4 z5 z6 z7
  have PP := Lib.hid (And.intro P1 (And.intro P2 (And.intro hbl1 (And.intro hnd1 (And.intro hbl2 (And.intro hnd2 (And.intro hY1 BZ1)))))))
  clear OY O1 P1 P2 hbl1 hnd1 hbl2 hnd2 hY1 BZ0 BZ1 hown2 hg2 hk2 hb2 xf xl x6 b6 hYa OL HB0 HB1
  go_wp2_with fail
  obtain ⟨P1, P2, hbl1, hnd1, hbl2, hnd2, hY1, BZ1⟩ := PP.out
  have hV : BlockIs ((((((((Z.setCell ⟨w.heap.size + 1, 0, none⟩ (.int .i64 t.id)).setCell ⟨w.heap.size + 1, 1, none⟩ (.int .i64 t.pool)).setCell ⟨w.heap.size + 1, 2, none⟩ (.int .i64 t.cap.c)).setCell ⟨w.heap.size + 1, 3, none⟩ (.int .i64 t.cap.m)).setCell ⟨w.heap.size + 1, 4, none⟩ (.int .i64 t.cap.p)).setCell ⟨w.heap.size + 1, 5, none⟩ (.slice E1 t.labs.length d1)).setCell ⟨w.heap.size + 1, 6, none⟩ (.slice E2 t.taints.length d2)).setCell ⟨w.heap.size + 1, 7, none⟩ (.bool t.cordon)) (w.heap.size + 1) 61 #[.int .i64 t.id, .int .i64 t.pool, .int .i64 t.cap.c, .int .i64 t.cap.m, .int .i64 t.cap.p, .slice E1 t.labs.length d1, .slice E2 t.taints.length d2, .bool t.cordon] := put8 _ _ _ _ _ _ _ _ BZ1 rfl
  have hA1 : Agree (blk (.slice E1 t.labs.length d1)) Z ((((((((Z.setCell ⟨w.heap.size + 1, 0, none⟩ (.int .i64 t.id)).setCell ⟨w.heap.size + 1, 1, none⟩ (.int .i64 t.pool)).setCell ⟨w.heap.size + 1, 2, none⟩ (.int .i64 t.cap.c)).setCell ⟨w.heap.size + 1, 3, none⟩ (.int .i64 t.cap.m)).setCell ⟨w.heap.size + 1, 4, none⟩ (.int .i64 t.cap.p)).setCell ⟨w.heap.size + 1, 5, none⟩ (.slice E1 t.labs.length d1)).setCell ⟨w.heap.size + 1, 6, none⟩ (.slice E2 t.taints.length d2)).setCell ⟨w.heap.size + 1, 7, none⟩ (.bool t.cordon)) := fun b hb => putAll_block (ds := [.int .i64 t.id, .int .i64 t.pool, .int .i64 t.cap.c, .int .i64 t.cap.m, .int .i64 t.cap.p, .slice E1 t.labs.length d1, .slice E2 t.taints.length d2, .bool t.cordon]) (by have := hbl1 b hb; omega)
  have hA2 : Agree (blk (.slice E2 t.taints.length d2)) Z ((((((((Z.setCell ⟨w.heap.size + 1, 0, none⟩ (.int .i64 t.id)).setCell ⟨w.heap.size + 1, 1, none⟩ (.int .i64 t.pool)).setCell ⟨w.heap.size + 1, 2, none⟩ (.int .i64 t.cap.c)).setCell ⟨w.heap.size + 1, 3, none⟩ (.int .i64 t.cap.m)).setCell ⟨w.heap.size + 1, 4, none⟩ (.int .i64 t.cap.p)).setCell ⟨w.heap.size + 1, 5, none⟩ (.slice E1 t.labs.length d1)).setCell ⟨w.heap.size + 1, 6, none⟩ (.slice E2 t.taints.length d2)).setCell ⟨w.heap.size + 1, 7, none⟩ (.bool t.cordon)) := fun b hb => putAll_block (ds := [.int .i64 t.id, .int .i64 t.pool, .int .i64 t.cap.c, .int .i64 t.cap.m, .int .i64 t.cap.p, .slice E1 t.labs.length d1, .slice E2 t.taints.length d2, .bool t.cordon]) (by have := hbl2 b hb; omega)
  have hB : Below w.heap.size w ((((((((Z.setCell ⟨w.heap.size + 1, 0, none⟩ (.int .i64 t.id)).setCell ⟨w.heap.size + 1, 1, none⟩ (.int .i64 t.pool)).setCell ⟨w.heap.size + 1, 2, none⟩ (.int .i64 t.cap.c)).setCell ⟨w.heap.size + 1, 3, none⟩ (.int .i64 t.cap.m)).setCell ⟨w.heap.size + 1, 4, none⟩ (.int .i64 t.cap.p)).setCell ⟨w.heap.size + 1, 5, none⟩ (.slice E1 t.labs.length d1)).setCell ⟨w.heap.size + 1, 6, none⟩ (.slice E2 t.taints.length d2)).setCell ⟨w.heap.size + 1, 7, none⟩ (.bool t.cordon)) := below8 hbZ (by omega)
  have Q1 := own_agree P1 hA1
  have Q2 := own_agree P2 hA2
  generalize ((((((((Z.setCell ⟨w.heap.size + 1, 0, none⟩ (.int .i64 t.id)).setCell ⟨w.heap.size + 1, 1, none⟩ (.int .i64 t.pool)).setCell ⟨w.heap.size + 1, 2, none⟩ (.int .i64 t.cap.c)).setCell ⟨w.heap.size + 1, 3, none⟩ (.int .i64 t.cap.m)).setCell ⟨w.heap.size + 1, 4, none⟩ (.int .i64 t.cap.p)).setCell ⟨w.heap.size + 1, 5, none⟩ (.slice E1 t.labs.length d1)).setCell ⟨w.heap.size + 1, 6, none⟩ (.slice E2 t.taints.length d2)).setCell ⟨w.heap.size + 1, 7, none⟩ (.bool t.cordon)) = V at hV Q1 Q2 hB ⊢
  have x0 := hV.cell 0; have x1 := hV.cell 1; have x2 := hV.cell 2; have x3 := hV.cell 3; have x4 := hV.cell 4; have x5 := hV.cell 5; have x6 := hV.cell 6; have x7 := hV.cell 7
  simp at x0 x1 x2 x3 x4 x5 x6 x7
  refine bodyPost_ret (v := .agg #[.int .i64 t.id, .int .i64 t.pool, .int .i64 t.cap.c, .int .i64 t.cap.m, .int .i64 t.cap.p, .slice E1 t.labs.length d1, .slice E2 t.taints.length d2, .bool t.cordon]) (by simp [results, Tryz.results39, go_sem, x0, x1, x2, x3, x4, x5, x6, x7]) rfl ⟨_, _, rfl, ⟨_, _, rfl, Q1, Q2, rfl, M.out⟩, ?_, ?_, hB⟩
  · rw [List.nodup_append]
    exact ⟨hnd1, hnd2, fun a ha b hb e => by have := hY1 a ha; have := hbl2 b hb; omega⟩
  · intro b hb
    rcases List.mem_append.1 hb with h | h
    · have := hbl1 b h; omega
    · have := hbl2 b h; omega
end Go.Proofs.YtmkpajjnjgnmkabGreatDoor

namespace Go.Proofs.YtmkpajjnjgnmkabGreatDoor
open Go.RowKit

structure KeepB (g : Nat) (w w' : World) : Prop where
  os : w'.os = w.os
  tape : w'.tape = w.tape
  output : w'.output = w.output
  size : w.heap.size ≤ w'.heap.size
  block : ∀ k, k < w.heap.size → k ≠ g → w'.heap[k]? = w.heap[k]?
section
variable {g : Nat} {w w' w'' : World}
theorem KeepB.refl (g : Nat) (w : World) : KeepB g w w := ⟨rfl, rfl, rfl, Nat.le_refl _, fun _ _ _ => rfl⟩
theorem KeepB.trans (h : KeepB g w w') (k : KeepB g w' w'') : KeepB g w w'' :=
  ⟨k.os.trans h.os, k.tape.trans h.tape, k.output.trans h.output, Nat.le_trans h.size k.size, fun b hb hne => (k.block b (Nat.lt_of_lt_of_le hb h.size) hne).trans (h.block b hb hne)⟩
theorem KeepB.step (h : KeepB g w w') (hb : Below w'.heap.size w' w'') : KeepB g w w'' := h.trans ⟨hb.os, hb.tape, hb.output, hb.size, fun k hk _ => hb.block k hk⟩
theorem KeepB.put (h : KeepB g w w') (o : Nat) (u : Value) : KeepB g w (w'.setCell ⟨g, o, none⟩ u) := h.trans ⟨rfl, rfl, rfl, by simp [World.setCell], fun k _ hne => Below.heap_setCell _ _ _ k hne⟩
theorem KeepB.grown (h : KeepB g w w') {row : Option Nat} (hg : w'.grownBy w'' row) (hr : ∀ k, row = some k → w.heap.size ≤ k) : KeepB g w w'' :=
  ⟨hg.os.trans h.os, hg.tape.trans h.tape, hg.output.trans h.output, Nat.le_trans h.size hg.size, fun k hk hne => (hg.block k (Nat.lt_of_lt_of_le hk h.size) (fun e => by have := hr k e.symm; omega)).trans (h.block k hk hne)⟩
theorem KeepB.below {B : Nat} (h : KeepB g w w') (hB : B ≤ w.heap.size) (hg : B ≤ g) : Below B w w' := ⟨h.os, h.tape, h.output, h.size, fun k hk => h.block k (by omega) (by omega)⟩
end

section
variable {P : Program} {ops : Array Oper} {o : Oper} {a : Act} {Q : Exit → Act → World → Prop}
end
theorem pushed {α : Type} {R : World → α → List Value → List Nat → Prop} {ty : TypeId} {n : Nat} {W w4 : World} {v v' : Value} {l : List α} {x : α} {xs cs : List Value} {b bx : List Nat} (hR : Framed R) (hel : Elems R W l xs b) (hx : R W x cs bx)
    (hnd : (blk v ++ (b ++ bx)).Nodup) (hlt : ∀ c ∈ b ++ bx, c < W.heap.size) (_hlv : ∀ c ∈ blk v, c < W.heap.size) (hown : w4.ownsRow 0 ty n v' (l.length + 1) (xs ++ cs)) (hg : W.grownBy w4 v.ownBlock) (hk : v'.ownBlock = v.ownBlock ∨ v'.ownBlock = some W.heap.size) :
    RowO R ty n w4 v' (l ++ [x]) (blk v' ++ (b ++ bx)) ∧ (blk v' ++ (b ++ bx)).Nodup := by
  rw [List.nodup_append] at hnd
  obtain ⟨n1, n2, n3⟩ := hnd
  have ha : Agree (b ++ bx) W w4 := Agree.of_grown hg (fun c hc => ⟨hlt c hc, fun e => n3 c (by simp [blk, ← e]) c hc rfl⟩)
  refine ⟨⟨xs ++ cs, b ++ bx, by simpa using hown, (hel.snoc hx).agree hR ha, rfl⟩, ?_⟩
  rw [List.nodup_append]
  rcases hk with e | e
  · have : blk v' = blk v := by simp [blk, e]
    rw [this]; exact ⟨n1, n2, n3⟩
  · have : blk v' = [W.heap.size] := by simp [blk, e]
    rw [this]
    exact ⟨by simp, n2, fun a ha b' hb e => by simp at ha; have := hlt b' hb; omega⟩
def bindL (l : List BV) : List Value := l.flatMap fun x => [.int .i64 x.task, .int .i64 x.node]
theorem bindL_cons (x : BV) (r : List BV) : bindL (x :: r) = .int .i64 x.task :: .int .i64 x.node :: bindL r := rfl
theorem bindL_len (l : List BV) : (bindL l).length = l.length * 2 := by
  induction l with
  | nil => rfl
  | cons x r ih => rw [bindL_cons]; simp only [List.length_cons, ih]; omega
theorem bindL_at {l : List BV} {i : Nat} {x : BV} (h : l[i]? = some x) : (bindL l)[i * 2]? = some (.int .i64 x.task) ∧ (bindL l)[i * 2 + 1]? = some (.int .i64 x.node) := by
  induction l generalizing i with
  | nil => simp at h
  | cons y r ih =>
    cases i with
    | zero => simp at h; subst h; exact ⟨rfl, rfl⟩
    | succ i =>
      simp at h
      have := ih h
      rw [bindL_cons, show (i + 1) * 2 = i * 2 + 1 + 1 by omega]
      simpa using this
theorem BindSl.news {w : World} {A : Option Addr} {c : Nat} {l : List BV} (h : BindSl w (.slice A l.length c) l) : 0 < l.length → ∃ b off, A = some ⟨b, off, none⟩ ∧ CellsAt w b off (bindL l) := by
  intro hp
  obtain ⟨A', c', e, h'⟩ := h.form
  simp only [Value.slice.injEq] at e
  obtain ⟨rfl, _, _⟩ := e
  obtain ⟨b, off, rfl, _, hat⟩ := h' hp
  refine ⟨b, off, rfl, fun j u hu => ?_⟩
  have hj : j < l.length * 2 := by
    have := (List.getElem?_eq_some_iff.1 hu).1
    rwa [bindL_len] at this
  obtain ⟨r, hr⟩ : ∃ r, l[j / 2]? = some r := ⟨_, List.getElem?_eq_getElem (by omega)⟩
  obtain ⟨cs, hc, a⟩ := hat _ _ hr
  obtain rfl : cs = [.int .i64 r.task, .int .i64 r.node] := hc
  obtain ⟨b1, b2⟩ := bindL_at hr
  obtain ⟨a1, a2⟩ := bind_cells a
  rcases Nat.mod_two_eq_zero_or_one j with e | e
  · have ej : j / 2 * 2 = j := by omega
    rw [ej] at a1 b1
    rw [b1] at hu
    obtain rfl := Option.some.inj hu
    exact a1
  · have ej : j / 2 * 2 + 1 = j := by omega
    rw [Nat.add_assoc, ej] at a2
    rw [ej] at b2
    rw [b2] at hu
    obtain rfl := Option.some.inj hu
    exact a2
theorem bind_elems (w : World) (l : List BV) : Elems BindO w l (bindL l) [] := by
  induction l with
  | nil => exact ⟨rfl, rfl⟩
  | cons x r ih => exact ⟨_, _, [], [], rfl, rfl, ⟨rfl, rfl⟩, ih⟩
def CluO (w : World) (c : CV) (a0 a1 a2 : Value) (bs : List Nat) : Prop := ∃ b0 b1 b2, RowO TaskO 119 7 w a0 c.tasks b0 ∧ RowO NodeO 61 8 w a1 c.nodes b1 ∧ RowO BindO 122 2 w a2 c.binds b2 ∧ bs = b0 ++ (b1 ++ b2) ∧ bs.Nodup ∧ c.tasks.length ≤ 1048576 ∧ c.nodes.length ≤ 1048576 ∧ c.binds.length ≤ 1048576
theorem CluO.agree {w w' : World} {c : CV} {a0 a1 a2 : Value} {bs : List Nat} (h : CluO w c a0 a1 a2 bs) (ha : Agree bs w w') : CluO w' c a0 a1 a2 bs := by
  obtain ⟨b0, b1, b2, h0, h1, h2, rfl, h3⟩ := h
  exact ⟨b0, b1, b2, h0.agree TaskO.framed ha.left, h1.agree NodeO.framed ha.right.left, h2.agree BindO.framed ha.right.right, rfl, h3⟩
theorem CluO.clu {w : World} {c : CV} {a0 a1 a2 : Value} {bs : List Nat} (h : CluO w c a0 a1 a2 bs) : CluR w c a0 a1 a2 := by
  obtain ⟨b0, b1, b2, h0, h1, h2, _, _, l⟩ := h
  exact ⟨h0.sl (fun _ _ _ h => h.len) (fun _ _ _ h => h.r), h1.sl (fun _ _ _ h => h.len) (fun _ _ _ h => h.r), h2.sl (fun _ _ _ h => h.len) (fun _ _ _ h => h.r), l⟩
theorem rowO_lt {α : Type} {R : World → α → List Value → List Nat → Prop} {ty : TypeId} {n : Nat} {w : World} {v : Value} {l : List α} {bs : List Nat} (hR : ∀ x cs b, R w x cs b → ∀ c ∈ b, c < w.heap.size) (h : RowO R ty n w v l bs) : ∀ b ∈ bs, b < w.heap.size := by
  obtain ⟨xs, b, h1, h2, rfl⟩ := h
  intro c hc
  rcases List.mem_append.1 hc with h | h
  · exact own_lt h1 c h
  · exact elems_lt hR h2 c h
def RetClu (w : World) (c : CV) (e : Ending) (w' : World) : Prop := ∃ a0 a1 a2 bs, e = .returned (.agg #[a0, a1, a2]) ∧ CluO w' c a0 a1 a2 bs ∧ (∀ b ∈ bs, w.heap.size ≤ b) ∧ Below w.heap.size w w'

end Go.Proofs.YtmkpajjnjgnmkabGreatDoor

namespace Go.Proofs.YtmkpajjnjgnmkabGreatDoor
open Go.RowKit

theorem outOfRange_nil (w : World) (a : Addr) (hg : ErrAt a w) :
    Calls Tryz.prog 157 #[.nilIface] w fun e w' => e = .returned (.bool false) ∧ w = w' := by
  unfold ErrAt at hg
  go_enter Tryz.func157, Tryz.ntmps157
  go_wp2_with (go_at_call 169; refine (is_nil a _).mono ?_; rintro e w1 ⟨rfl, rfl⟩)
  go_ret
  exact ⟨rfl, rfl⟩
theorem outOfRange_bad (s : ByteArray) (w : World) (a : Addr) (hg : ErrAt a w) :
    Calls Tryz.prog 157 #[.iface 188 (.agg #[.string s, .iface 207 (.pointer (some a))])] w fun e w' => e = .returned (.bool true) ∧ Below w.heap.size w w' := by
  unfold ErrAt at hg
  go_enter Tryz.func157, Tryz.ntmps157
  go_wp2_with (go_at_call 169; refine (is_field s a _).mono ?_; rintro e w1 ⟨rfl, hb⟩)
  go_ret
  exact ⟨rfl, hb⟩

theorem checkBoth_yes (a b : RV) (w : World) (ha : a.ok = true) (hb : b.ok = true) :
    Calls Tryz.prog 167 #[.agg #[.int .i64 a.c, .int .i64 a.m, .int .i64 a.p], .agg #[.int .i64 b.c, .int .i64 b.m, .int .i64 b.p]] w fun e w' => e = .returned .nilIface ∧ Below w.heap.size w w' := by
  have HA := Lib.hid ha
  have HB := Lib.hid hb
  clear ha hb
  go_enter Tryz.func167, Tryz.ntmps167
  go_wp2_with fail
  refine (checkRes_yes a _ HA.out).mono ?_
  rintro e w1 ⟨rfl, hb1⟩
  have hz1 := hb1.size
  simp at hz1
  obtain ⟨hc1, hf1⟩ := bcell hb1
  go_wp2_with fail
  refine (checkRes_yes b _ HB.out).mono ?_
  rintro e w2 ⟨rfl, hb2⟩
  have hz2 := hb2.size
  go_wp2_with fail
  go_ret
  exact ⟨rfl, (by repeat' (first | exact Below.refl _ _ | refine Below.alloc ?_ ?_ _ | refine Below.setCell ?_ ?_ _ | refine Below.drew ?_ | (apply below_step; assumption) | (simp; done) | (simp; omega) | omega))⟩

theorem checkBoth_no1 (a b : RV) (w : World) (x : Addr) (hg : ErrAt x w) (ha : a.ok = false) :
    Calls Tryz.prog 167 #[.agg #[.int .i64 a.c, .int .i64 a.m, .int .i64 a.p], .agg #[.int .i64 b.c, .int .i64 b.m, .int .i64 b.p]] w (BadAt x w) := by
  have HA := Lib.hid ha
  clear ha
  go_enter Tryz.func167, Tryz.ntmps167
  go_wp2_with fail
  refine (checkRes_no a _ x ((hg.alloc _).alloc _) HA.out).mono ?_
  rintro e w1 ⟨s, rfl, hb1⟩
  have hz1 := hb1.size
  simp at hz1
  go_wp2_with fail
  go_ret
  exact ⟨_, rfl, (by repeat' (first | exact Below.refl _ _ | refine Below.alloc ?_ ?_ _ | refine Below.setCell ?_ ?_ _ | refine Below.drew ?_ | (apply below_step; assumption) | (simp; done) | (simp; omega) | omega))⟩

theorem checkBoth_no2 (a b : RV) (w : World) (x : Addr) (hg : ErrAt x w) (ha : a.ok = true) (hb : b.ok = false) :
    Calls Tryz.prog 167 #[.agg #[.int .i64 a.c, .int .i64 a.m, .int .i64 a.p], .agg #[.int .i64 b.c, .int .i64 b.m, .int .i64 b.p]] w (BadAt x w) := by
  have HA := Lib.hid ha
  have HB := Lib.hid hb
  clear ha hb
  go_enter Tryz.func167, Tryz.ntmps167
  go_wp2_with fail
  refine (checkRes_yes a _ HA.out).mono ?_
  rintro e w1 ⟨rfl, hb1⟩
  have hz1 := hb1.size
  simp at hz1
  obtain ⟨hc1, hf1⟩ := bcell hb1
  go_wp2_with fail
  refine (checkRes_no b _ x (((hg.alloc _).alloc _).below hb1 (Nat.le_refl _)) HB.out).mono ?_
  rintro e w2 ⟨s, rfl, hb2⟩
  have hz2 := hb2.size
  go_wp2_with fail
  go_ret
  exact ⟨_, rfl, (by repeat' (first | exact Below.refl _ _ | refine Below.alloc ?_ ?_ _ | refine Below.setCell ?_ ?_ _ | refine Below.drew ?_ | (apply below_step; assumption) | (simp; done) | (simp; omega) | omega))⟩
theorem keepValid_yes (r : RV) (w : World) (x : Addr) (hg : ErrAt x w) (h : r.ok = true) :
    Calls Tryz.prog 168 #[.agg #[.int .i64 r.c, .int .i64 r.m, .int .i64 r.p]] w fun e w' => e = .returned (.tuple #[.agg #[.int .i64 r.c, .int .i64 r.m, .int .i64 r.p], .bool true]) ∧ Below w.heap.size w w' := by
  have H := Lib.hid h
  clear h
  go_enter Tryz.func168, Tryz.ntmps168
  go_wp2_with fail
  refine (checkRes_yes r _ H.out).mono ?_
  rintro e w1 ⟨rfl, hb1⟩
  have hz1 := hb1.size
  simp at hz1
  obtain ⟨hc1, hf1⟩ := bcell hb1
  go_wp2_with fail
  refine (outOfRange_nil _ x (((hg.alloc _).alloc _).below hb1 (Nat.le_refl _))).mono ?_
  rintro e w2 ⟨rfl, rfl⟩
  go_wp2_with fail
  exact bodyPost_ret (v := .tuple #[.agg #[.int .i64 r.c, .int .i64 r.m, .int .i64 r.p], .bool true]) (by simp [results, Tryz.results168, go_sem, hc1]) rfl ⟨rfl, (by repeat' (first | exact Below.refl _ _ | refine Below.alloc ?_ ?_ _ | refine Below.setCell ?_ ?_ _ | refine Below.drew ?_ | (apply below_step; assumption) | (simp; done) | (simp; omega) | omega))⟩

theorem keepValid_no (r : RV) (w : World) (x : Addr) (hg : ErrAt x w) (h : r.ok = false) :
    Calls Tryz.prog 168 #[.agg #[.int .i64 r.c, .int .i64 r.m, .int .i64 r.p]] w fun e w' => e = .returned (.tuple #[.agg #[.int .i64 0, .int .i64 0, .int .i64 0], .bool false]) ∧ Below w.heap.size w w' := by
  have H := Lib.hid h
  clear h
  go_enter Tryz.func168, Tryz.ntmps168
  go_wp2_with fail
  refine (checkRes_no r _ x ((hg.alloc _).alloc _) H.out).mono ?_
  rintro e w1 ⟨s, rfl, hb1⟩
  have hz1 := hb1.size
  simp at hz1
  obtain ⟨hc1, hf1⟩ := bcell hb1
  go_wp2_with fail
  refine (outOfRange_bad s _ x (((hg.alloc _).alloc _).below hb1 (Nat.le_refl _))).mono ?_
  rintro e w2 ⟨rfl, hb2⟩
  have hz2 := hb2.size
  obtain ⟨hc2, hf2⟩ := bcell hb2
  have hs1 : w.heap.size + 1 < w1.heap.size := by omega
  go_wp2_with fail
  exact bodyPost_ret (v := .tuple #[.agg #[.int .i64 0, .int .i64 0, .int .i64 0], .bool false]) (by simp [results, Tryz.results168, go_sem, hc1, hc2, hs1]) rfl ⟨rfl, (by repeat' (first | exact Below.refl _ _ | refine Below.alloc ?_ ?_ _ | refine Below.setCell ?_ ?_ _ | refine Below.drew ?_ | (apply below_step; assumption) | (simp; done) | (simp; omega) | omega))⟩
end Go.Proofs.YtmkpajjnjgnmkabGreatDoor
