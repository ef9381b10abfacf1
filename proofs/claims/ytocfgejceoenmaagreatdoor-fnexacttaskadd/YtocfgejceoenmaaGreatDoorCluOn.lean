/- The tasks on a node: tasksOn, which is ranged over, and usedOn. -/
import Derived.RangeFuncNested
import Derived.RangeFuncBound
import Derived.RangeFuncCalls
import Derived.RangeFuncLeaves
import Derived.Shelf.Abstract
import Derived.Shelf.RegionOpen
import Derived.OwnWalkIn
import Derived.TacticsInMore
import Derived.LoopNIn
import Derived.LoopIn
import Derived.Test.YtocfgejceoenmaaGreatDoorCluOkI
import Derived.Test.YtocfgejceoenmaaGreatDoorOwnRes
namespace Go.Proofs.YtocfgejceoenmaaGreatDoor
open Go.RowKit Go.Shelf
attribute [local go_sem] Oper.semAt_some

/-- The tasks that the bindings put on a node, in their order. -/
def tasksOnL (c : CV) (z : Int) : List BV → List TV
  | [] => []
  | b :: r => if b.node = z then (fstBy TV.id c.tasks b.task).toList ++ tasksOnL c z r else tasksOnL c z r
theorem tasksOnL_append (c : CV) (z : Int) (a b : List BV) : tasksOnL c z (a ++ b) = tasksOnL c z a ++ tasksOnL c z b := by
  induction a with
  | nil => rfl
  | cons x r ih => simp only [List.cons_append, tasksOnL, ih]; split <;> simp
theorem tasksOnL_len (c : CV) (z : Int) (l : List BV) : (tasksOnL c z l).length ≤ l.length := by
  induction l with
  | nil => simp [tasksOnL]
  | cons b r ih =>
    have : (fstBy TV.id c.tasks b.task).toList.length ≤ 1 := by cases fstBy TV.id c.tasks b.task <;> simp
    unfold tasksOnL; split <;> simp <;> omega
theorem on_yes {c : CV} {z : Int} {k : Nat} {b : BV} {t : TV} (h : c.binds[k]? = some b) (e : b.node = z) (ht : fstBy TV.id c.tasks b.task = some t) : tasksOnL c z (c.binds.take (k + 1)) = tasksOnL c z (c.binds.take k) ++ [t] := by
  rw [take_at h, tasksOnL_append]; simp [tasksOnL, e, ht]
theorem on_gone {c : CV} {z : Int} {k : Nat} {b : BV} (h : c.binds[k]? = some b) (ht : fstBy TV.id c.tasks b.task = none) : tasksOnL c z (c.binds.take (k + 1)) = tasksOnL c z (c.binds.take k) := by
  rw [take_at h, tasksOnL_append]; simp [tasksOnL, ht]
theorem on_no {c : CV} {z : Int} {k : Nat} {b : BV} (h : c.binds[k]? = some b) (e : b.node ≠ z) : tasksOnL c z (c.binds.take (k + 1)) = tasksOnL c z (c.binds.take k) := by
  rw [take_at h, tasksOnL_append]; simp [tasksOnL, e]
theorem RV.add_zero (s : RV) : s.add RV.zero = s := by simp [RV.add, RV.zero]
theorem sum_on (c : CV) (z : Int) (l : List BV) (s : RV) (hs : s.ok = true) : sumGo s ((tasksOnL c z l).map TV.need) = sumGo s (needsIn c z l) := by
  induction l generalizing s with
  | nil => rfl
  | cons b r ih =>
    unfold tasksOnL needsIn
    split
    · unfold needOf
      cases hf : fstBy TV.id c.tasks b.task with
      | none =>
        have h0 : RV.zero.ok = true := by decide
        have hk : resAddOk s RV.zero = true := by rw [(resAdd_in hs h0).2, RV.add_zero]; exact hs
        have ha : resAdd s RV.zero = s := by rw [(resAdd_in hs h0).1, RV.add_zero, RV.kept_yes hs]
        simp only [Option.toList_none, List.nil_append, Option.getD_none]
        rw [show TV.zero.need = RV.zero from rfl, sumGo_cons_yes hk, ha]
        exact ih s hs
      | some t =>
        simp only [Option.toList_some, List.singleton_append, List.map_cons, Option.getD_some]
        cases hk : resAddOk s t.need with
        | false => rw [sumGo_cons_no hk, sumGo_cons_no hk]
        | true =>
          rw [sumGo_cons_yes hk, sumGo_cons_yes hk]
          apply ih
          have := hk
          unfold resAddOk at this
          unfold resAdd
          rw [if_pos hk]
          simp only [Bool.and_eq_true] at this
          exact this.2
    · exact ih s hs
theorem used_on (c : CV) (z : Int) : usedOf c z = sumGo RV.zero ((tasksOnL c z c.binds).map TV.need) := (sum_on c z c.binds RV.zero (by decide)).symm

/-- A task that is handed to a loop's body: it lay in w0. -/
abbrev OnT (w0 : World) : Type := { p : TV × List Value // TaskR w0 p.1 p.2 }
def OnT.t {w0 : World} (x : OnT w0) : TV := x.1.1
def encT {w0 : World} (x : OnT w0) : Array Value := #[.agg x.1.2.toArray]
/-- What a round keeps: what lay below n, and the two boxes of the iterator. -/
def KpOn (n Bc Bn : Nat) (W W' : World) : Prop := Below n W W' ∧ W'.heap[Bc]? = W.heap[Bc]? ∧ W'.heap[Bn]? = W.heap[Bn]?
theorem KpOn.t {n Bc Bn : Nat} {A B C : World} (h : KpOn n Bc Bn A B) (k : KpOn n Bc Bn B C) : KpOn n Bc Bn A C := ⟨h.1.trans k.1, k.2.1.trans h.2.1, k.2.2.trans h.2.2⟩
theorem KpOn.b {n Bc Bn : Nat} {w : World} (hn : n ≤ w.heap.size) (hc : Bc < w.heap.size) (hb : Bn < w.heap.size) (W : World) (l : Nat) (o o' : Obj) (hl : w.heap.size ≤ l) (h : W.heap[l]? = some o) (h1 : o.isCells = false) (h2 : o.isWalk = false) : KpOn n Bc Bn W (W.putObj l o') :=
  ⟨belowK_b hn W l o o' hl h h1 h2, World.putObj_heap_other (by omega), World.putObj_heap_other (by omega)⟩
theorem grown_none {w w' : World} (hb : Below w.heap.size w w') : w.grownBy w' none := ⟨hb.os, hb.tape, hb.output, hb.size, fun k hk _ => hb.block k hk⟩
theorem abide {α : Type} {B : Nat} {J : List α → World → Prop} (hJ : AbidesFrom B J) {pre : List α} {w w' : World} (h : J pre w) (hb : Below w.heap.size w w') : J pre w' := hJ pre w w' none h (grown_none hb) (fun _ e => by cases e)

set_option maxHeartbeats 1600000 in
theorem tasksOn_any (D0 D1 D2 : Option Addr) (n0 n1 n2 e0 e1 e2 : Nat) (z : Int) (w : World) :
    Calls Tryz.prog 190 #[.agg #[.slice D0 n0 e0, .slice D1 n1 e1, .slice D2 n2 e2], .int .i64 z] w fun e w' => e = .returned (.func (.func 198) #[] #[.pointer (some ⟨w.heap.size, 0, none⟩), .pointer (some ⟨w.heap.size + 1, 0, none⟩)]) ∧
      w' = (w.alloc (.cells #[.slice D0 n0 e0, .slice D1 n1 e1, .slice D2 n2 e2] 39)).alloc (.cells #[.int .i64 z] 3) := by
  have hmf : ∀ (fn : Fn) (first cap : Array Value) (w : World), (Instr.makeFunc fn first cap).run Tryz.prog w = .ok (.func fn first cap) w := fun _ _ _ _ => rfl
  go_enter Tryz.func190, Tryz.ntmps190
  go_wp2_with fail
  go_ret
  exact ⟨rfl, rfl⟩
end Go.Proofs.YtocfgejceoenmaaGreatDoor
