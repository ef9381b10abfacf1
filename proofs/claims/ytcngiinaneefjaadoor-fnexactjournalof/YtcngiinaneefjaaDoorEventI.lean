/- Events in plain Lean; the contracts of isNoTask, EventOk and of their models. (mkevent.py) -/
import Derived.Test.YtcngiinaneefjaaDoorMg06
import Derived.Test.YtcngiinaneefjaaDoorMg05
import Derived.Laws.StructEq
namespace Go.Proofs.YtcngiinaneefjaaDoor
open Go.RowKit

structure EV where
  kind : Int
  who : Int
  n : Int
  works : Bool
  keep : Bool
  task : TV
def resZero (r : RV) : Bool := r.c == 0 && (r.m == 0 && r.p == 0)
def noTask (t : TV) : Bool := (t.id == 0) && (t.prio == 0) && resZero t.need && ((t.want.length : Int) == 0) && ((t.tols.length : Int) == 0)
def eventOk (e : EV) : Bool :=
  if e.kind = 1 then lWithin e.n 1 1000 && (e.who == 0) && !e.works && !e.keep && noTask e.task
  else if e.kind = 2 ∨ e.kind = 3 ∨ e.kind = 6 then lWithin e.who 1 4 && (e.n == 0) && !e.works && !e.keep && noTask e.task
  else if e.kind = 4 then e.task.ok && (e.who == 0) && (e.n == 0) && !e.works && !e.keep
  else if e.kind = 5 ∨ e.kind = 9 then lWithin e.n 1 99 && (e.who == 0) && !e.works && !e.keep && noTask e.task
  else if e.kind = 7 then lWithin e.n 0 39 && (e.who == 0) && noTask e.task
  else if e.kind = 8 then lWithin e.n 0 39 && (e.who == 0) && !e.works && !e.keep && noTask e.task
  else false
theorem noTask_eq (t : TV) (b1 b2 b3 b4 b5 : Bool) (h1 : (t.id == 0) = b1) (h2 : (t.prio == 0) = b2) (h3 : resZero t.need = b3) (h4 : ((t.want.length : Int) == 0) = b4) (h5 : ((t.tols.length : Int) == 0) = b5) : noTask t = (b1 && b2 && b3 && b4 && b5) := by
  subst h1 h2 h3 h4 h5; rfl
theorem eqIn_res (a b : RV) (w : World) : (Op.equalIn 10000 31 (.agg #[.int .i64 a.c, .int .i64 a.m, .int .i64 a.p]) (.agg #[.int .i64 b.c, .int .i64 b.m, .int .i64 b.p])).run Tryd.prog w = .ok (a.c == b.c && (a.m == b.m && a.p == b.p)) w := by
  rw [show (10000 : Nat) = 9998 + 1 + 1 from rfl]
  unfold Op.equalIn
  simp only [Program.fieldsOf, Tryd.underlying31]
  go_simp
  by_cases h1 : a.c = b.c <;> by_cases h2 : a.m = b.m <;> by_cases h3 : a.p = b.p <;> simp [h1, h2, h3]
theorem eq_res (a b : RV) (w : World) : (binOp .eql 31 (.agg #[.int .i64 a.c, .int .i64 a.m, .int .i64 a.p]) (.agg #[.int .i64 b.c, .int .i64 b.m, .int .i64 b.p])).run Tryd.prog w = .ok (.bool (a.c == b.c && (a.m == b.m && a.p == b.p))) w := by
  rw [run_eql_struct, eqIn_res]; rfl
theorem eq_res0 (a : RV) (w : World) : (binOp .eql 31 (.agg #[.int .i64 a.c, .int .i64 a.m, .int .i64 a.p]) (.agg #[.int .i64 0, .int .i64 0, .int .i64 0])).run Tryd.prog w = .ok (.bool (resZero a)) w := eq_res a ⟨0, 0, 0⟩ w
theorem guard_res (op : BinOp) (x y : Operand) (xs ys : Array Value) (w : World) : (eqGuard op 31 x y (.agg xs) (.agg ys)).run Tryd.prog w = .ok () w := run_eqGuard_agg w op 31 x y xs ys (by kernel_rfl)
set_option maxHeartbeats 800000 in
theorem isNoTask_any (t : TV) (A1 A2 : Option Addr) (c1 c2 : Nat) (w : World) : Calls Tryd.prog 89 #[.agg #[.int .i64 t.id, .int .i64 t.prio, .int .i64 t.need.c, .int .i64 t.need.m, .int .i64 t.need.p, .slice A1 t.want.length c1, .slice A2 t.tols.length c2]] w fun e w' => e = .returned (.bool (noTask t)) ∧ Below w.heap.size w w' := by
  have heq := fun w => eq_res0 t.need w
  have hgd := guard_res
  have HE := Lib.hid (noTask_eq t)
  generalize noTask t = ok at *
  generalize e1 : (t.id == 0) = b1 at *
  generalize e2 : (t.prio == 0) = b2 at *
  generalize e3 : resZero t.need = b3 at *
  generalize e4 : ((t.want.length : Int) == 0) = b4 at *
  generalize e5 : ((t.tols.length : Int) == 0) = b5 at *
  have HE := Lib.hid (HE.out _ _ _ _ _ rfl rfl rfl rfl rfl)
  clear e3
  go_enter Tryd.func89, Tryd.ntmps89
  cases b1
  · go_wp2_with fail
    go_ret
    exact ⟨by rw [HE.out]; simp, (by repeat' (first | exact Below.refl _ _ | refine Below.alloc ?_ ?_ _ | refine Below.setCell ?_ ?_ _ | refine Below.drew ?_ | (apply below_step; assumption) | (simp; done) | (simp; omega) | omega))⟩
  cases b2
  · go_wp2_with fail
    go_ret
    exact ⟨by rw [HE.out]; simp, (by repeat' (first | exact Below.refl _ _ | refine Below.alloc ?_ ?_ _ | refine Below.setCell ?_ ?_ _ | refine Below.drew ?_ | (apply below_step; assumption) | (simp; done) | (simp; omega) | omega))⟩
  cases b3
  · go_wp2_with fail
    go_ret
    exact ⟨by rw [HE.out]; simp, (by repeat' (first | exact Below.refl _ _ | refine Below.alloc ?_ ?_ _ | refine Below.setCell ?_ ?_ _ | refine Below.drew ?_ | (apply below_step; assumption) | (simp; done) | (simp; omega) | omega))⟩
  cases b4
  · go_wp2_with fail
    go_ret
    exact ⟨by rw [HE.out]; simp, (by repeat' (first | exact Below.refl _ _ | refine Below.alloc ?_ ?_ _ | refine Below.setCell ?_ ?_ _ | refine Below.drew ?_ | (apply below_step; assumption) | (simp; done) | (simp; omega) | omega))⟩
  cases b5
  · go_wp2_with fail
    go_ret
    exact ⟨by rw [HE.out]; simp, (by repeat' (first | exact Below.refl _ _ | refine Below.alloc ?_ ?_ _ | refine Below.setCell ?_ ?_ _ | refine Below.drew ?_ | (apply below_step; assumption) | (simp; done) | (simp; omega) | omega))⟩
  go_wp2_with fail
  go_ret
  exact ⟨by rw [HE.out]; simp, (by repeat' (first | exact Below.refl _ _ | refine Below.alloc ?_ ?_ _ | refine Below.setCell ?_ ?_ _ | refine Below.drew ?_ | (apply below_step; assumption) | (simp; done) | (simp; omega) | omega))⟩
set_option maxHeartbeats 800000 in
theorem sNoTask_any (t : TV) (A1 A2 : Option Addr) (c1 c2 : Nat) (w : World) : Calls Tryd.prog 85 #[.agg #[.int .i64 t.id, .int .i64 t.prio, .int .i64 t.need.c, .int .i64 t.need.m, .int .i64 t.need.p, .slice A1 t.want.length c1, .slice A2 t.tols.length c2]] w fun e w' => e = .returned (.bool (noTask t)) ∧ Below w.heap.size w w' := by
  have heq := fun w => eq_res0 t.need w
  have hgd := guard_res
  have HE := Lib.hid (noTask_eq t)
  generalize noTask t = ok at *
  generalize e1 : (t.id == 0) = b1 at *
  generalize e2 : (t.prio == 0) = b2 at *
  generalize e3 : resZero t.need = b3 at *
  generalize e4 : ((t.want.length : Int) == 0) = b4 at *
  generalize e5 : ((t.tols.length : Int) == 0) = b5 at *
  have HE := Lib.hid (HE.out _ _ _ _ _ rfl rfl rfl rfl rfl)
  clear e3
  go_enter Tryd.func85, Tryd.ntmps85
  cases b1
  · go_wp2_with fail
    go_ret
    exact ⟨by rw [HE.out]; simp, (by repeat' (first | exact Below.refl _ _ | refine Below.alloc ?_ ?_ _ | refine Below.setCell ?_ ?_ _ | refine Below.drew ?_ | (apply below_step; assumption) | (simp; done) | (simp; omega) | omega))⟩
  cases b2
  · go_wp2_with fail
    go_ret
    exact ⟨by rw [HE.out]; simp, (by repeat' (first | exact Below.refl _ _ | refine Below.alloc ?_ ?_ _ | refine Below.setCell ?_ ?_ _ | refine Below.drew ?_ | (apply below_step; assumption) | (simp; done) | (simp; omega) | omega))⟩
  cases b3
  · go_wp2_with fail
    go_ret
    exact ⟨by rw [HE.out]; simp, (by repeat' (first | exact Below.refl _ _ | refine Below.alloc ?_ ?_ _ | refine Below.setCell ?_ ?_ _ | refine Below.drew ?_ | (apply below_step; assumption) | (simp; done) | (simp; omega) | omega))⟩
  cases b4
  · go_wp2_with fail
    go_ret
    exact ⟨by rw [HE.out]; simp, (by repeat' (first | exact Below.refl _ _ | refine Below.alloc ?_ ?_ _ | refine Below.setCell ?_ ?_ _ | refine Below.drew ?_ | (apply below_step; assumption) | (simp; done) | (simp; omega) | omega))⟩
  cases b5
  · go_wp2_with fail
    go_ret
    exact ⟨by rw [HE.out]; simp, (by repeat' (first | exact Below.refl _ _ | refine Below.alloc ?_ ?_ _ | refine Below.setCell ?_ ?_ _ | refine Below.drew ?_ | (apply below_step; assumption) | (simp; done) | (simp; omega) | omega))⟩
  go_wp2_with fail
  go_ret
  exact ⟨by rw [HE.out]; simp, (by repeat' (first | exact Below.refl _ _ | refine Below.alloc ?_ ?_ _ | refine Below.setCell ?_ ?_ _ | refine Below.drew ?_ | (apply below_step; assumption) | (simp; done) | (simp; omega) | omega))⟩
theorem kind_cases (k : Int) : k = 1 ∨ k = 2 ∨ k = 3 ∨ k = 4 ∨ k = 5 ∨ k = 6 ∨ k = 7 ∨ k = 8 ∨ k = 9 ∨ ((k == 1) = false ∧ (k == 2) = false ∧ (k == 3) = false ∧ (k == 4) = false ∧ (k == 5) = false ∧ (k == 6) = false ∧ (k == 7) = false ∧ (k == 8) = false ∧ (k == 9) = false) := by
  simp only [beq_eq_false_iff_ne, ne_eq]; omega
theorem idOkE_any (n : Int) (w : World) : Calls Tryd.prog 75 #[.int .i64 n] w fun e w' => e = .returned (.bool (lWithin n 1 99)) ∧ w = w' := by
  unfold lWithin
  generalize e1 : decide ((1 : Int) ≤ n) = b1
  cases b1
  all_goals
    go_enter Tryd.func75, Tryd.ntmps75
    go_wp2
    go_ret
    exact ⟨by simp, rfl⟩
theorem idE_any (n : Int) (w : World) : Calls Tryd.prog 70 #[.int .i64 n] w fun e w' => e = .returned (.bool (lWithin n 1 99)) ∧ w = w' := by
  unfold lWithin
  generalize e1 : decide ((1 : Int) ≤ n) = b1
  cases b1
  all_goals
    go_enter Tryd.func70, Tryd.ntmps70
    go_wp2
    go_ret
    exact ⟨by simp, rfl⟩
set_option maxHeartbeats 1600000 in
theorem EventOk1_any (who n : Int) (works keep : Bool) (t : TV) (A1 A2 : Option Addr) (c1 c2 : Nat) (w : World) :
    Calls Tryd.prog 61 #[.agg #[.int .i64 1, .int .i64 who, .int .i64 n, .bool works, .bool keep, .int .i64 t.id, .int .i64 t.prio, .int .i64 t.need.c, .int .i64 t.need.m, .int .i64 t.need.p, .slice A1 t.want.length c1, .slice A2 t.tols.length c2]] w fun e w' => e = .returned (.bool (eventOk ⟨1, who, n, works, keep, t⟩)) ∧ Below w.heap.size w w' := by
  have HE : eventOk ⟨1, who, n, works, keep, t⟩ = ((lWithin n 1 1000) && (who == 0) && !works && !keep && noTask t) := rfl
  have h1 := fun w => within_any n 1 1000 w
  generalize lWithin n 1 1000 = b1 at *
  have hnt := fun w => isNoTask_any t A1 A2 c1 c2 w
  generalize noTask t = nt at *
  generalize ew : (who == 0) = bw at *
  generalize en : (n == 0) = bn at *
  have HE := Lib.hid HE
  have H1 := Lib.hid h1
  have HN := Lib.hid hnt
  clear h1 hnt
  go_enter Tryd.func61, Tryd.ntmps61
  go_wp2_with fail
  refine (H1.out _).mono ?_
  rintro e w1 ⟨rfl, rfl⟩
  cases b1
  · go_wp2_with fail
    go_ret
    exact ⟨by rw [HE.out]; simp, (by repeat' (first | exact Below.refl _ _ | refine Below.alloc ?_ ?_ _ | refine Below.setCell ?_ ?_ _ | refine Below.drew ?_ | (apply below_step; assumption) | (simp; done) | (simp; omega) | omega))⟩
  cases bw
  · go_wp2_with fail
    go_ret
    exact ⟨by rw [HE.out]; simp, (by repeat' (first | exact Below.refl _ _ | refine Below.alloc ?_ ?_ _ | refine Below.setCell ?_ ?_ _ | refine Below.drew ?_ | (apply below_step; assumption) | (simp; done) | (simp; omega) | omega))⟩
  cases works
  rotate_left
  · go_wp2_with fail
    go_ret
    exact ⟨by rw [HE.out]; simp, (by repeat' (first | exact Below.refl _ _ | refine Below.alloc ?_ ?_ _ | refine Below.setCell ?_ ?_ _ | refine Below.drew ?_ | (apply below_step; assumption) | (simp; done) | (simp; omega) | omega))⟩
  cases keep
  rotate_left
  · go_wp2_with fail
    go_ret
    exact ⟨by rw [HE.out]; simp, (by repeat' (first | exact Below.refl _ _ | refine Below.alloc ?_ ?_ _ | refine Below.setCell ?_ ?_ _ | refine Below.drew ?_ | (apply below_step; assumption) | (simp; done) | (simp; omega) | omega))⟩
  go_wp2_with fail
  refine (HN.out _).mono ?_
  rintro e w2 ⟨rfl, hb2⟩
  have hz2 := hb2.size
  simp [World.setCell] at hz2
  go_wp2_with fail
  go_ret
  exact ⟨by rw [HE.out]; simp, (by repeat' (first | exact Below.refl _ _ | refine Below.alloc ?_ ?_ _ | refine Below.setCell ?_ ?_ _ | refine Below.drew ?_ | (apply below_step; assumption) | (simp; done) | (simp; omega) | omega))⟩
set_option maxHeartbeats 1600000 in
theorem EventOk2_any (who n : Int) (works keep : Bool) (t : TV) (A1 A2 : Option Addr) (c1 c2 : Nat) (w : World) :
    Calls Tryd.prog 61 #[.agg #[.int .i64 2, .int .i64 who, .int .i64 n, .bool works, .bool keep, .int .i64 t.id, .int .i64 t.prio, .int .i64 t.need.c, .int .i64 t.need.m, .int .i64 t.need.p, .slice A1 t.want.length c1, .slice A2 t.tols.length c2]] w fun e w' => e = .returned (.bool (eventOk ⟨2, who, n, works, keep, t⟩)) ∧ Below w.heap.size w w' := by
  have HE : eventOk ⟨2, who, n, works, keep, t⟩ = ((lWithin who 1 4) && (n == 0) && !works && !keep && noTask t) := rfl
  have h1 := fun w => replicaOk_any who w
  generalize lWithin who 1 4 = b1 at *
  have hnt := fun w => isNoTask_any t A1 A2 c1 c2 w
  generalize noTask t = nt at *
  generalize ew : (who == 0) = bw at *
  generalize en : (n == 0) = bn at *
  have HE := Lib.hid HE
  have H1 := Lib.hid h1
  have HN := Lib.hid hnt
  clear h1 hnt
  go_enter Tryd.func61, Tryd.ntmps61
  go_wp2_with fail
  refine (H1.out _).mono ?_
  rintro e w1 ⟨rfl, rfl⟩
  cases b1
  · go_wp2_with fail
    go_ret
    exact ⟨by rw [HE.out]; simp, (by repeat' (first | exact Below.refl _ _ | refine Below.alloc ?_ ?_ _ | refine Below.setCell ?_ ?_ _ | refine Below.drew ?_ | (apply below_step; assumption) | (simp; done) | (simp; omega) | omega))⟩
  cases bn
  · go_wp2_with fail
    go_ret
    exact ⟨by rw [HE.out]; simp, (by repeat' (first | exact Below.refl _ _ | refine Below.alloc ?_ ?_ _ | refine Below.setCell ?_ ?_ _ | refine Below.drew ?_ | (apply below_step; assumption) | (simp; done) | (simp; omega) | omega))⟩
  cases works
  rotate_left
  · go_wp2_with fail
    go_ret
    exact ⟨by rw [HE.out]; simp, (by repeat' (first | exact Below.refl _ _ | refine Below.alloc ?_ ?_ _ | refine Below.setCell ?_ ?_ _ | refine Below.drew ?_ | (apply below_step; assumption) | (simp; done) | (simp; omega) | omega))⟩
  cases keep
  rotate_left
  · go_wp2_with fail
    go_ret
    exact ⟨by rw [HE.out]; simp, (by repeat' (first | exact Below.refl _ _ | refine Below.alloc ?_ ?_ _ | refine Below.setCell ?_ ?_ _ | refine Below.drew ?_ | (apply below_step; assumption) | (simp; done) | (simp; omega) | omega))⟩
  go_wp2_with fail
  refine (HN.out _).mono ?_
  rintro e w2 ⟨rfl, hb2⟩
  have hz2 := hb2.size
  simp [World.setCell] at hz2
  go_wp2_with fail
  go_ret
  exact ⟨by rw [HE.out]; simp, (by repeat' (first | exact Below.refl _ _ | refine Below.alloc ?_ ?_ _ | refine Below.setCell ?_ ?_ _ | refine Below.drew ?_ | (apply below_step; assumption) | (simp; done) | (simp; omega) | omega))⟩
set_option maxHeartbeats 1600000 in
theorem EventOk3_any (who n : Int) (works keep : Bool) (t : TV) (A1 A2 : Option Addr) (c1 c2 : Nat) (w : World) :
    Calls Tryd.prog 61 #[.agg #[.int .i64 3, .int .i64 who, .int .i64 n, .bool works, .bool keep, .int .i64 t.id, .int .i64 t.prio, .int .i64 t.need.c, .int .i64 t.need.m, .int .i64 t.need.p, .slice A1 t.want.length c1, .slice A2 t.tols.length c2]] w fun e w' => e = .returned (.bool (eventOk ⟨3, who, n, works, keep, t⟩)) ∧ Below w.heap.size w w' := by
  have HE : eventOk ⟨3, who, n, works, keep, t⟩ = ((lWithin who 1 4) && (n == 0) && !works && !keep && noTask t) := rfl
  have h1 := fun w => replicaOk_any who w
  generalize lWithin who 1 4 = b1 at *
  have hnt := fun w => isNoTask_any t A1 A2 c1 c2 w
  generalize noTask t = nt at *
  generalize ew : (who == 0) = bw at *
  generalize en : (n == 0) = bn at *
  have HE := Lib.hid HE
  have H1 := Lib.hid h1
  have HN := Lib.hid hnt
  clear h1 hnt
  go_enter Tryd.func61, Tryd.ntmps61
  go_wp2_with fail
  refine (H1.out _).mono ?_
  rintro e w1 ⟨rfl, rfl⟩
  cases b1
  · go_wp2_with fail
    go_ret
    exact ⟨by rw [HE.out]; simp, (by repeat' (first | exact Below.refl _ _ | refine Below.alloc ?_ ?_ _ | refine Below.setCell ?_ ?_ _ | refine Below.drew ?_ | (apply below_step; assumption) | (simp; done) | (simp; omega) | omega))⟩
  cases bn
  · go_wp2_with fail
    go_ret
    exact ⟨by rw [HE.out]; simp, (by repeat' (first | exact Below.refl _ _ | refine Below.alloc ?_ ?_ _ | refine Below.setCell ?_ ?_ _ | refine Below.drew ?_ | (apply below_step; assumption) | (simp; done) | (simp; omega) | omega))⟩
  cases works
  rotate_left
  · go_wp2_with fail
    go_ret
    exact ⟨by rw [HE.out]; simp, (by repeat' (first | exact Below.refl _ _ | refine Below.alloc ?_ ?_ _ | refine Below.setCell ?_ ?_ _ | refine Below.drew ?_ | (apply below_step; assumption) | (simp; done) | (simp; omega) | omega))⟩
  cases keep
  rotate_left
  · go_wp2_with fail
    go_ret
    exact ⟨by rw [HE.out]; simp, (by repeat' (first | exact Below.refl _ _ | refine Below.alloc ?_ ?_ _ | refine Below.setCell ?_ ?_ _ | refine Below.drew ?_ | (apply below_step; assumption) | (simp; done) | (simp; omega) | omega))⟩
  go_wp2_with fail
  refine (HN.out _).mono ?_
  rintro e w2 ⟨rfl, hb2⟩
  have hz2 := hb2.size
  simp [World.setCell] at hz2
  go_wp2_with fail
  go_ret
  exact ⟨by rw [HE.out]; simp, (by repeat' (first | exact Below.refl _ _ | refine Below.alloc ?_ ?_ _ | refine Below.setCell ?_ ?_ _ | refine Below.drew ?_ | (apply below_step; assumption) | (simp; done) | (simp; omega) | omega))⟩
set_option maxHeartbeats 1600000 in
theorem EventOk4_any (who n : Int) (works keep : Bool) (t : TV) (A1 A2 : Option Addr) (c1 c2 : Nat) (w : World) (x : Addr) (hg : ErrAt x w) (h1 : LabSl w (.slice A1 t.want.length c1) t.want) (h2 : IntSl w (.slice A2 t.tols.length c2) t.tols) (l1 : t.want.length ≤ 1048576) (l2 : t.tols.length ≤ 1048576) :
    Calls Tryd.prog 61 #[.agg #[.int .i64 4, .int .i64 who, .int .i64 n, .bool works, .bool keep, .int .i64 t.id, .int .i64 t.prio, .int .i64 t.need.c, .int .i64 t.need.m, .int .i64 t.need.p, .slice A1 t.want.length c1, .slice A2 t.tols.length c2]] w fun e w' => e = .returned (.bool (eventOk ⟨4, who, n, works, keep, t⟩)) ∧ Below w.heap.size w w' := by
  have HE : eventOk ⟨4, who, n, works, keep, t⟩ = ((t.ok) && (who == 0) && (n == 0) && !works && !keep) := rfl
  have h1 := fun w hg h1 h2 => TaskOk_any t (.slice A1 t.want.length c1) (.slice A2 t.tols.length c2) w x hg h1 h2 l1 l2
  generalize t.ok = b1 at *
  have hnt := fun w => isNoTask_any TV.zero none none 0 0 w
  rw [show noTask TV.zero = true from rfl] at hnt
  have HG := Lib.hid hg
  have HL := Lib.hid ‹LabSl w (.slice A1 t.want.length c1) t.want›
  have HI := Lib.hid h2
  generalize ew : (who == 0) = bw at *
  generalize en : (n == 0) = bn at *
  have HE := Lib.hid HE
  have H1 := Lib.hid h1
  have HN := Lib.hid hnt
  clear h1 hnt hg h2 l1 l2
  go_enter Tryd.func61, Tryd.ntmps61
  go_wp2_with fail
  have hX : Below w.heap.size w (w.alloc (.cells #[.int .i64 4, .int .i64 who, .int .i64 n, .bool works, .bool keep, .int .i64 t.id, .int .i64 t.prio, .int .i64 t.need.c, .int .i64 t.need.m, .int .i64 t.need.p, .slice A1 t.want.length c1, .slice A2 t.tols.length c2] 50)) := (by repeat' (first | exact Below.refl _ _ | refine Below.alloc ?_ ?_ _ | refine Below.setCell ?_ ?_ _ | refine Below.drew ?_ | (apply below_step; assumption) | (simp; done) | (simp; omega) | omega))
  refine (H1.out _ (HG.out.below hX (Nat.le_refl _)) (HL.out.below hX) (HI.out.below hX)).mono ?_
  rintro e w1 ⟨rfl, hb1⟩
  have hC1 := below_of hX hb1
  have hz1 := hb1.size
  simp at hz1
  have B1 := (BlockIs.new w 50 #[.int .i64 4, .int .i64 who, .int .i64 n, .bool works, .bool keep, .int .i64 t.id, .int .i64 t.prio, .int .i64 t.need.c, .int .i64 t.need.m, .int .i64 t.need.p, .slice A1 t.want.length c1, .slice A2 t.tols.length c2]).below hb1 (by simp)
  have g1 := B1.cell 1
  have g2 := B1.cell 2
  have g3 := B1.cell 3
  have g4 := B1.cell 4
  have g5 := B1.cell 5
  have g6 := B1.cell 6
  have g7 := B1.cell 7
  have g8 := B1.cell 8
  have g9 := B1.cell 9
  have g10 := B1.cell 10
  have g11 := B1.cell 11
  have gf := B1.frozen
  simp at g1 g2 g3 g4 g5 g6 g7 g8 g9 g10 g11
  clear B1 hX hb1
  cases b1
  · go_wp2_with fail
    go_ret
    exact ⟨by rw [HE.out]; simp, (((((((hC1.setCell (Nat.le_refl _) _).setCell (Nat.le_refl _) _).setCell (Nat.le_refl _) _).setCell (Nat.le_refl _) _).setCell (Nat.le_refl _) _).setCell (Nat.le_refl _) _).setCell (Nat.le_refl _) _)⟩
  cases bw
  · go_wp2_with fail
    go_ret
    exact ⟨by rw [HE.out]; simp, (((((((hC1.setCell (Nat.le_refl _) _).setCell (Nat.le_refl _) _).setCell (Nat.le_refl _) _).setCell (Nat.le_refl _) _).setCell (Nat.le_refl _) _).setCell (Nat.le_refl _) _).setCell (Nat.le_refl _) _)⟩
  cases bn
  · go_wp2_with fail
    go_ret
    exact ⟨by rw [HE.out]; simp, (((((((hC1.setCell (Nat.le_refl _) _).setCell (Nat.le_refl _) _).setCell (Nat.le_refl _) _).setCell (Nat.le_refl _) _).setCell (Nat.le_refl _) _).setCell (Nat.le_refl _) _).setCell (Nat.le_refl _) _)⟩
  cases works
  rotate_left
  · go_wp2_with fail
    go_ret
    exact ⟨by rw [HE.out]; simp, (((((((hC1.setCell (Nat.le_refl _) _).setCell (Nat.le_refl _) _).setCell (Nat.le_refl _) _).setCell (Nat.le_refl _) _).setCell (Nat.le_refl _) _).setCell (Nat.le_refl _) _).setCell (Nat.le_refl _) _)⟩
  cases keep
  rotate_left
  · go_wp2_with fail
    go_ret
    exact ⟨by rw [HE.out]; simp, (((((((hC1.setCell (Nat.le_refl _) _).setCell (Nat.le_refl _) _).setCell (Nat.le_refl _) _).setCell (Nat.le_refl _) _).setCell (Nat.le_refl _) _).setCell (Nat.le_refl _) _).setCell (Nat.le_refl _) _)⟩
  go_wp2_with fail
  have hY : Below w.heap.size w (((((((w1.setCell ⟨w.heap.size, 5, none⟩ (.int .i64 0)).setCell ⟨w.heap.size, 5 + 1, none⟩ (.int .i64 0)).setCell ⟨w.heap.size, 5 + 2, none⟩ (.int .i64 0)).setCell ⟨w.heap.size, 5 + 3, none⟩ (.int .i64 0)).setCell ⟨w.heap.size, 5 + 4, none⟩ (.int .i64 0)).setCell ⟨w.heap.size, 5 + 5, none⟩ (.slice none 0 0)).setCell ⟨w.heap.size, 5 + 6, none⟩ (.slice none 0 0)) := (((((((hC1.setCell (Nat.le_refl _) _).setCell (Nat.le_refl _) _).setCell (Nat.le_refl _) _).setCell (Nat.le_refl _) _).setCell (Nat.le_refl _) _).setCell (Nat.le_refl _) _).setCell (Nat.le_refl _) _)
  generalize (((((((w1.setCell ⟨w.heap.size, 5, none⟩ (.int .i64 0)).setCell ⟨w.heap.size, 5 + 1, none⟩ (.int .i64 0)).setCell ⟨w.heap.size, 5 + 2, none⟩ (.int .i64 0)).setCell ⟨w.heap.size, 5 + 3, none⟩ (.int .i64 0)).setCell ⟨w.heap.size, 5 + 4, none⟩ (.int .i64 0)).setCell ⟨w.heap.size, 5 + 5, none⟩ (.slice none 0 0)).setCell ⟨w.heap.size, 5 + 6, none⟩ (.slice none 0 0)) = Y at hY ⊢
  refine (HN.out _).mono ?_
  rintro e w2 ⟨rfl, hb2⟩
  go_wp2_with fail
  go_ret
  exact ⟨by rw [HE.out]; simp, below_of hY hb2⟩
set_option maxHeartbeats 1600000 in
theorem EventOk5_any (who n : Int) (works keep : Bool) (t : TV) (A1 A2 : Option Addr) (c1 c2 : Nat) (w : World) :
    Calls Tryd.prog 61 #[.agg #[.int .i64 5, .int .i64 who, .int .i64 n, .bool works, .bool keep, .int .i64 t.id, .int .i64 t.prio, .int .i64 t.need.c, .int .i64 t.need.m, .int .i64 t.need.p, .slice A1 t.want.length c1, .slice A2 t.tols.length c2]] w fun e w' => e = .returned (.bool (eventOk ⟨5, who, n, works, keep, t⟩)) ∧ Below w.heap.size w w' := by
  have HE : eventOk ⟨5, who, n, works, keep, t⟩ = ((lWithin n 1 99) && (who == 0) && !works && !keep && noTask t) := rfl
  have h1 := fun w => idOkE_any n w
  generalize lWithin n 1 99 = b1 at *
  have hnt := fun w => isNoTask_any t A1 A2 c1 c2 w
  generalize noTask t = nt at *
  generalize ew : (who == 0) = bw at *
  generalize en : (n == 0) = bn at *
  have HE := Lib.hid HE
  have H1 := Lib.hid h1
  have HN := Lib.hid hnt
  clear h1 hnt
  go_enter Tryd.func61, Tryd.ntmps61
  go_wp2_with fail
  refine (H1.out _).mono ?_
  rintro e w1 ⟨rfl, rfl⟩
  cases b1
  · go_wp2_with fail
    go_ret
    exact ⟨by rw [HE.out]; simp, (by repeat' (first | exact Below.refl _ _ | refine Below.alloc ?_ ?_ _ | refine Below.setCell ?_ ?_ _ | refine Below.drew ?_ | (apply below_step; assumption) | (simp; done) | (simp; omega) | omega))⟩
  cases bw
  · go_wp2_with fail
    go_ret
    exact ⟨by rw [HE.out]; simp, (by repeat' (first | exact Below.refl _ _ | refine Below.alloc ?_ ?_ _ | refine Below.setCell ?_ ?_ _ | refine Below.drew ?_ | (apply below_step; assumption) | (simp; done) | (simp; omega) | omega))⟩
  cases works
  rotate_left
  · go_wp2_with fail
    go_ret
    exact ⟨by rw [HE.out]; simp, (by repeat' (first | exact Below.refl _ _ | refine Below.alloc ?_ ?_ _ | refine Below.setCell ?_ ?_ _ | refine Below.drew ?_ | (apply below_step; assumption) | (simp; done) | (simp; omega) | omega))⟩
  cases keep
  rotate_left
  · go_wp2_with fail
    go_ret
    exact ⟨by rw [HE.out]; simp, (by repeat' (first | exact Below.refl _ _ | refine Below.alloc ?_ ?_ _ | refine Below.setCell ?_ ?_ _ | refine Below.drew ?_ | (apply below_step; assumption) | (simp; done) | (simp; omega) | omega))⟩
  go_wp2_with fail
  refine (HN.out _).mono ?_
  rintro e w2 ⟨rfl, hb2⟩
  have hz2 := hb2.size
  simp [World.setCell] at hz2
  go_wp2_with fail
  go_ret
  exact ⟨by rw [HE.out]; simp, (by repeat' (first | exact Below.refl _ _ | refine Below.alloc ?_ ?_ _ | refine Below.setCell ?_ ?_ _ | refine Below.drew ?_ | (apply below_step; assumption) | (simp; done) | (simp; omega) | omega))⟩
set_option maxHeartbeats 1600000 in
theorem EventOk6_any (who n : Int) (works keep : Bool) (t : TV) (A1 A2 : Option Addr) (c1 c2 : Nat) (w : World) :
    Calls Tryd.prog 61 #[.agg #[.int .i64 6, .int .i64 who, .int .i64 n, .bool works, .bool keep, .int .i64 t.id, .int .i64 t.prio, .int .i64 t.need.c, .int .i64 t.need.m, .int .i64 t.need.p, .slice A1 t.want.length c1, .slice A2 t.tols.length c2]] w fun e w' => e = .returned (.bool (eventOk ⟨6, who, n, works, keep, t⟩)) ∧ Below w.heap.size w w' := by
  have HE : eventOk ⟨6, who, n, works, keep, t⟩ = ((lWithin who 1 4) && (n == 0) && !works && !keep && noTask t) := rfl
  have h1 := fun w => replicaOk_any who w
  generalize lWithin who 1 4 = b1 at *
  have hnt := fun w => isNoTask_any t A1 A2 c1 c2 w
  generalize noTask t = nt at *
  generalize ew : (who == 0) = bw at *
  generalize en : (n == 0) = bn at *
  have HE := Lib.hid HE
  have H1 := Lib.hid h1
  have HN := Lib.hid hnt
  clear h1 hnt
  go_enter Tryd.func61, Tryd.ntmps61
  go_wp2_with fail
  refine (H1.out _).mono ?_
  rintro e w1 ⟨rfl, rfl⟩
  cases b1
  · go_wp2_with fail
    go_ret
    exact ⟨by rw [HE.out]; simp, (by repeat' (first | exact Below.refl _ _ | refine Below.alloc ?_ ?_ _ | refine Below.setCell ?_ ?_ _ | refine Below.drew ?_ | (apply below_step; assumption) | (simp; done) | (simp; omega) | omega))⟩
  cases bn
  · go_wp2_with fail
    go_ret
    exact ⟨by rw [HE.out]; simp, (by repeat' (first | exact Below.refl _ _ | refine Below.alloc ?_ ?_ _ | refine Below.setCell ?_ ?_ _ | refine Below.drew ?_ | (apply below_step; assumption) | (simp; done) | (simp; omega) | omega))⟩
  cases works
  rotate_left
  · go_wp2_with fail
    go_ret
    exact ⟨by rw [HE.out]; simp, (by repeat' (first | exact Below.refl _ _ | refine Below.alloc ?_ ?_ _ | refine Below.setCell ?_ ?_ _ | refine Below.drew ?_ | (apply below_step; assumption) | (simp; done) | (simp; omega) | omega))⟩
  cases keep
  rotate_left
  · go_wp2_with fail
    go_ret
    exact ⟨by rw [HE.out]; simp, (by repeat' (first | exact Below.refl _ _ | refine Below.alloc ?_ ?_ _ | refine Below.setCell ?_ ?_ _ | refine Below.drew ?_ | (apply below_step; assumption) | (simp; done) | (simp; omega) | omega))⟩
  go_wp2_with fail
  refine (HN.out _).mono ?_
  rintro e w2 ⟨rfl, hb2⟩
  have hz2 := hb2.size
  simp [World.setCell] at hz2
  go_wp2_with fail
  go_ret
  exact ⟨by rw [HE.out]; simp, (by repeat' (first | exact Below.refl _ _ | refine Below.alloc ?_ ?_ _ | refine Below.setCell ?_ ?_ _ | refine Below.drew ?_ | (apply below_step; assumption) | (simp; done) | (simp; omega) | omega))⟩
set_option maxHeartbeats 1600000 in
theorem EventOk7_any (who n : Int) (works keep : Bool) (t : TV) (A1 A2 : Option Addr) (c1 c2 : Nat) (w : World) :
    Calls Tryd.prog 61 #[.agg #[.int .i64 7, .int .i64 who, .int .i64 n, .bool works, .bool keep, .int .i64 t.id, .int .i64 t.prio, .int .i64 t.need.c, .int .i64 t.need.m, .int .i64 t.need.p, .slice A1 t.want.length c1, .slice A2 t.tols.length c2]] w fun e w' => e = .returned (.bool (eventOk ⟨7, who, n, works, keep, t⟩)) ∧ Below w.heap.size w w' := by
  have HE : eventOk ⟨7, who, n, works, keep, t⟩ = ((lWithin n 0 39) && (who == 0) && noTask t) := rfl
  have h1 := fun w => within_any n 0 39 w
  generalize lWithin n 0 39 = b1 at *
  have hnt := fun w => isNoTask_any t A1 A2 c1 c2 w
  generalize noTask t = nt at *
  generalize ew : (who == 0) = bw at *
  generalize en : (n == 0) = bn at *
  have HE := Lib.hid HE
  have H1 := Lib.hid h1
  have HN := Lib.hid hnt
  clear h1 hnt
  go_enter Tryd.func61, Tryd.ntmps61
  go_wp2_with fail
  refine (H1.out _).mono ?_
  rintro e w1 ⟨rfl, rfl⟩
  cases b1
  · go_wp2_with fail
    go_ret
    exact ⟨by rw [HE.out]; simp, (by repeat' (first | exact Below.refl _ _ | refine Below.alloc ?_ ?_ _ | refine Below.setCell ?_ ?_ _ | refine Below.drew ?_ | (apply below_step; assumption) | (simp; done) | (simp; omega) | omega))⟩
  cases bw
  · go_wp2_with fail
    go_ret
    exact ⟨by rw [HE.out]; simp, (by repeat' (first | exact Below.refl _ _ | refine Below.alloc ?_ ?_ _ | refine Below.setCell ?_ ?_ _ | refine Below.drew ?_ | (apply below_step; assumption) | (simp; done) | (simp; omega) | omega))⟩
  go_wp2_with fail
  refine (HN.out _).mono ?_
  rintro e w2 ⟨rfl, hb2⟩
  have hz2 := hb2.size
  simp [World.setCell] at hz2
  go_wp2_with fail
  go_ret
  exact ⟨by rw [HE.out]; simp, (by repeat' (first | exact Below.refl _ _ | refine Below.alloc ?_ ?_ _ | refine Below.setCell ?_ ?_ _ | refine Below.drew ?_ | (apply below_step; assumption) | (simp; done) | (simp; omega) | omega))⟩
set_option maxHeartbeats 1600000 in
theorem EventOk8_any (who n : Int) (works keep : Bool) (t : TV) (A1 A2 : Option Addr) (c1 c2 : Nat) (w : World) :
    Calls Tryd.prog 61 #[.agg #[.int .i64 8, .int .i64 who, .int .i64 n, .bool works, .bool keep, .int .i64 t.id, .int .i64 t.prio, .int .i64 t.need.c, .int .i64 t.need.m, .int .i64 t.need.p, .slice A1 t.want.length c1, .slice A2 t.tols.length c2]] w fun e w' => e = .returned (.bool (eventOk ⟨8, who, n, works, keep, t⟩)) ∧ Below w.heap.size w w' := by
  have HE : eventOk ⟨8, who, n, works, keep, t⟩ = ((lWithin n 0 39) && (who == 0) && !works && !keep && noTask t) := rfl
  have h1 := fun w => within_any n 0 39 w
  generalize lWithin n 0 39 = b1 at *
  have hnt := fun w => isNoTask_any t A1 A2 c1 c2 w
  generalize noTask t = nt at *
  generalize ew : (who == 0) = bw at *
  generalize en : (n == 0) = bn at *
  have HE := Lib.hid HE
  have H1 := Lib.hid h1
  have HN := Lib.hid hnt
  clear h1 hnt
  go_enter Tryd.func61, Tryd.ntmps61
  go_wp2_with fail
  refine (H1.out _).mono ?_
  rintro e w1 ⟨rfl, rfl⟩
  cases b1
  · go_wp2_with fail
    go_ret
    exact ⟨by rw [HE.out]; simp, (by repeat' (first | exact Below.refl _ _ | refine Below.alloc ?_ ?_ _ | refine Below.setCell ?_ ?_ _ | refine Below.drew ?_ | (apply below_step; assumption) | (simp; done) | (simp; omega) | omega))⟩
  cases bw
  · go_wp2_with fail
    go_ret
    exact ⟨by rw [HE.out]; simp, (by repeat' (first | exact Below.refl _ _ | refine Below.alloc ?_ ?_ _ | refine Below.setCell ?_ ?_ _ | refine Below.drew ?_ | (apply below_step; assumption) | (simp; done) | (simp; omega) | omega))⟩
  cases works
  rotate_left
  · go_wp2_with fail
    go_ret
    exact ⟨by rw [HE.out]; simp, (by repeat' (first | exact Below.refl _ _ | refine Below.alloc ?_ ?_ _ | refine Below.setCell ?_ ?_ _ | refine Below.drew ?_ | (apply below_step; assumption) | (simp; done) | (simp; omega) | omega))⟩
  cases keep
  rotate_left
  · go_wp2_with fail
    go_ret
    exact ⟨by rw [HE.out]; simp, (by repeat' (first | exact Below.refl _ _ | refine Below.alloc ?_ ?_ _ | refine Below.setCell ?_ ?_ _ | refine Below.drew ?_ | (apply below_step; assumption) | (simp; done) | (simp; omega) | omega))⟩
  go_wp2_with fail
  refine (HN.out _).mono ?_
  rintro e w2 ⟨rfl, hb2⟩
  have hz2 := hb2.size
  simp [World.setCell] at hz2
  go_wp2_with fail
  go_ret
  exact ⟨by rw [HE.out]; simp, (by repeat' (first | exact Below.refl _ _ | refine Below.alloc ?_ ?_ _ | refine Below.setCell ?_ ?_ _ | refine Below.drew ?_ | (apply below_step; assumption) | (simp; done) | (simp; omega) | omega))⟩
set_option maxHeartbeats 1600000 in
theorem EventOk9_any (who n : Int) (works keep : Bool) (t : TV) (A1 A2 : Option Addr) (c1 c2 : Nat) (w : World) :
    Calls Tryd.prog 61 #[.agg #[.int .i64 9, .int .i64 who, .int .i64 n, .bool works, .bool keep, .int .i64 t.id, .int .i64 t.prio, .int .i64 t.need.c, .int .i64 t.need.m, .int .i64 t.need.p, .slice A1 t.want.length c1, .slice A2 t.tols.length c2]] w fun e w' => e = .returned (.bool (eventOk ⟨9, who, n, works, keep, t⟩)) ∧ Below w.heap.size w w' := by
  have HE : eventOk ⟨9, who, n, works, keep, t⟩ = ((lWithin n 1 99) && (who == 0) && !works && !keep && noTask t) := rfl
  have h1 := fun w => idOkE_any n w
  generalize lWithin n 1 99 = b1 at *
  have hnt := fun w => isNoTask_any t A1 A2 c1 c2 w
  generalize noTask t = nt at *
  generalize ew : (who == 0) = bw at *
  generalize en : (n == 0) = bn at *
  have HE := Lib.hid HE
  have H1 := Lib.hid h1
  have HN := Lib.hid hnt
  clear h1 hnt
  go_enter Tryd.func61, Tryd.ntmps61
  go_wp2_with fail
  refine (H1.out _).mono ?_
  rintro e w1 ⟨rfl, rfl⟩
  cases b1
  · go_wp2_with fail
    go_ret
    exact ⟨by rw [HE.out]; simp, (by repeat' (first | exact Below.refl _ _ | refine Below.alloc ?_ ?_ _ | refine Below.setCell ?_ ?_ _ | refine Below.drew ?_ | (apply below_step; assumption) | (simp; done) | (simp; omega) | omega))⟩
  cases bw
  · go_wp2_with fail
    go_ret
    exact ⟨by rw [HE.out]; simp, (by repeat' (first | exact Below.refl _ _ | refine Below.alloc ?_ ?_ _ | refine Below.setCell ?_ ?_ _ | refine Below.drew ?_ | (apply below_step; assumption) | (simp; done) | (simp; omega) | omega))⟩
  cases works
  rotate_left
  · go_wp2_with fail
    go_ret
    exact ⟨by rw [HE.out]; simp, (by repeat' (first | exact Below.refl _ _ | refine Below.alloc ?_ ?_ _ | refine Below.setCell ?_ ?_ _ | refine Below.drew ?_ | (apply below_step; assumption) | (simp; done) | (simp; omega) | omega))⟩
  cases keep
  rotate_left
  · go_wp2_with fail
    go_ret
    exact ⟨by rw [HE.out]; simp, (by repeat' (first | exact Below.refl _ _ | refine Below.alloc ?_ ?_ _ | refine Below.setCell ?_ ?_ _ | refine Below.drew ?_ | (apply below_step; assumption) | (simp; done) | (simp; omega) | omega))⟩
  go_wp2_with fail
  refine (HN.out _).mono ?_
  rintro e w2 ⟨rfl, hb2⟩
  have hz2 := hb2.size
  simp [World.setCell] at hz2
  go_wp2_with fail
  go_ret
  exact ⟨by rw [HE.out]; simp, (by repeat' (first | exact Below.refl _ _ | refine Below.alloc ?_ ?_ _ | refine Below.setCell ?_ ?_ _ | refine Below.drew ?_ | (apply below_step; assumption) | (simp; done) | (simp; omega) | omega))⟩
set_option maxHeartbeats 800000 in
theorem EventOkX_any (k : Int) (who n : Int) (works keep : Bool) (t : TV) (A1 A2 : Option Addr) (c1 c2 : Nat) (w : World) (h : (k == 1) = false ∧ (k == 2) = false ∧ (k == 3) = false ∧ (k == 4) = false ∧ (k == 5) = false ∧ (k == 6) = false ∧ (k == 7) = false ∧ (k == 8) = false ∧ (k == 9) = false) :
    Calls Tryd.prog 61 #[.agg #[.int .i64 k, .int .i64 who, .int .i64 n, .bool works, .bool keep, .int .i64 t.id, .int .i64 t.prio, .int .i64 t.need.c, .int .i64 t.need.m, .int .i64 t.need.p, .slice A1 t.want.length c1, .slice A2 t.tols.length c2]] w fun e w' => e = .returned (.bool false) ∧ Below w.heap.size w w' := by
  obtain ⟨k1, k2, k3, k4, k5, k6, k7, k8, k9⟩ := h
  go_enter Tryd.func61, Tryd.ntmps61
  go_wp2_with fail
  go_ret
  exact ⟨rfl, (by repeat' (first | exact Below.refl _ _ | refine Below.alloc ?_ ?_ _ | refine Below.setCell ?_ ?_ _ | refine Below.drew ?_ | (apply below_step; assumption) | (simp; done) | (simp; omega) | omega))⟩
theorem eventOk_other {k who n : Int} {works keep : Bool} {t : TV} (h : (k == 1) = false ∧ (k == 2) = false ∧ (k == 3) = false ∧ (k == 4) = false ∧ (k == 5) = false ∧ (k == 6) = false ∧ (k == 7) = false ∧ (k == 8) = false ∧ (k == 9) = false) : eventOk ⟨k, who, n, works, keep, t⟩ = false := by
  simp only [beq_eq_false_iff_ne, ne_eq] at h
  unfold eventOk
  rw [if_neg (by simp only; omega), if_neg (by simp only; omega), if_neg (by simp only; omega), if_neg (by simp only; omega), if_neg (by simp only; omega), if_neg (by simp only; omega)]
theorem EventOk_any (e : EV) (v1 v2 : Value) (w : World) (x : Addr) (hg : ErrAt x w) (h1 : LabSl w v1 e.task.want) (h2 : IntSl w v2 e.task.tols) (l1 : e.task.want.length ≤ 1048576) (l2 : e.task.tols.length ≤ 1048576) :
    Calls Tryd.prog 61 #[.agg #[.int .i64 e.kind, .int .i64 e.who, .int .i64 e.n, .bool e.works, .bool e.keep, .int .i64 e.task.id, .int .i64 e.task.prio, .int .i64 e.task.need.c, .int .i64 e.task.need.m, .int .i64 e.task.need.p, v1, v2]] w fun r w' => r = .returned (.bool (eventOk e)) ∧ Below w.heap.size w w' := by
  obtain ⟨A1, c1, rfl, _⟩ := h1.form
  obtain ⟨A2, c2, rfl, _⟩ := h2.form
  obtain ⟨k, who, n, works, keep, t⟩ := e
  rcases kind_cases k with rfl | rfl | rfl | rfl | rfl | rfl | rfl | rfl | rfl | h
  · exact EventOk1_any who n works keep t A1 A2 c1 c2 w
  · exact EventOk2_any who n works keep t A1 A2 c1 c2 w
  · exact EventOk3_any who n works keep t A1 A2 c1 c2 w
  · exact EventOk4_any who n works keep t A1 A2 c1 c2 w x hg h1 h2 l1 l2
  · exact EventOk5_any who n works keep t A1 A2 c1 c2 w
  · exact EventOk6_any who n works keep t A1 A2 c1 c2 w
  · exact EventOk7_any who n works keep t A1 A2 c1 c2 w
  · exact EventOk8_any who n works keep t A1 A2 c1 c2 w
  · exact EventOk9_any who n works keep t A1 A2 c1 c2 w
  · rw [eventOk_other h]; exact EventOkX_any k who n works keep t A1 A2 c1 c2 w h
end Go.Proofs.YtcngiinaneefjaaDoor
