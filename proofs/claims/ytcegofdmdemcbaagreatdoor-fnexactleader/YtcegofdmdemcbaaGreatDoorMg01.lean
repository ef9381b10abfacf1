/- The laws' helpers over clusters: toTaskS, toNodeS, toBindS, toCluster. Rows of a call's own, element by element: which blocks turn; rows split and joined; cells of one element set anew. Whole structs as rows: a load that a guard asks for; a call's results out of a cell; what turned blocks leave. A whole struct loaded: the run. The contracts of chapter 1's functions: outOfRange, checkBoth, keepValid, ResOk, ResAdd, ResSub, ResFits. The contracts of ResOk, ResAdd, ResSub, ResFits. append of a label to a slice of the call's own; the contract of marks.labs. The contracts of LabsOk, LabsGet, LabsMatch. The contracts of readTaints, TaintsOk, Tolerates. The contracts of idOk, TaskOk, NodeOk, CanHost. The contracts of the model's LabsOk, LabsGet, LabsMatch. The contracts of the model's LabsGet and LabsMatch. The contracts of the model's TaintsOk, l02In, Tolerates. The contracts of the model's TaskOk, NodeOk, CanHost. Pools in plain Lean and in memory; the contracts of PoolOk and of its model. The contracts of the model's l03CopyTask and l03CopyNode. The contract of the model's l03Copy. What the laws' marks make of a list of labels, ints, tasks, nodes, bindings, in plain Lean. The laws' helpers that write marks and look for them, over tasks and nodes: markTaskS, markNodeS, heldTaskS, heldNodeS. -/
import Derived.Test.YtcegofdmdemcbaaGreatDoorMg00
import Derived.Laws.Rows
import Derived.Laws.Tables
import Derived.Laws.CopyOwn
import Derived.Deep.AppendLies
import Derived.OwnWalk
import Derived.Laws.OwnMore
import Derived.IntWalk
import Derived.Deep.RegionLaw
namespace Go.Proofs.YtcegofdmdemcbaaGreatDoor
open Go.RowKit

def setAll (cs : Array Value) (o : Nat) : List Value → Array Value
  | [] => cs
  | u :: r => setAll (cs.setIfInBounds o u) (o + 1) r
def putAll (w : World) (g o : Nat) : List Value → World
  | [] => w
  | u :: r => putAll (w.setCell ⟨g, o, none⟩ u) g (o + 1) r
theorem setAll_size (cs : Array Value) (o : Nat) (ds : List Value) : (setAll cs o ds).size = cs.size := by
  induction ds generalizing cs o with
  | nil => rfl
  | cons u r ih => simp [setAll, ih]
theorem setAll_far {cs : Array Value} {o i : Nat} {ds : List Value} (h : i < o ∨ o + ds.length ≤ i) : (setAll cs o ds)[i]? = cs[i]? := by
  induction ds generalizing cs o with
  | nil => rfl
  | cons u r ih =>
    simp only [List.length_cons] at h
    rw [setAll, ih (by omega), Array.getElem?_setIfInBounds_ne (by omega)]
theorem setAll_at {cs : Array Value} {o j : Nat} {ds : List Value} {u : Value} (hj : ds[j]? = some u) (h : o + ds.length ≤ cs.size) : (setAll cs o ds)[o + j]? = some u := by
  induction ds generalizing cs o j with
  | nil => simp at hj
  | cons x r ih =>
    simp only [List.length_cons] at h
    cases j with
    | zero =>
      simp at hj; subst hj
      rw [setAll, setAll_far (by omega), Nat.add_zero, Array.getElem?_setIfInBounds_self_of_lt (by omega)]
    | succ j =>
      have := ih (cs := cs.setIfInBounds o x) (o := o + 1) (j := j) (by simpa using hj) (by simp; omega)
      rw [setAll, show o + (j + 1) = o + 1 + j by omega]
      exact this
theorem BlockIs.putAll {w : World} {g o : Nat} {t : TypeId} {cs : Array Value} {ds : List Value} (h : BlockIs w g t cs) : BlockIs (putAll w g o ds) g t (setAll cs o ds) := by
  induction ds generalizing w o cs with
  | nil => exact h
  | cons u r ih => exact ih (h.put o u)
theorem BlockIs.putFar {w : World} {g b o : Nat} {t : TypeId} {cs : Array Value} {ds : List Value} (h : BlockIs w b t cs) (hne : b ≠ g) : BlockIs (Go.Proofs.YtcegofdmdemcbaaGreatDoor.putAll w g o ds) b t cs := by
  induction ds generalizing w o with
  | nil => exact h
  | cons u r ih => exact ih (h.far hne u)
theorem IntAt.putFar {w : World} {g b o off : Nat} {l : List Int} {ds : List Value} (h : IntAt w b off l) (hne : b ≠ g) : IntAt (putAll w g o ds) b off l := by
  induction ds generalizing w o with
  | nil => exact h
  | cons u r ih => exact ih (h.far hne u)
theorem putAll_size {w : World} {g o : Nat} {ds : List Value} : (putAll w g o ds).heap.size = w.heap.size := by
  induction ds generalizing w o with
  | nil => rfl
  | cons u r ih => rw [putAll, ih]; simp [World.setCell]
theorem putAll_below {B : Nat} {a w : World} {g o : Nat} {ds : List Value} (h : Below B a w) (hg : B ≤ g) : Below B a (putAll w g o ds) := by
  induction ds generalizing w o with
  | nil => exact h
  | cons u r ih => exact ih (h.setCell hg u)

def TaskN (base : Nat) (w : World) (t : TV) (cs : List Value) : Prop := ∃ g1 g2, cs = [.int .i64 t.id, .int .i64 t.prio, .int .i64 t.need.c, .int .i64 t.need.m, .int .i64 t.need.p, .slice (some ⟨g1, 0, none⟩) t.want.length t.want.length, .slice (some ⟨g2, 0, none⟩) t.tols.length t.tols.length] ∧
  base ≤ g1 ∧ base ≤ g2 ∧ g2 < w.heap.size ∧ BlockIs w g1 143 (labL t.want).toArray ∧ IntAt w g2 0 t.tols ∧ t.want.length ≤ 1048576 ∧ t.tols.length ≤ 1048576
def NodeN (base : Nat) (w : World) (t : NV) (cs : List Value) : Prop := ∃ g1 g2, cs = [.int .i64 t.id, .int .i64 t.pool, .int .i64 t.cap.c, .int .i64 t.cap.m, .int .i64 t.cap.p, .slice (some ⟨g1, 0, none⟩) t.labs.length t.labs.length, .slice (some ⟨g2, 0, none⟩) t.taints.length t.taints.length, .bool t.cordon] ∧
  base ≤ g1 ∧ base ≤ g2 ∧ g2 < w.heap.size ∧ BlockIs w g1 143 (labL t.labs).toArray ∧ IntAt w g2 0 t.taints ∧ t.labs.length ≤ 1048576 ∧ t.taints.length ≤ 1048576
def BindN (_ : Nat) (_ : World) (t : BV) (cs : List Value) : Prop := cs = [.int .i64 t.task, .int .i64 t.node]
theorem TaskN.kept (base : Nat) : Kept (TaskN base) := fun _ _ _ _ hb ⟨g1, g2, e, h1, h2, h3, h4, h5, h6⟩ => ⟨g1, g2, e, h1, h2, Nat.lt_of_lt_of_le h3 hb.size, h4.below hb h4.lt, h5.below hb h3, h6⟩
theorem TaskN.put {base g o : Nat} {w : World} {t : TV} {cs ds : List Value} (h : TaskN base w t cs) (hg : g < base) : TaskN base (putAll w g o ds) t cs := by
  obtain ⟨g1, g2, e, h1, h2, h3, h4, h5, h6⟩ := h
  exact ⟨g1, g2, e, h1, h2, by rw [putAll_size]; exact h3, h4.putFar (by omega), h5.putFar (by omega), h6⟩
theorem TaskN.r {base : Nat} {w : World} {t : TV} {cs : List Value} (h : TaskN base w t cs) : TaskR w t cs := by
  obtain ⟨g1, g2, e, h1, h2, h3, h4, h5, h6⟩ := h
  exact ⟨_, _, e, .inr ⟨g1, 0, _, rfl, h4.lt, LabAt.of_cells h4⟩, .inr ⟨g2, 0, _, rfl, h3, h5⟩, h6⟩
theorem TaskN.len {base : Nat} {w : World} {t : TV} {cs : List Value} (h : TaskN base w t cs) : cs.length = 7 := by
  obtain ⟨g1, g2, e, _⟩ := h; subst e; rfl
theorem NodeN.kept (base : Nat) : Kept (NodeN base) := fun _ _ _ _ hb ⟨g1, g2, e, h1, h2, h3, h4, h5, h6⟩ => ⟨g1, g2, e, h1, h2, Nat.lt_of_lt_of_le h3 hb.size, h4.below hb h4.lt, h5.below hb h3, h6⟩
theorem NodeN.put {base g o : Nat} {w : World} {t : NV} {cs ds : List Value} (h : NodeN base w t cs) (hg : g < base) : NodeN base (putAll w g o ds) t cs := by
  obtain ⟨g1, g2, e, h1, h2, h3, h4, h5, h6⟩ := h
  exact ⟨g1, g2, e, h1, h2, by rw [putAll_size]; exact h3, h4.putFar (by omega), h5.putFar (by omega), h6⟩
theorem NodeN.r {base : Nat} {w : World} {t : NV} {cs : List Value} (h : NodeN base w t cs) : NodeR w t cs := by
  obtain ⟨g1, g2, e, h1, h2, h3, h4, h5, h6⟩ := h
  exact ⟨_, _, e, .inr ⟨g1, 0, _, rfl, h4.lt, LabAt.of_cells h4⟩, .inr ⟨g2, 0, _, rfl, h3, h5⟩, h6⟩
theorem NodeN.len {base : Nat} {w : World} {t : NV} {cs : List Value} (h : NodeN base w t cs) : cs.length = 8 := by
  obtain ⟨g1, g2, e, _⟩ := h; subst e; rfl
theorem BindN.kept (base : Nat) : Kept (BindN base) := fun _ _ _ _ _ h => h
theorem BindN.put {base g o : Nat} {w : World} {t : BV} {cs ds : List Value} (h : BindN base w t cs) (_ : g < base) : BindN base (putAll w g o ds) t cs := h
theorem BindN.r {base : Nat} {w : World} {t : BV} {cs : List Value} (h : BindN base w t cs) : BindR w t cs := h
theorem BindN.len {base : Nat} {w : World} {t : BV} {cs : List Value} (h : BindN base w t cs) : cs.length = 2 := by rw [h]; rfl

def CopyG {α : Type} (R : World → α → List Value → Prop) (n : Nat) (ty : TypeId) (w : World) (g : Nat) (l : List α) (k : Nat) : Prop :=
  ∃ cs : Array Value, BlockIs w g ty cs ∧ cs.size = l.length * n ∧ ∀ (i : Nat) (x : α), i < k → l[i]? = some x → ∃ ds, R w x ds ∧ ds.length = n ∧ ∀ (j : Nat) (u : Value), ds[j]? = some u → cs[i * n + j]? = some u
section
variable {α : Type} {R : World → α → List Value → Prop} {n g k : Nat} {ty : TypeId} {w w' : World} {l : List α}
theorem CopyG.lt (h : CopyG R n ty w g l k) : g < w.heap.size := by obtain ⟨cs, hb, _⟩ := h; exact hb.lt
theorem CopyG.below (hR : Kept R) (h : CopyG R n ty w g l k) (hb : Below w.heap.size w w') : CopyG R n ty w' g l k := by
  obtain ⟨cs, h1, h2, h3⟩ := h
  refine ⟨cs, h1.below hb h1.lt, h2, fun i x hi hx => ?_⟩
  obtain ⟨ds, a, b⟩ := h3 i x hi hx
  exact ⟨ds, hR _ _ _ _ hb a, b⟩
theorem CopyG.step {x : α} {ds : List Value} (h : CopyG R n ty w g l k) (hx : l[k]? = some x) (hd : R (putAll w g (k * n) ds) x ds) (hn : ds.length = n) (hp : ∀ y es, R w y es → R (putAll w g (k * n) ds) y es) : CopyG R n ty (putAll w g (k * n) ds) g l (k + 1) := by
  obtain ⟨cs, h1, h2, h3⟩ := h
  have hk : k < l.length := (List.getElem?_eq_some_iff.1 hx).1
  have hkn : k * n + n ≤ l.length * n := by
    have := Nat.mul_le_mul_right n (show k + 1 ≤ l.length from hk)
    rw [Nat.add_mul, Nat.one_mul] at this; exact this
  refine ⟨_, h1.putAll, by rw [setAll_size, h2], fun i y hi hy => ?_⟩
  by_cases e : i = k
  · subst e
    obtain rfl := Option.some.inj (hx.symm.trans hy)
    exact ⟨ds, hd, hn, fun j u hu => setAll_at hu (by omega)⟩
  · obtain ⟨es, a, b, d⟩ := h3 i y (by omega) hy
    refine ⟨es, hp y es a, b, fun j u hu => ?_⟩
    have hj : j < n := by rw [← b]; exact (List.getElem?_eq_some_iff.1 hu).1
    have hin : i * n + n ≤ k * n := by
      have := Nat.mul_le_mul_right n (show i + 1 ≤ k by omega)
      rw [Nat.add_mul, Nat.one_mul] at this; exact this
    rw [setAll_far (by omega)]; exact d j u hu
theorem CopyG.sl {S : World → α → List Value → Prop} (hRS : ∀ x cs, R w x cs → S w x cs) (h : CopyG R n ty w g l l.length) : GSl S n w (.slice (some ⟨g, 0, none⟩) l.length l.length) l := by
  obtain ⟨cs, h1, h2, h3⟩ := h
  refine .inr ⟨g, 0, _, rfl, h1.lt, fun i x hx => ?_⟩
  obtain ⟨ds, a, b, d⟩ := h3 i x (List.getElem?_eq_some_iff.1 hx).1 hx
  exact ⟨ds, hRS _ _ a, CellsAt.of_block h1 (fun j u hu => by rw [Nat.zero_add]; exact d j u hu)⟩
end

theorem toBind_any (r : BV) (w : World) :
    Calls Tryz.prog 175 #[.agg #[.int .i64 r.task, .int .i64 r.node]] w fun e w' => e = .returned (.agg #[.int .i64 r.task, .int .i64 r.node]) ∧ Below w.heap.size w w' := by
  go_enter Tryz.func175, Tryz.ntmps175
  go_wp2
  exact bodyPost_ret (v := .agg #[.int .i64 r.task, .int .i64 r.node]) (by simp [results, Tryz.results175, go_sem]) rfl ⟨rfl, (by repeat' (first | exact Below.refl _ _ | refine Below.alloc ?_ ?_ _ | refine Below.setCell ?_ ?_ _ | refine Below.drew ?_ | (apply below_step; assumption) | (simp; done) | (simp; omega) | omega))⟩
theorem Tryz.infoTask : (Tryz.prog.info? 154).map (fun i => (i.zero, i.size, i.bytes)) = some (some (.agg #[.int .i64 0, .int .i64 0, .int .i64 0, .int .i64 0, .int .i64 0, .slice none 0 0, .slice none 0 0]), 7, 88) := by kernel_rfl
theorem Tryz.infoNode : (Tryz.prog.info? 78).map (fun i => (i.zero, i.size, i.bytes)) = some (some (.agg #[.int .i64 0, .int .i64 0, .int .i64 0, .int .i64 0, .int .i64 0, .slice none 0 0, .slice none 0 0, .bool false]), 8, 96) := by kernel_rfl
theorem Tryz.infoBind : (Tryz.prog.info? 157).map (fun i => (i.zero, i.size, i.bytes)) = some (some (.agg #[.int .i64 0, .int .i64 0]), 2, 16) := by kernel_rfl
theorem make_task (n : Nat) (h : n ≤ 1048576) (w : World) : (Instr.makeSlice 28 (.int .i64 (n : Int)) (.int .i64 (n : Int))).run Tryz.prog w = .ok (.slice (some ⟨w.heap.size, 0, none⟩) n n) (w.alloc (.cells (madeCells #[.int .i64 0, .int .i64 0, .int .i64 0, .int .i64 0, .int .i64 0, .slice none 0 0, .slice none 0 0] (n * 7)) 154)) := by
  obtain ⟨i, hi, hzz⟩ := Option.map_eq_some_iff.1 Tryz.infoTask
  simp only [Prod.mk.injEq] at hzz
  obtain ⟨hz, hs, hb⟩ := hzz
  have := run_make (P := Tryz.prog) w 28 154 i _ Tryz.underlying28 hi hz .i64 .i64 n n (by omega) (Int.le_refl _) (by rw [hb]; omega) (by omega)
  rw [this, hs]
  simp [Value.cells]
theorem make_node (n : Nat) (h : n ≤ 1048576) (w : World) : (Instr.makeSlice 29 (.int .i64 (n : Int)) (.int .i64 (n : Int))).run Tryz.prog w = .ok (.slice (some ⟨w.heap.size, 0, none⟩) n n) (w.alloc (.cells (madeCells #[.int .i64 0, .int .i64 0, .int .i64 0, .int .i64 0, .int .i64 0, .slice none 0 0, .slice none 0 0, .bool false] (n * 8)) 78)) := by
  obtain ⟨i, hi, hzz⟩ := Option.map_eq_some_iff.1 Tryz.infoNode
  simp only [Prod.mk.injEq] at hzz
  obtain ⟨hz, hs, hb⟩ := hzz
  have := run_make (P := Tryz.prog) w 29 78 i _ Tryz.underlying29 hi hz .i64 .i64 n n (by omega) (Int.le_refl _) (by rw [hb]; omega) (by omega)
  rw [this, hs]
  simp [Value.cells]
theorem make_bind (n : Nat) (h : n ≤ 1048576) (w : World) : (Instr.makeSlice 30 (.int .i64 (n : Int)) (.int .i64 (n : Int))).run Tryz.prog w = .ok (.slice (some ⟨w.heap.size, 0, none⟩) n n) (w.alloc (.cells (madeCells #[.int .i64 0, .int .i64 0] (n * 2)) 157)) := by
  obtain ⟨i, hi, hzz⟩ := Option.map_eq_some_iff.1 Tryz.infoBind
  simp only [Prod.mk.injEq] at hzz
  obtain ⟨hz, hs, hb⟩ := hzz
  have := run_make (P := Tryz.prog) w 30 157 i _ Tryz.underlying30 hi hz .i64 .i64 n n (by omega) (Int.le_refl _) (by rw [hb]; omega) (by omega)
  rw [this, hs]
  simp [Value.cells]
end Go.Proofs.YtcegofdmdemcbaaGreatDoor
namespace Go.Proofs.YtcegofdmdemcbaaGreatDoor
open Go.RowKit

section
variable {α : Type} {R S : World → α → List Value → Prop} {n g k : Nat} {ty : TypeId} {w w' : World} {l : List α}
theorem CopyG.putFar {b o : Nat} {es : List Value} (h : CopyG R n ty w g l k) (hne : g ≠ b) (hp : ∀ y ds, R w y ds → R (putAll w b o es) y ds) : CopyG R n ty (putAll w b o es) g l k := by
  obtain ⟨cs, h1, h2, h3⟩ := h
  refine ⟨cs, h1.putFar hne, h2, fun i x hi hx => ?_⟩
  obtain ⟨ds, a, b⟩ := h3 i x hi hx
  exact ⟨ds, hp _ _ a, b⟩
end
def CluN (base : Nat) (w : World) (c : CV) (g0 g1 g2 : Nat) : Prop := base ≤ g0 ∧ base ≤ g1 ∧ base ≤ g2 ∧ CopyG (TaskN base) 7 154 w g0 c.tasks c.tasks.length ∧ CopyG (NodeN base) 8 78 w g1 c.nodes c.nodes.length ∧ CopyG (BindN base) 2 157 w g2 c.binds c.binds.length ∧
  c.tasks.length ≤ 1048576 ∧ c.nodes.length ≤ 1048576 ∧ c.binds.length ≤ 1048576
theorem CluN.below {base : Nat} {w w' : World} {c : CV} {g0 g1 g2 : Nat} (h : CluN base w c g0 g1 g2) (hb : Below w.heap.size w w') : CluN base w' c g0 g1 g2 := by
  obtain ⟨a0, a1, a2, h0, h1, h2, l⟩ := h
  exact ⟨a0, a1, a2, h0.below (TaskN.kept _) hb, h1.below (NodeN.kept _) hb, h2.below (BindN.kept _) hb, l⟩
theorem CluN.clu {base : Nat} {w : World} {c : CV} {g0 g1 g2 : Nat} (h : CluN base w c g0 g1 g2) : CluR w c (.slice (some ⟨g0, 0, none⟩) c.tasks.length c.tasks.length) (.slice (some ⟨g1, 0, none⟩) c.nodes.length c.nodes.length) (.slice (some ⟨g2, 0, none⟩) c.binds.length c.binds.length) := by
  obtain ⟨a0, a1, a2, h0, h1, h2, l⟩ := h
  exact ⟨h0.sl (fun _ _ h => h.r), h1.sl (fun _ _ h => h.r), h2.sl (fun _ _ h => h.r), l⟩
theorem eqBind_same (t : BV) (w : World) : Calls Tryz.prog 164 #[.agg #[.int .i64 t.task, .int .i64 t.node], .agg #[.int .i64 t.task, .int .i64 t.node]] w fun e w' => e = .returned (.bool true) ∧ Below w.heap.size w w' := by
  have h1 : (t.task != t.task) = false := by simp
  have h2 : (t.node != t.node) = false := by simp
  go_enter Tryz.func164, Tryz.ntmps164
  go_wp2
  go_ret
  exact ⟨rfl, (by repeat' (first | exact Below.refl _ _ | refine Below.alloc ?_ ?_ _ | refine Below.setCell ?_ ?_ _ | refine Below.drew ?_ | (apply below_step; assumption) | (simp; done) | (simp; omega) | omega))⟩
theorem eqTask_r (t : TV) (cs ds : List Value) (w : World) (h : TaskR w t cs) (k : TaskR w t ds) : Calls Tryz.prog 163 #[.agg cs.toArray, .agg ds.toArray] w fun e w' => e = .returned (.bool true) ∧ Below w.heap.size w w' := by
  obtain ⟨v1, v2, rfl, h1, h2, l1, l2⟩ := h
  obtain ⟨u1, u2, rfl, k1, k2, _, _⟩ := k
  exact eqTask_same t v1 v2 u1 u2 w h1 h2 k1 k2 l1 l2
theorem eqNode_r (t : NV) (cs ds : List Value) (w : World) (h : NodeR w t cs) (k : NodeR w t ds) : Calls Tryz.prog 103 #[.agg cs.toArray, .agg ds.toArray] w fun e w' => e = .returned (.bool true) ∧ Below w.heap.size w w' := by
  obtain ⟨v1, v2, rfl, h1, h2, l1, l2⟩ := h
  obtain ⟨u1, u2, rfl, k1, k2, _, _⟩ := k
  exact eqNode_same t v1 v2 u1 u2 w h1 h2 k1 k2 l1 l2
theorem eqBind_r (t : BV) (cs ds : List Value) (w : World) (h : BindR w t cs) (k : BindR w t ds) : Calls Tryz.prog 164 #[.agg cs.toArray, .agg ds.toArray] w fun e w' => e = .returned (.bool true) ∧ Below w.heap.size w w' := by
  obtain rfl := h
  obtain rfl := k
  exact eqBind_same t w
set_option maxHeartbeats 1600000 in
set_option maxRecDepth 20000 in
theorem eqTaskS_same (v1 v2 : Value) (l : List TV) (w : World) (h1 : TaskSl w v1 l) (h2 : TaskSl w v2 l) (hlen : l.length ≤ 1048576) :
    Calls Tryz.prog 97 #[v1, v2] w fun e w' => e = .returned (.bool true) ∧ Below w.heap.size w w' := by
  obtain ⟨A, c, rfl, hA⟩ := h1.form
  obtain ⟨A', c', rfl, hA'⟩ := h2.form
  have HA := Lib.hid hA
  have HA' := Lib.hid hA'
  clear hA hA' h1 h2
  have hnn : ((l.length : Int) != (l.length : Int)) = false := by simp
  go_enter Tryz.func97, Tryz.ntmps97
  go_wp2_with fail
  go_loopw [5] (fun s5 wr => ∃ k : Nat, k ≤ l.length ∧ s5 = .int .i64 k ∧ Below w.heap.size w wr) (fun s5 _ => (l.length - intOf s5).toNat)
  case atStart => exact ⟨0, by omega, rfl, Below.refl _ _⟩
  case round =>
    obtain ⟨k, hk, rfl, hB⟩ := hrel
    have hzr := hB.size
    by_cases hlt : k < l.length
    · obtain ⟨b, off, rfl, hbw, hat⟩ := HA.out (by omega)
      obtain ⟨b', off', rfl, hbw', hat'⟩ := HA'.out (by omega)
      obtain ⟨t, ht⟩ : ∃ t, l[k]? = some t := ⟨_, List.getElem?_eq_getElem hlt⟩
      obtain ⟨ds, hR, hC⟩ := (hat'.below TaskR.kept hB hbw') k t ht
      have HR' := Lib.hid hR
      obtain ⟨v3, v4, rfl, sl, si, m1, m2⟩ := hR; obtain ⟨A3, c3, rfl, _⟩ := sl.form; obtain ⟨A4, c4, rfl, _⟩ := si.form; clear sl si m1 m2
      obtain ⟨p0, p1, p2, p3, p4, p5, p6⟩ := task_cells hC
      clear hC
      obtain ⟨cs, hR, hC⟩ := (hat.below TaskR.kept hB hbw) k t ht
      have HR := Lib.hid hR
      obtain ⟨v1, v2, rfl, sl, si, m1, m2⟩ := hR; obtain ⟨A1, c1, rfl, _⟩ := sl.form; obtain ⟨A2, c2, rfl, _⟩ := si.form
      clear sl si m1 m2
      obtain ⟨q0, q1, q2, q3, q4, q5, q6⟩ := task_cells hC
      have hbr : b < wr.heap.size := by omega
      have hbr' : b' < wr.heap.size := by omega
      have HK := Lib.hid (show ∀ w', Below wr.heap.size wr w' → Below wr.heap.size wr w' ∧ w'.cell? ⟨b, off + k * 7, none⟩ = some (.int .i64 t.id) ∧ w'.cell? ⟨b, off + k * 7 + 1, none⟩ = some (.int .i64 t.prio) ∧ w'.cell? ⟨b, off + k * 7 + 2, none⟩ = some (.int .i64 t.need.c) ∧ w'.cell? ⟨b, off + k * 7 + 3, none⟩ = some (.int .i64 t.need.m) ∧ w'.cell? ⟨b, off + k * 7 + 4, none⟩ = some (.int .i64 t.need.p) ∧ w'.cell? ⟨b, off + k * 7 + 5, none⟩ = some (.slice A1 t.want.length c1) ∧ w'.cell? ⟨b, off + k * 7 + 6, none⟩ = some (.slice A2 t.tols.length c2) ∧ w'.cell? ⟨b', off' + k * 7, none⟩ = some (.int .i64 t.id) ∧ w'.cell? ⟨b', off' + k * 7 + 1, none⟩ = some (.int .i64 t.prio) ∧ w'.cell? ⟨b', off' + k * 7 + 2, none⟩ = some (.int .i64 t.need.c) ∧ w'.cell? ⟨b', off' + k * 7 + 3, none⟩ = some (.int .i64 t.need.m) ∧ w'.cell? ⟨b', off' + k * 7 + 4, none⟩ = some (.int .i64 t.need.p) ∧ w'.cell? ⟨b', off' + k * 7 + 5, none⟩ = some (.slice A3 t.want.length c3) ∧ w'.cell? ⟨b', off' + k * 7 + 6, none⟩ = some (.slice A4 t.tols.length c4) from fun w' hb => ⟨hb, (hb.cell (p := ⟨_, _, none⟩) hbr).trans q0, (hb.cell (p := ⟨_, _, none⟩) hbr).trans q1, (hb.cell (p := ⟨_, _, none⟩) hbr).trans q2, (hb.cell (p := ⟨_, _, none⟩) hbr).trans q3, (hb.cell (p := ⟨_, _, none⟩) hbr).trans q4, (hb.cell (p := ⟨_, _, none⟩) hbr).trans q5, (hb.cell (p := ⟨_, _, none⟩) hbr).trans q6, (hb.cell (p := ⟨_, _, none⟩) hbr').trans p0, (hb.cell (p := ⟨_, _, none⟩) hbr').trans p1, (hb.cell (p := ⟨_, _, none⟩) hbr').trans p2, (hb.cell (p := ⟨_, _, none⟩) hbr').trans p3, (hb.cell (p := ⟨_, _, none⟩) hbr').trans p4, (hb.cell (p := ⟨_, _, none⟩) hbr').trans p5, (hb.cell (p := ⟨_, _, none⟩) hbr').trans p6⟩)
      have hlti : (k : Int) < (l.length : Int) := by omega
      have hk0 : (0 : Int) ≤ (k : Int) := by omega
      clear hat hat' ht hC q0 q1 q2 q3 q4 q5 q6 p0 p1 p2 p3 p4 p5 p6
      go_wp2_with fail
      refine wp_region_held_drew (S := (fun w' => Below wr.heap.size wr w' ∧ w'.cell? ⟨b, off + k * 7, none⟩ = some (.int .i64 t.id) ∧ w'.cell? ⟨b, off + k * 7 + 1, none⟩ = some (.int .i64 t.prio) ∧ w'.cell? ⟨b, off + k * 7 + 2, none⟩ = some (.int .i64 t.need.c) ∧ w'.cell? ⟨b, off + k * 7 + 3, none⟩ = some (.int .i64 t.need.m) ∧ w'.cell? ⟨b, off + k * 7 + 4, none⟩ = some (.int .i64 t.need.p) ∧ w'.cell? ⟨b, off + k * 7 + 5, none⟩ = some (.slice A1 t.want.length c1) ∧ w'.cell? ⟨b, off + k * 7 + 6, none⟩ = some (.slice A2 t.tols.length c2) ∧ w'.cell? ⟨b', off' + k * 7, none⟩ = some (.int .i64 t.id) ∧ w'.cell? ⟨b', off' + k * 7 + 1, none⟩ = some (.int .i64 t.prio) ∧ w'.cell? ⟨b', off' + k * 7 + 2, none⟩ = some (.int .i64 t.need.c) ∧ w'.cell? ⟨b', off' + k * 7 + 3, none⟩ = some (.int .i64 t.need.m) ∧ w'.cell? ⟨b', off' + k * 7 + 4, none⟩ = some (.int .i64 t.need.p) ∧ w'.cell? ⟨b', off' + k * 7 + 5, none⟩ = some (.slice A3 t.want.length c3) ∧ w'.cell? ⟨b', off' + k * 7 + 6, none⟩ = some (.slice A4 t.tols.length c4))) (by kernel_rfl) (by (try dsimp only); exact HK.out _ (by repeat' (first | exact Below.refl _ _ | refine Below.alloc ?_ ?_ _ | refine Below.setCell ?_ ?_ _ | refine Below.drew ?_ | (apply below_step; assumption) | (simp; done) | (simp; omega) | omega))) (fun hHeld => ?_)
      refine hT 0 ?_; simp only [Act.put, rhA, rhS, rhT]
      refine hT 1 ?_; simp only [Act.put, rhA, rhS, rhT]
      refine hT 2 ?_; simp only [Act.put, rhA, rhS, rhT]
      refine hT 3 ?_; simp only [Act.put, rhA, rhS, rhT]
      refine hT 4 ?_; simp only [Act.put, rhA, rhS, rhT]
      refine hT 5 ?_; simp only [Act.put, rhA, rhS, rhT]
      refine hT 6 ?_; simp only [Act.put, rhA, rhS, rhT]
      refine hT 7 ?_; simp only [Act.put, rhA, rhS, rhT]
      refine hCall (i := 8) (o := ?a10) ?b10 (by kernel_rfl) ?c10 (fun K hK => ?d10)
      case b10 => simp only [rhN, rhM]; try rfl
      case c10 => rfl
      go_simp
      refine (eqTask_r t _ _ _ (TaskR.kept _ _ _ _ (by repeat' (first | exact Below.refl _ _ | refine Below.alloc ?_ ?_ _ | refine Below.setCell ?_ ?_ _ | refine Below.drew ?_ | (apply below_step; assumption) | (simp; done) | (simp; omega) | omega)) HR.out) (TaskR.kept _ _ _ _ (by repeat' (first | exact Below.refl _ _ | refine Below.alloc ?_ ?_ _ | refine Below.setCell ?_ ?_ _ | refine Below.drew ?_ | (apply below_step; assumption) | (simp; done) | (simp; omega) | omega)) HR'.out)).mono ?_
      rintro e w3 ⟨rfl, hb3⟩
      have hz3 := hb3.size
      try simp at hz3
      go_wp2_with fail
      refine hK.out _ _ (by (try dsimp only); exact HK.out _ (by repeat' (first | exact Below.refl _ _ | refine Below.alloc ?_ ?_ _ | refine Below.setCell ?_ ?_ _ | refine Below.drew ?_ | (apply below_step; assumption) | (simp; done) | (simp; omega) | omega))) (fun hHeld => ?_)
      clear hK K
      try simp only [Act.put, rhA, rhS, rhT]
      refine hT 9 ?_; simp only [Act.put, rhA, rhS, rhT]
      refine wpAnyH_done (by kernel_rfl) ?_ _
      go_wp2_with fail
      go_roundw
      case rel => exact ⟨k + 1, by omega, by go_num, (by repeat' (first | exact Below.refl _ _ | refine Below.alloc ?_ ?_ _ | refine Below.setCell ?_ ?_ _ | refine Below.drew ?_ | (apply below_step; assumption) | (simp; done) | (simp; omega) | omega))⟩
      case measure => simp [intOf]; omega
    · go_wp2_with fail
      go_ret
      exact ⟨rfl, hB⟩
set_option maxHeartbeats 1600000 in
set_option maxRecDepth 20000 in
theorem eqNodeS_same (v1 v2 : Value) (l : List NV) (w : World) (h1 : NodeSl w v1 l) (h2 : NodeSl w v2 l) (hlen : l.length ≤ 1048576) :
    Calls Tryz.prog 98 #[v1, v2] w fun e w' => e = .returned (.bool true) ∧ Below w.heap.size w w' := by
  obtain ⟨A, c, rfl, hA⟩ := h1.form
  obtain ⟨A', c', rfl, hA'⟩ := h2.form
  have HA := Lib.hid hA
  have HA' := Lib.hid hA'
  clear hA hA' h1 h2
  have hnn : ((l.length : Int) != (l.length : Int)) = false := by simp
  go_enter Tryz.func98, Tryz.ntmps98
  go_wp2_with fail
  go_loopw [5] (fun s5 wr => ∃ k : Nat, k ≤ l.length ∧ s5 = .int .i64 k ∧ Below w.heap.size w wr) (fun s5 _ => (l.length - intOf s5).toNat)
  case atStart => exact ⟨0, by omega, rfl, Below.refl _ _⟩
  case round =>
    obtain ⟨k, hk, rfl, hB⟩ := hrel
    have hzr := hB.size
    by_cases hlt : k < l.length
    · obtain ⟨b, off, rfl, hbw, hat⟩ := HA.out (by omega)
      obtain ⟨b', off', rfl, hbw', hat'⟩ := HA'.out (by omega)
      obtain ⟨t, ht⟩ : ∃ t, l[k]? = some t := ⟨_, List.getElem?_eq_getElem hlt⟩
      obtain ⟨ds, hR, hC⟩ := (hat'.below NodeR.kept hB hbw') k t ht
      have HR' := Lib.hid hR
      obtain ⟨v3, v4, rfl, sl, si, m1, m2⟩ := hR; obtain ⟨A3, c3, rfl, _⟩ := sl.form; obtain ⟨A4, c4, rfl, _⟩ := si.form; clear sl si m1 m2
      obtain ⟨p0, p1, p2, p3, p4, p5, p6, p7⟩ := node_cells hC
      clear hC
      obtain ⟨cs, hR, hC⟩ := (hat.below NodeR.kept hB hbw) k t ht
      have HR := Lib.hid hR
      obtain ⟨v1, v2, rfl, sl, si, m1, m2⟩ := hR; obtain ⟨A1, c1, rfl, _⟩ := sl.form; obtain ⟨A2, c2, rfl, _⟩ := si.form
      clear sl si m1 m2
      obtain ⟨q0, q1, q2, q3, q4, q5, q6, q7⟩ := node_cells hC
      have hbr : b < wr.heap.size := by omega
      have hbr' : b' < wr.heap.size := by omega
      have HK := Lib.hid (show ∀ w', Below wr.heap.size wr w' → Below wr.heap.size wr w' ∧ w'.cell? ⟨b, off + k * 8, none⟩ = some (.int .i64 t.id) ∧ w'.cell? ⟨b, off + k * 8 + 1, none⟩ = some (.int .i64 t.pool) ∧ w'.cell? ⟨b, off + k * 8 + 2, none⟩ = some (.int .i64 t.cap.c) ∧ w'.cell? ⟨b, off + k * 8 + 3, none⟩ = some (.int .i64 t.cap.m) ∧ w'.cell? ⟨b, off + k * 8 + 4, none⟩ = some (.int .i64 t.cap.p) ∧ w'.cell? ⟨b, off + k * 8 + 5, none⟩ = some (.slice A1 t.labs.length c1) ∧ w'.cell? ⟨b, off + k * 8 + 6, none⟩ = some (.slice A2 t.taints.length c2) ∧ w'.cell? ⟨b, off + k * 8 + 7, none⟩ = some (.bool t.cordon) ∧ w'.cell? ⟨b', off' + k * 8, none⟩ = some (.int .i64 t.id) ∧ w'.cell? ⟨b', off' + k * 8 + 1, none⟩ = some (.int .i64 t.pool) ∧ w'.cell? ⟨b', off' + k * 8 + 2, none⟩ = some (.int .i64 t.cap.c) ∧ w'.cell? ⟨b', off' + k * 8 + 3, none⟩ = some (.int .i64 t.cap.m) ∧ w'.cell? ⟨b', off' + k * 8 + 4, none⟩ = some (.int .i64 t.cap.p) ∧ w'.cell? ⟨b', off' + k * 8 + 5, none⟩ = some (.slice A3 t.labs.length c3) ∧ w'.cell? ⟨b', off' + k * 8 + 6, none⟩ = some (.slice A4 t.taints.length c4) ∧ w'.cell? ⟨b', off' + k * 8 + 7, none⟩ = some (.bool t.cordon) from fun w' hb => ⟨hb, (hb.cell (p := ⟨_, _, none⟩) hbr).trans q0, (hb.cell (p := ⟨_, _, none⟩) hbr).trans q1, (hb.cell (p := ⟨_, _, none⟩) hbr).trans q2, (hb.cell (p := ⟨_, _, none⟩) hbr).trans q3, (hb.cell (p := ⟨_, _, none⟩) hbr).trans q4, (hb.cell (p := ⟨_, _, none⟩) hbr).trans q5, (hb.cell (p := ⟨_, _, none⟩) hbr).trans q6, (hb.cell (p := ⟨_, _, none⟩) hbr).trans q7, (hb.cell (p := ⟨_, _, none⟩) hbr').trans p0, (hb.cell (p := ⟨_, _, none⟩) hbr').trans p1, (hb.cell (p := ⟨_, _, none⟩) hbr').trans p2, (hb.cell (p := ⟨_, _, none⟩) hbr').trans p3, (hb.cell (p := ⟨_, _, none⟩) hbr').trans p4, (hb.cell (p := ⟨_, _, none⟩) hbr').trans p5, (hb.cell (p := ⟨_, _, none⟩) hbr').trans p6, (hb.cell (p := ⟨_, _, none⟩) hbr').trans p7⟩)
      have hlti : (k : Int) < (l.length : Int) := by omega
      have hk0 : (0 : Int) ≤ (k : Int) := by omega
      clear hat hat' ht hC q0 q1 q2 q3 q4 q5 q6 q7 p0 p1 p2 p3 p4 p5 p6 p7
      go_wp2_with fail
      refine wp_region_held_drew (S := (fun w' => Below wr.heap.size wr w' ∧ w'.cell? ⟨b, off + k * 8, none⟩ = some (.int .i64 t.id) ∧ w'.cell? ⟨b, off + k * 8 + 1, none⟩ = some (.int .i64 t.pool) ∧ w'.cell? ⟨b, off + k * 8 + 2, none⟩ = some (.int .i64 t.cap.c) ∧ w'.cell? ⟨b, off + k * 8 + 3, none⟩ = some (.int .i64 t.cap.m) ∧ w'.cell? ⟨b, off + k * 8 + 4, none⟩ = some (.int .i64 t.cap.p) ∧ w'.cell? ⟨b, off + k * 8 + 5, none⟩ = some (.slice A1 t.labs.length c1) ∧ w'.cell? ⟨b, off + k * 8 + 6, none⟩ = some (.slice A2 t.taints.length c2) ∧ w'.cell? ⟨b, off + k * 8 + 7, none⟩ = some (.bool t.cordon) ∧ w'.cell? ⟨b', off' + k * 8, none⟩ = some (.int .i64 t.id) ∧ w'.cell? ⟨b', off' + k * 8 + 1, none⟩ = some (.int .i64 t.pool) ∧ w'.cell? ⟨b', off' + k * 8 + 2, none⟩ = some (.int .i64 t.cap.c) ∧ w'.cell? ⟨b', off' + k * 8 + 3, none⟩ = some (.int .i64 t.cap.m) ∧ w'.cell? ⟨b', off' + k * 8 + 4, none⟩ = some (.int .i64 t.cap.p) ∧ w'.cell? ⟨b', off' + k * 8 + 5, none⟩ = some (.slice A3 t.labs.length c3) ∧ w'.cell? ⟨b', off' + k * 8 + 6, none⟩ = some (.slice A4 t.taints.length c4) ∧ w'.cell? ⟨b', off' + k * 8 + 7, none⟩ = some (.bool t.cordon))) (by kernel_rfl) (by (try dsimp only); exact HK.out _ (by repeat' (first | exact Below.refl _ _ | refine Below.alloc ?_ ?_ _ | refine Below.setCell ?_ ?_ _ | refine Below.drew ?_ | (apply below_step; assumption) | (simp; done) | (simp; omega) | omega))) (fun hHeld => ?_)
      refine hT 0 ?_; simp only [Act.put, rhA, rhS, rhT]
      refine hT 1 ?_; simp only [Act.put, rhA, rhS, rhT]
      refine hT 2 ?_; simp only [Act.put, rhA, rhS, rhT]
      refine hT 3 ?_; simp only [Act.put, rhA, rhS, rhT]
      refine hT 4 ?_; simp only [Act.put, rhA, rhS, rhT]
      refine hT 5 ?_; simp only [Act.put, rhA, rhS, rhT]
      refine hT 6 ?_; simp only [Act.put, rhA, rhS, rhT]
      refine hT 7 ?_; simp only [Act.put, rhA, rhS, rhT]
      refine hCall (i := 8) (o := ?a22) ?b22 (by kernel_rfl) ?c22 (fun K hK => ?d22)
      case b22 => simp only [rhN, rhM]; try rfl
      case c22 => rfl
      go_simp
      refine (eqNode_r t _ _ _ (NodeR.kept _ _ _ _ (by repeat' (first | exact Below.refl _ _ | refine Below.alloc ?_ ?_ _ | refine Below.setCell ?_ ?_ _ | refine Below.drew ?_ | (apply below_step; assumption) | (simp; done) | (simp; omega) | omega)) HR.out) (NodeR.kept _ _ _ _ (by repeat' (first | exact Below.refl _ _ | refine Below.alloc ?_ ?_ _ | refine Below.setCell ?_ ?_ _ | refine Below.drew ?_ | (apply below_step; assumption) | (simp; done) | (simp; omega) | omega)) HR'.out)).mono ?_
      rintro e w3 ⟨rfl, hb3⟩
      have hz3 := hb3.size
      try simp at hz3
      go_wp2_with fail
      refine hK.out _ _ (by (try dsimp only); exact HK.out _ (by repeat' (first | exact Below.refl _ _ | refine Below.alloc ?_ ?_ _ | refine Below.setCell ?_ ?_ _ | refine Below.drew ?_ | (apply below_step; assumption) | (simp; done) | (simp; omega) | omega))) (fun hHeld => ?_)
      clear hK K
      try simp only [Act.put, rhA, rhS, rhT]
      refine hT 9 ?_; simp only [Act.put, rhA, rhS, rhT]
      refine wpAnyH_done (by kernel_rfl) ?_ _
      go_wp2_with fail
      go_roundw
      case rel => exact ⟨k + 1, by omega, by go_num, (by repeat' (first | exact Below.refl _ _ | refine Below.alloc ?_ ?_ _ | refine Below.setCell ?_ ?_ _ | refine Below.drew ?_ | (apply below_step; assumption) | (simp; done) | (simp; omega) | omega))⟩
      case measure => simp [intOf]; omega
    · go_wp2_with fail
      go_ret
      exact ⟨rfl, hB⟩
set_option maxHeartbeats 1600000 in
set_option maxRecDepth 20000 in
theorem eqBindS_same (v1 v2 : Value) (l : List BV) (w : World) (h1 : BindSl w v1 l) (h2 : BindSl w v2 l) (hlen : l.length ≤ 1048576) :
    Calls Tryz.prog 99 #[v1, v2] w fun e w' => e = .returned (.bool true) ∧ Below w.heap.size w w' := by
  obtain ⟨A, c, rfl, hA⟩ := h1.form
  obtain ⟨A', c', rfl, hA'⟩ := h2.form
  have HA := Lib.hid hA
  have HA' := Lib.hid hA'
  clear hA hA' h1 h2
  have hnn : ((l.length : Int) != (l.length : Int)) = false := by simp
  go_enter Tryz.func99, Tryz.ntmps99
  go_wp2_with fail
  go_loopw [5] (fun s5 wr => ∃ k : Nat, k ≤ l.length ∧ s5 = .int .i64 k ∧ Below w.heap.size w wr) (fun s5 _ => (l.length - intOf s5).toNat)
  case atStart => exact ⟨0, by omega, rfl, Below.refl _ _⟩
  case round =>
    obtain ⟨k, hk, rfl, hB⟩ := hrel
    have hzr := hB.size
    by_cases hlt : k < l.length
    · obtain ⟨b, off, rfl, hbw, hat⟩ := HA.out (by omega)
      obtain ⟨b', off', rfl, hbw', hat'⟩ := HA'.out (by omega)
      obtain ⟨t, ht⟩ : ∃ t, l[k]? = some t := ⟨_, List.getElem?_eq_getElem hlt⟩
      obtain ⟨ds, hR, hC⟩ := (hat'.below BindR.kept hB hbw') k t ht
      have HR' := Lib.hid hR
      obtain rfl := hR
      obtain ⟨p0, p1⟩ := bind_cells hC
      clear hC
      obtain ⟨cs, hR, hC⟩ := (hat.below BindR.kept hB hbw) k t ht
      have HR := Lib.hid hR
      obtain rfl := hR
      skip
      obtain ⟨q0, q1⟩ := bind_cells hC
      have hbr : b < wr.heap.size := by omega
      have hbr' : b' < wr.heap.size := by omega
      have HK := Lib.hid (show ∀ w', Below wr.heap.size wr w' → Below wr.heap.size wr w' ∧ w'.cell? ⟨b, off + k * 2, none⟩ = some (.int .i64 t.task) ∧ w'.cell? ⟨b, off + k * 2 + 1, none⟩ = some (.int .i64 t.node) ∧ w'.cell? ⟨b', off' + k * 2, none⟩ = some (.int .i64 t.task) ∧ w'.cell? ⟨b', off' + k * 2 + 1, none⟩ = some (.int .i64 t.node) from fun w' hb => ⟨hb, (hb.cell (p := ⟨_, _, none⟩) hbr).trans q0, (hb.cell (p := ⟨_, _, none⟩) hbr).trans q1, (hb.cell (p := ⟨_, _, none⟩) hbr').trans p0, (hb.cell (p := ⟨_, _, none⟩) hbr').trans p1⟩)
      have hlti : (k : Int) < (l.length : Int) := by omega
      have hk0 : (0 : Int) ≤ (k : Int) := by omega
      clear hat hat' ht hC q0 q1 p0 p1
      go_wp2_with fail
      refine wp_region_held_drew (S := (fun w' => Below wr.heap.size wr w' ∧ w'.cell? ⟨b, off + k * 2, none⟩ = some (.int .i64 t.task) ∧ w'.cell? ⟨b, off + k * 2 + 1, none⟩ = some (.int .i64 t.node) ∧ w'.cell? ⟨b', off' + k * 2, none⟩ = some (.int .i64 t.task) ∧ w'.cell? ⟨b', off' + k * 2 + 1, none⟩ = some (.int .i64 t.node))) (by kernel_rfl) (by (try dsimp only); exact HK.out _ (by repeat' (first | exact Below.refl _ _ | refine Below.alloc ?_ ?_ _ | refine Below.setCell ?_ ?_ _ | refine Below.drew ?_ | (apply below_step; assumption) | (simp; done) | (simp; omega) | omega))) (fun hHeld => ?_)
      refine hT 0 ?_; simp only [Act.put, rhA, rhS, rhT]
      refine hT 1 ?_; simp only [Act.put, rhA, rhS, rhT]
      refine hT 2 ?_; simp only [Act.put, rhA, rhS, rhT]
      refine hT 3 ?_; simp only [Act.put, rhA, rhS, rhT]
      refine hT 4 ?_; simp only [Act.put, rhA, rhS, rhT]
      refine hT 5 ?_; simp only [Act.put, rhA, rhS, rhT]
      refine hT 6 ?_; simp only [Act.put, rhA, rhS, rhT]
      refine hT 7 ?_; simp only [Act.put, rhA, rhS, rhT]
      refine hCall (i := 8) (o := ?a34) ?b34 (by kernel_rfl) ?c34 (fun K hK => ?d34)
      case b34 => simp only [rhN, rhM]; try rfl
      case c34 => rfl
      go_simp
      refine (eqBind_r t _ _ _ (BindR.kept _ _ _ _ (by repeat' (first | exact Below.refl _ _ | refine Below.alloc ?_ ?_ _ | refine Below.setCell ?_ ?_ _ | refine Below.drew ?_ | (apply below_step; assumption) | (simp; done) | (simp; omega) | omega)) HR.out) (BindR.kept _ _ _ _ (by repeat' (first | exact Below.refl _ _ | refine Below.alloc ?_ ?_ _ | refine Below.setCell ?_ ?_ _ | refine Below.drew ?_ | (apply below_step; assumption) | (simp; done) | (simp; omega) | omega)) HR'.out)).mono ?_
      rintro e w3 ⟨rfl, hb3⟩
      have hz3 := hb3.size
      try simp at hz3
      go_wp2_with fail
      refine hK.out _ _ (by (try dsimp only); exact HK.out _ (by repeat' (first | exact Below.refl _ _ | refine Below.alloc ?_ ?_ _ | refine Below.setCell ?_ ?_ _ | refine Below.drew ?_ | (apply below_step; assumption) | (simp; done) | (simp; omega) | omega))) (fun hHeld => ?_)
      clear hK K
      try simp only [Act.put, rhA, rhS, rhT]
      refine hT 9 ?_; simp only [Act.put, rhA, rhS, rhT]
      refine wpAnyH_done (by kernel_rfl) ?_ _
      go_wp2_with fail
      go_roundw
      case rel => exact ⟨k + 1, by omega, by go_num, (by repeat' (first | exact Below.refl _ _ | refine Below.alloc ?_ ?_ _ | refine Below.setCell ?_ ?_ _ | refine Below.drew ?_ | (apply below_step; assumption) | (simp; done) | (simp; omega) | omega))⟩
      case measure => simp [intOf]; omega
    · go_wp2_with fail
      go_ret
      exact ⟨rfl, hB⟩

set_option maxHeartbeats 800000 in
theorem eqCluster_same (c : CV) (a0 a1 a2 b0 b1 b2 : Value) (w : World) (h : CluR w c a0 a1 a2) (k : CluR w c b0 b1 b2) :
    Calls Tryz.prog 30 #[.agg #[a0, a1, a2], .agg #[b0, b1, b2]] w fun e w' => e = .returned (.bool true) ∧ Below w.heap.size w w' := by
  have HC := Lib.hid h
  have HD := Lib.hid k
  obtain ⟨h0, h1, h2, l0, l1, l2⟩ := h
  obtain ⟨k0, k1, k2, _⟩ := k
  obtain ⟨D0, d0, rfl, _⟩ := h0.form
  obtain ⟨D1, d1, rfl, _⟩ := h1.form
  obtain ⟨D2, d2, rfl, _⟩ := h2.form
  obtain ⟨E0, e0, rfl, _⟩ := k0.form
  obtain ⟨E1, e1, rfl, _⟩ := k1.form
  obtain ⟨E2, e2, rfl, _⟩ := k2.form
  have L := Lib.hid (And.intro l0 (And.intro l1 l2))
  clear h0 h1 h2 k0 k1 k2 l0 l1 l2
  go_enter Tryz.func30, Tryz.ntmps30
  go_wp2_with fail
  have hX : Below w.heap.size w ((w.alloc (.cells #[.slice D0 c.tasks.length d0, .slice D1 c.nodes.length d1, .slice D2 c.binds.length d2] 32)).alloc (.cells #[.slice E0 c.tasks.length e0, .slice E1 c.nodes.length e1, .slice E2 c.binds.length e2] 32)) := (by repeat' (first | exact Below.refl _ _ | refine Below.alloc ?_ ?_ _ | refine Below.setCell ?_ ?_ _ | refine Below.drew ?_ | (apply below_step; assumption) | (simp; done) | (simp; omega) | omega))
  refine (eqTaskS_same _ _ c.tasks _ (HC.out.below hX).1 (HD.out.below hX).1 L.out.1).mono ?_
  rintro e w1 ⟨rfl, hb1⟩
  have hC1 := below_of hX hb1
  have B0 := ((BlockIs.new w 32 #[.slice D0 c.tasks.length d0, .slice D1 c.nodes.length d1, .slice D2 c.binds.length d2]).alloc (.cells #[.slice E0 c.tasks.length e0, .slice E1 c.nodes.length e1, .slice E2 c.binds.length e2] 32)).below hb1 (by simp; omega)
  have B1 : BlockIs w1 (w.heap.size + 1) 32 #[.slice E0 c.tasks.length e0, .slice E1 c.nodes.length e1, .slice E2 c.binds.length e2] := (BlockIs.new' (by simp)).below hb1 (by simp)
  have x1 := B0.cell 1
  have y1 := B1.cell 1
  simp at x1 y1
  have HB0 := Lib.hid B0
  have HB1 := Lib.hid B1
  clear B0 B1 hb1
  go_wp2_with fail
  refine (eqNodeS_same _ _ c.nodes _ (HC.out.below hC1).2.1 (HD.out.below hC1).2.1 L.out.2.1).mono ?_
  rintro e w2 ⟨rfl, hb2⟩
  have hC2 := below_of hC1 hb2
  have B0 := HB0.out.below hb2 HB0.out.lt
  have B1 := HB1.out.below hb2 HB1.out.lt
  have x2 := B0.cell 2
  have y2 := B1.cell 2
  simp at x2 y2
  clear B0 B1 hb2 x1 y1
  go_wp2_with fail
  refine (eqBindS_same _ _ c.binds _ (HC.out.below hC2).2.2.1 (HD.out.below hC2).2.2.1 L.out.2.2).mono ?_
  rintro e w3 ⟨rfl, hb3⟩
  have hC3 := below_of hC2 hb3
  go_wp2_with fail
  go_ret
  exact ⟨rfl, hC3⟩
end Go.Proofs.YtcegofdmdemcbaaGreatDoor

namespace Go.Proofs.YtcegofdmdemcbaaGreatDoor
open Go.RowKit

structure TurnB (bs : List Nat) (w w' : World) : Prop where
  os : w'.os = w.os
  tape : w'.tape = w.tape
  output : w'.output = w.output
  size : w.heap.size ≤ w'.heap.size
  block : ∀ k, k < w.heap.size → k ∉ bs → w'.heap[k]? = w.heap[k]?
section
variable {bs cs : List Nat} {w w' w'' : World}
theorem TurnB.refl (bs : List Nat) (w : World) : TurnB bs w w := ⟨rfl, rfl, rfl, Nat.le_refl _, fun _ _ _ => rfl⟩
theorem TurnB.trans (h : TurnB bs w w') (k : TurnB bs w' w'') : TurnB bs w w'' :=
  ⟨k.os.trans h.os, k.tape.trans h.tape, k.output.trans h.output, Nat.le_trans h.size k.size, fun b hb hne => (k.block b (Nat.lt_of_lt_of_le hb h.size) hne).trans (h.block b hb hne)⟩
theorem TurnB.mono (h : TurnB bs w w') (hs : ∀ b ∈ bs, b ∈ cs) : TurnB cs w w' := ⟨h.os, h.tape, h.output, h.size, fun b hb hn => h.block b hb (fun e => hn (hs b e))⟩
theorem TurnB.of_below (hb : Below w.heap.size w w') : TurnB bs w w' := ⟨hb.os, hb.tape, hb.output, hb.size, fun k hk _ => hb.block k hk⟩
theorem TurnB.step (h : TurnB bs w w') (hb : Below w'.heap.size w' w'') : TurnB bs w w'' := h.trans (.of_below hb)
theorem TurnB.put {g : Nat} (h : TurnB bs w w') (hg : g ∈ bs) (o : Nat) (u : Value) : TurnB bs w (w'.setCell ⟨g, o, none⟩ u) :=
  h.trans ⟨rfl, rfl, rfl, by simp [World.setCell], fun k _ hne => Below.heap_setCell _ _ _ k (fun e => hne (by rw [e]; exact hg))⟩
theorem TurnB.putAll {g : Nat} (h : TurnB bs w w') (hg : g ∈ bs) (o : Nat) (ds : List Value) : TurnB bs w (Go.Proofs.YtcegofdmdemcbaaGreatDoor.putAll w' g o ds) := by
  induction ds generalizing w' o with
  | nil => exact h
  | cons u r ih => exact ih (h.put hg o u) _
theorem TurnB.agree (h : TurnB bs w w') {ds : List Nat} (hd : ∀ b ∈ ds, b < w.heap.size ∧ b ∉ bs) : Agree ds w w' := fun b hb => h.block b (hd b hb).1 (hd b hb).2
theorem TurnB.below {B : Nat} (h : TurnB bs w w') (hB : B ≤ w.heap.size) (hg : ∀ b ∈ bs, B ≤ b) : Below B w w' :=
  ⟨h.os, h.tape, h.output, h.size, fun k hk => h.block k (by omega) (fun e => by have := hg k e; omega)⟩
theorem TurnB.old (h : TurnB (bs ++ cs) w w') (hc : ∀ b ∈ cs, w.heap.size ≤ b) : TurnB bs w w' :=
  ⟨h.os, h.tape, h.output, h.size, fun k hk hne => h.block k hk (fun e => by
    rcases List.mem_append.1 e with e | e
    · exact hne e
    · have := hc k e; omega)⟩
theorem BlockIs.turn {g : Nat} {t : TypeId} {c : Array Value} (h : BlockIs w g t c) (k : TurnB bs w w') (hn : g ∉ bs) : BlockIs w' g t c := (k.block g h.lt hn).trans h
end

section
variable {α : Type} {R S : World → α → List Value → List Nat → Prop} {w w' : World} {a b l : List α} {xs xa xb : List Value} {bs ba bb : List Nat}
theorem Elems.split (h : Elems R w (a ++ b) xs bs) : ∃ xa xb ba bb, xs = xa ++ xb ∧ bs = ba ++ bb ∧ Elems R w a xa ba ∧ Elems R w b xb bb := by
  induction a generalizing xs bs with
  | nil => exact ⟨[], xs, [], bs, rfl, rfl, ⟨rfl, rfl⟩, h⟩
  | cons x r ih =>
    obtain ⟨cs, ys, b1, b2, rfl, rfl, h1, h2⟩ := h
    obtain ⟨xa, xb, ba, bb, rfl, rfl, h3, h4⟩ := ih h2
    exact ⟨cs ++ xa, xb, b1 ++ ba, bb, by simp, by simp, ⟨cs, xa, b1, ba, rfl, rfl, h1, h3⟩, h4⟩
theorem Elems.len {n : Nat} (hn : ∀ x cs b, R w x cs b → cs.length = n) (h : Elems R w l xs bs) : xs.length = l.length * n := by
  induction l generalizing xs bs with
  | nil => obtain ⟨rfl, rfl⟩ := h; simp
  | cons x r ih =>
    obtain ⟨cs, ys, b1, b2, rfl, rfl, h1, h2⟩ := h
    rw [List.length_append, ih h2, hn _ _ _ h1, List.length_cons, Nat.add_mul]; omega
end
theorem setAll_list {cs : Array Value} {o : Nat} {ds : List Value} (h : o + ds.length ≤ cs.size) : (setAll cs o ds).toList = cs.toList.take o ++ (ds ++ cs.toList.drop (o + ds.length)) := by
  apply List.ext_getElem?
  intro i
  rw [Array.getElem?_toList]
  have hs : (cs.toList.take o).length = o := by simp; omega
  rcases Nat.lt_or_ge i o with h1 | h1
  · rw [setAll_far (.inl h1), List.getElem?_append_left (by omega), List.getElem?_take_of_lt h1, Array.getElem?_toList]
  · rw [List.getElem?_append_right (by omega), hs]
    rcases Nat.lt_or_ge i (o + ds.length) with h2 | h2
    · rw [List.getElem?_append_left (by omega)]
      obtain ⟨u, hu⟩ : ∃ u, ds[i - o]? = some u := ⟨_, List.getElem?_eq_getElem (by omega)⟩
      have := setAll_at (cs := cs) (o := o) hu h
      rw [show o + (i - o) = i by omega] at this
      rw [this, hu]
    · rw [setAll_far (.inr h2), List.getElem?_append_right (by omega), List.getElem?_drop, Array.getElem?_toList]
      congr 1; omega
theorem own_put {w : World} {e : TypeId} {size n g : Nat} {v : Value} {xa cs xb ds : List Value} (h : w.ownsRow 0 e size v n (xa ++ (cs ++ xb))) (hd : ds.length = cs.length) (hg : v.ownBlock = some g) :
    (putAll w g xa.length ds).ownsRow 0 e size v n (xa ++ (ds ++ xb)) := by
  obtain ⟨h1, h2⟩ := h
  refine ⟨by simpa [hd] using h1, ?_⟩
  rcases h2 with ⟨rfl, _⟩ | ⟨g', cap, cur, rfl, hb, hh, hnc, hcm, hs, ht⟩
  · cases hg
  · obtain rfl : g' = g := by simpa [Value.ownBlock] using hg
    have hlen : (xa ++ (cs ++ xb)).length ≤ cur.toList.length := by rw [← ht, List.length_take]; omega
    have hcur : cur.toList = (xa ++ (cs ++ xb)) ++ cur.toList.drop (n * size) := by rw [← ht, List.take_append_drop]
    simp only [List.length_append, Array.length_toList] at hlen
    refine .inr ⟨g', cap, setAll cur xa.length ds, rfl, hb, BlockIs.putAll hh, hnc, hcm, by rw [setAll_size, hs], ?_⟩
    have e1 : cur.toList.take xa.length = xa := by rw [hcur, List.append_assoc, List.take_left']; rfl
    have e2 : cur.toList.drop (xa.length + ds.length) = xb ++ cur.toList.drop (n * size) := by
      rw [hcur, hd]
      have : (xa ++ (cs ++ xb) ++ cur.toList.drop (n * size)) = (xa ++ cs) ++ (xb ++ cur.toList.drop (n * size)) := by simp
      rw [this, ← List.length_append, List.drop_left']
      · congr 1; rw [← this, ← hcur]
      · rfl
    rw [setAll_list (by omega), e1, e2]
    have e3 : xa ++ (ds ++ (xb ++ cur.toList.drop (n * size))) = (xa ++ (ds ++ xb)) ++ cur.toList.drop (n * size) := by simp
    rw [e3, List.take_left']
    simp only [List.length_append] at h1 ⊢
    omega
theorem own_cells {w : World} {e : TypeId} {size n : Nat} {v : Value} {xs : List Value} (h : w.ownsRow 0 e size v n xs) (hn : 0 < n) : ∃ g cap, v = .slice (some ⟨g, 0, none⟩) n cap ∧ g < w.heap.size ∧ (∀ j u, xs[j]? = some u → w.cell? ⟨g, j, none⟩ = some u) ∧ ∀ o, w.frozen? ⟨g, o, none⟩ = false := by
  obtain ⟨h1, h2⟩ := h
  rcases h2 with ⟨_, rfl⟩ | ⟨g, cap, cur, rfl, hb, hh, hnc, hcm, hs, ht⟩
  · omega
  · refine ⟨g, cap, rfl, (Array.getElem?_eq_some_iff.1 hh).1, fun j u hu => ?_, fun o => BlockIs.frozen hh o⟩
    rw [BlockIs.cell hh]
    rw [← ht] at hu
    have hj : j < n * size := by
      have := (List.getElem?_eq_some_iff.1 hu).1
      rw [List.length_take] at this; omega
    rw [List.getElem?_take_of_lt hj] at hu
    simpa using hu
end Go.Proofs.YtcegofdmdemcbaaGreatDoor

namespace Go.Proofs.YtcegofdmdemcbaaGreatDoor
open Go.RowKit

theorem wpList_load_rowG {P : Program} {ops : Array Oper} {rest : List Oper} {o : Oper} {a : Act} {w : World} {Q : Exit → Act → World → Prop} (hw : Region.wanted o (yielded ops a.tmps) = true) (ty : TypeId) (x : Operand) (ho : o.op = .load ty x)
    (g : Nat) (hx : a.eval x = .pointer (some ⟨g, 0, none⟩)) (t : TypeId) (cs : Array Value) (fr : Nat × Nat) (d : TypeDesc) (hg : w.heap[g]? = some (.cells cs t fr))
    (hu : P.underlying ty = some d) (hd : (match d with | .struct _ | .array _ _ => true | _ => false) = true) (hi : (P.info? ty).map (·.size) = some cs.size)
    (h : wpList P ops Q rest (a.put o.dst (.agg cs)) w) : wpList P ops Q (o :: rest) a w :=
  wpList_step fun K hK => by
    simp only [hw, if_true]
    exact wp_load_row ty x ho g hx t cs fr d hg hu hd hi (hK _ _ h)
theorem cell_turn {bs : List Nat} {w w' : World} {b o : Nat} (h : TurnB bs w w') (hb : b < w.heap.size) (hn : b ∉ bs) : w'.cell? ⟨b, o, none⟩ = w.cell? ⟨b, o, none⟩ := by
  simp only [World.cell?, h.block b hb hn]
theorem TurnB.setRow {bs : List Nat} {w w' : World} {g : Nat} (h : TurnB bs w w') (hg : g ∈ bs) (cs : Array Value) : TurnB bs w (w'.setRow g cs) :=
  h.trans ⟨rfl, rfl, rfl, by simp [World.setRow], fun k _ hne => setRow_other _ _ _ _ (fun e => hne (by rw [e]; exact hg))⟩
theorem IntAt.turn {bs : List Nat} {w w' : World} {b off : Nat} {l : List Int} (h : IntAt w b off l) (ht : TurnB bs w w') (hb : b < w.heap.size) (hn : b ∉ bs) : IntAt w' b off l := fun i r hr => (cell_turn ht hb hn).trans (h i r hr)
theorem BlockIs.row {w : World} {g : Nat} {t : TypeId} {old cs : Array Value} (h : BlockIs w g t old) : BlockIs (w.setRow g cs) g t cs := setRow_heap _ _ _ _ _ _ h
end Go.Proofs.YtcegofdmdemcbaaGreatDoor

namespace Go.Proofs.YtcegofdmdemcbaaGreatDoor

theorem run_load_rowE {P : Program} {o : Oper} {f : Operand → Value} {w : World} (ty : TypeId) (x : Operand) (ho : o.op = .load ty x)
    (g : Nat) (hx : f x = .pointer (some ⟨g, 0, none⟩)) (t : TypeId) (cs : Array Value) (fr : Nat × Nat) (d : TypeDesc) (hg : w.heap[g]? = some (.cells cs t fr))
    (hu : P.underlying ty = some d) (hd : (match d with | .struct _ | .array _ _ => true | _ => false) = true) (hi : (P.info? ty).map (·.size) = some cs.size) :
    (execOp f o).run P w = .ok (.value (.agg cs)) w := by
  unfold execOp
  simp only [ho, hx, Instr.loadAt, Instr.sureAddr, Sem.run_bind, Sem.run_pure, Result.andThen_ok, run_loadVar_row w g t ty cs fr d hg hu hd hi]
end Go.Proofs.YtcegofdmdemcbaaGreatDoor

namespace Go.Proofs.YtcegofdmdemcbaaGreatDoor
open Go.RowKit

theorem outOfRange_nil (w : World) (a : Addr) (hg : ErrAt a w) :
    Calls Tryz.prog 206 #[.nilIface] w fun e w' => e = .returned (.bool false) ∧ w = w' := by
  unfold ErrAt at hg
  go_enter Tryz.func206, Tryz.ntmps206
  go_wp2_with (go_at_call 217; refine (is_nil a _).mono ?_; rintro e w1 ⟨rfl, rfl⟩)
  go_ret
  exact ⟨rfl, rfl⟩
theorem outOfRange_bad (s : ByteArray) (w : World) (a : Addr) (hg : ErrAt a w) :
    Calls Tryz.prog 206 #[.iface 243 (.agg #[.string s, .iface 262 (.pointer (some a))])] w fun e w' => e = .returned (.bool true) ∧ Below w.heap.size w w' := by
  unfold ErrAt at hg
  go_enter Tryz.func206, Tryz.ntmps206
  go_wp2_with (go_at_call 217; refine (is_field s a _).mono ?_; rintro e w1 ⟨rfl, hb⟩)
  go_ret
  exact ⟨rfl, hb⟩

theorem checkBoth_yes (a b : RV) (w : World) (ha : a.ok = true) (hb : b.ok = true) :
    Calls Tryz.prog 215 #[.agg #[.int .i64 a.c, .int .i64 a.m, .int .i64 a.p], .agg #[.int .i64 b.c, .int .i64 b.m, .int .i64 b.p]] w fun e w' => e = .returned .nilIface ∧ Below w.heap.size w w' := by
  have HA := Lib.hid ha
  have HB := Lib.hid hb
  clear ha hb
  go_enter Tryz.func215, Tryz.ntmps215
  go_wp2_with fail
  refine (checkRes_yes a _ HA.out).mono ?_
  rintro e w1 ⟨rfl, hb1⟩
  have hz1 := hb1.size
  simp at hz1
  obtain ⟨hc1, hf1⟩ := bcell hb1
  go_wp2_with fail
  refine (checkRes_yes b _ HB.out).mono ?_
  rintro e w2 ⟨rfl, hb2⟩
  have hz2 := hb2.size
  go_wp2_with fail
  go_ret
  exact ⟨rfl, (by repeat' (first | exact Below.refl _ _ | refine Below.alloc ?_ ?_ _ | refine Below.setCell ?_ ?_ _ | refine Below.drew ?_ | (apply below_step; assumption) | (simp; done) | (simp; omega) | omega))⟩

theorem checkBoth_no1 (a b : RV) (w : World) (x : Addr) (hg : ErrAt x w) (ha : a.ok = false) :
    Calls Tryz.prog 215 #[.agg #[.int .i64 a.c, .int .i64 a.m, .int .i64 a.p], .agg #[.int .i64 b.c, .int .i64 b.m, .int .i64 b.p]] w (BadAt x w) := by
  have HA := Lib.hid ha
  clear ha
  go_enter Tryz.func215, Tryz.ntmps215
  go_wp2_with fail
  refine (checkRes_no a _ x ((hg.alloc _).alloc _) HA.out).mono ?_
  rintro e w1 ⟨s, rfl, hb1⟩
  have hz1 := hb1.size
  simp at hz1
  go_wp2_with fail
  go_ret
  exact ⟨_, rfl, (by repeat' (first | exact Below.refl _ _ | refine Below.alloc ?_ ?_ _ | refine Below.setCell ?_ ?_ _ | refine Below.drew ?_ | (apply below_step; assumption) | (simp; done) | (simp; omega) | omega))⟩

theorem checkBoth_no2 (a b : RV) (w : World) (x : Addr) (hg : ErrAt x w) (ha : a.ok = true) (hb : b.ok = false) :
    Calls Tryz.prog 215 #[.agg #[.int .i64 a.c, .int .i64 a.m, .int .i64 a.p], .agg #[.int .i64 b.c, .int .i64 b.m, .int .i64 b.p]] w (BadAt x w) := by
  have HA := Lib.hid ha
  have HB := Lib.hid hb
  clear ha hb
  go_enter Tryz.func215, Tryz.ntmps215
  go_wp2_with fail
  refine (checkRes_yes a _ HA.out).mono ?_
  rintro e w1 ⟨rfl, hb1⟩
  have hz1 := hb1.size
  simp at hz1
  obtain ⟨hc1, hf1⟩ := bcell hb1
  go_wp2_with fail
  refine (checkRes_no b _ x (((hg.alloc _).alloc _).below hb1 (Nat.le_refl _)) HB.out).mono ?_
  rintro e w2 ⟨s, rfl, hb2⟩
  have hz2 := hb2.size
  go_wp2_with fail
  go_ret
  exact ⟨_, rfl, (by repeat' (first | exact Below.refl _ _ | refine Below.alloc ?_ ?_ _ | refine Below.setCell ?_ ?_ _ | refine Below.drew ?_ | (apply below_step; assumption) | (simp; done) | (simp; omega) | omega))⟩
theorem keepValid_yes (r : RV) (w : World) (x : Addr) (hg : ErrAt x w) (h : r.ok = true) :
    Calls Tryz.prog 216 #[.agg #[.int .i64 r.c, .int .i64 r.m, .int .i64 r.p]] w fun e w' => e = .returned (.tuple #[.agg #[.int .i64 r.c, .int .i64 r.m, .int .i64 r.p], .bool true]) ∧ Below w.heap.size w w' := by
  have H := Lib.hid h
  clear h
  go_enter Tryz.func216, Tryz.ntmps216
  go_wp2_with fail
  refine (checkRes_yes r _ H.out).mono ?_
  rintro e w1 ⟨rfl, hb1⟩
  have hz1 := hb1.size
  simp at hz1
  obtain ⟨hc1, hf1⟩ := bcell hb1
  go_wp2_with fail
  refine (outOfRange_nil _ x (((hg.alloc _).alloc _).below hb1 (Nat.le_refl _))).mono ?_
  rintro e w2 ⟨rfl, rfl⟩
  go_wp2_with fail
  exact bodyPost_ret (v := .tuple #[.agg #[.int .i64 r.c, .int .i64 r.m, .int .i64 r.p], .bool true]) (by simp [results, Tryz.results216, go_sem, hc1]) rfl ⟨rfl, (by repeat' (first | exact Below.refl _ _ | refine Below.alloc ?_ ?_ _ | refine Below.setCell ?_ ?_ _ | refine Below.drew ?_ | (apply below_step; assumption) | (simp; done) | (simp; omega) | omega))⟩

theorem keepValid_no (r : RV) (w : World) (x : Addr) (hg : ErrAt x w) (h : r.ok = false) :
    Calls Tryz.prog 216 #[.agg #[.int .i64 r.c, .int .i64 r.m, .int .i64 r.p]] w fun e w' => e = .returned (.tuple #[.agg #[.int .i64 0, .int .i64 0, .int .i64 0], .bool false]) ∧ Below w.heap.size w w' := by
  have H := Lib.hid h
  clear h
  go_enter Tryz.func216, Tryz.ntmps216
  go_wp2_with fail
  refine (checkRes_no r _ x ((hg.alloc _).alloc _) H.out).mono ?_
  rintro e w1 ⟨s, rfl, hb1⟩
  have hz1 := hb1.size
  simp at hz1
  obtain ⟨hc1, hf1⟩ := bcell hb1
  go_wp2_with fail
  refine (outOfRange_bad s _ x (((hg.alloc _).alloc _).below hb1 (Nat.le_refl _))).mono ?_
  rintro e w2 ⟨rfl, hb2⟩
  have hz2 := hb2.size
  obtain ⟨hc2, hf2⟩ := bcell hb2
  have hs1 : w.heap.size + 1 < w1.heap.size := by omega
  go_wp2_with fail
  exact bodyPost_ret (v := .tuple #[.agg #[.int .i64 0, .int .i64 0, .int .i64 0], .bool false]) (by simp [results, Tryz.results216, go_sem, hc1, hc2, hs1]) rfl ⟨rfl, (by repeat' (first | exact Below.refl _ _ | refine Below.alloc ?_ ?_ _ | refine Below.setCell ?_ ?_ _ | refine Below.drew ?_ | (apply below_step; assumption) | (simp; done) | (simp; omega) | omega))⟩
end Go.Proofs.YtcegofdmdemcbaaGreatDoor

namespace Go.Proofs.YtcegofdmdemcbaaGreatDoor
open Go.RowKit

theorem keepValid_any (r : RV) (w : World) (x : Addr) (hg : ErrAt x w) : Calls Tryz.prog 216 #[.agg #[.int .i64 r.c, .int .i64 r.m, .int .i64 r.p]] w (RetR r.kept r.ok w) := by
  cases h : r.ok
  · rw [RV.kept_no h]; exact keepValid_no r w x hg h
  · rw [RV.kept_yes h]; exact keepValid_yes r w x hg h
theorem ResOk_any (r : RV) (w : World) (x : Addr) (hg : ErrAt x w) :
    Calls Tryz.prog 195 #[.agg #[.int .i64 r.c, .int .i64 r.m, .int .i64 r.p]] w fun e w' => e = .returned (.bool r.ok) ∧ Below w.heap.size w w' := by
  cases h : r.ok
  · have H := Lib.hid h
    clear h
    go_enter Tryz.func195, Tryz.ntmps195
    go_wp2_with fail
    refine (checkRes_no r _ x (hg.alloc _) H.out).mono ?_
    rintro e w1 ⟨s, rfl, hb1⟩
    have hz1 := hb1.size
    simp at hz1
    go_wp2_with fail
    refine (outOfRange_bad s _ x ((hg.alloc _).below hb1 (Nat.le_refl _))).mono ?_
    rintro e w2 ⟨rfl, hb2⟩
    have hz2 := hb2.size
    go_wp2_with fail
    go_ret
    exact ⟨rfl, (by repeat' (first | exact Below.refl _ _ | refine Below.alloc ?_ ?_ _ | refine Below.setCell ?_ ?_ _ | refine Below.drew ?_ | (apply below_step; assumption) | (simp; done) | (simp; omega) | omega))⟩
  · have H := Lib.hid h
    clear h
    go_enter Tryz.func195, Tryz.ntmps195
    go_wp2_with fail
    refine (checkRes_yes r _ H.out).mono ?_
    rintro e w1 ⟨rfl, hb1⟩
    have hz1 := hb1.size
    simp at hz1
    go_wp2_with fail
    refine (outOfRange_nil _ x ((hg.alloc _).below hb1 (Nat.le_refl _))).mono ?_
    rintro e w2 ⟨rfl, rfl⟩
    go_wp2_with fail
    go_ret
    exact ⟨rfl, (by repeat' (first | exact Below.refl _ _ | refine Below.alloc ?_ ?_ _ | refine Below.setCell ?_ ?_ _ | refine Below.drew ?_ | (apply below_step; assumption) | (simp; done) | (simp; omega) | omega))⟩

theorem ResAdd_in (a b : RV) (w : World) (x : Addr) (hg : ErrAt x w) (ha : a.ok = true) (hb : b.ok = true) :
    Calls Tryz.prog 223 #[.agg #[.int .i64 a.c, .int .i64 a.m, .int .i64 a.p], .agg #[.int .i64 b.c, .int .i64 b.m, .int .i64 b.p]] w (RetR (a.add b).kept (a.add b).ok w) := by
  have hA := RV.ok_iff.1 ha
  have hB := RV.ok_iff.1 hb
  have HA := Lib.hid ha
  have HB := Lib.hid hb
  clear ha hb
  obtain ⟨a1, a2, a3, a4, a5, a6⟩ := hA
  obtain ⟨b1, b2, b3, b4, b5, b6⟩ := hB
  go_enter Tryz.func223, Tryz.ntmps223
  go_wp2_with fail
  refine (checkBoth_yes a b _ HA.out HB.out).mono ?_
  rintro e w1 ⟨rfl, hb1⟩
  have hz1 := hb1.size
  simp at hz1
  obtain ⟨hc1, hf1⟩ := bcell hb1
  have hg1 := (((hg.alloc _).alloc _).alloc _).below hb1 (Nat.le_refl _)
  go_wp2_with fail
  refine (outOfRange_nil _ x hg1).mono ?_
  rintro e w2 ⟨rfl, rfl⟩
  go_wp2_with fail
  refine (keepValid_any ⟨a.c + b.c, a.m + b.m, a.p + b.p⟩ _ x hg1).mono ?_
  rintro e w2 ⟨rfl, hb2⟩
  have hz2 := hb2.size
  obtain ⟨hc2, hf2⟩ := bcell hb2
  have hs1 : w.heap.size + 1 + 1 < w1.heap.size := by omega
  go_wp2_with fail
  refine bodyPost_ret (v := .tuple #[.agg #[.int .i64 (a.add b).kept.c, .int .i64 (a.add b).kept.m, .int .i64 (a.add b).kept.p], .bool (a.add b).ok]) (by simp [results, Tryz.results223, go_sem, hc1, hc2, hs1]; exact ⟨⟨rfl, rfl, rfl⟩, rfl⟩) rfl ⟨rfl, (by repeat' (first | exact Below.refl _ _ | refine Below.alloc ?_ ?_ _ | refine Below.setCell ?_ ?_ _ | refine Below.drew ?_ | (apply below_step; assumption) | (simp; done) | (simp; omega) | omega))⟩

theorem ResAdd_out (a b : RV) (w : World) (x : Addr) (hg : ErrAt x w) (h : a.ok = false ∨ b.ok = false) :
    Calls Tryz.prog 223 #[.agg #[.int .i64 a.c, .int .i64 a.m, .int .i64 a.p], .agg #[.int .i64 b.c, .int .i64 b.m, .int .i64 b.p]] w (RetR RV.zero false w) := by
  have hcb : ∀ w, ErrAt x w → Calls Tryz.prog 215 #[.agg #[.int .i64 a.c, .int .i64 a.m, .int .i64 a.p], .agg #[.int .i64 b.c, .int .i64 b.m, .int .i64 b.p]] w (BadAt x w) := by
    intro w hg
    cases ha : a.ok
    · exact checkBoth_no1 a b w x hg ha
    · exact checkBoth_no2 a b w x hg ha (by rcases h with h | h; (rw [ha] at h; cases h); exact h)
  have HC := Lib.hid hcb
  clear hcb h
  go_enter Tryz.func223, Tryz.ntmps223
  go_wp2_with fail
  refine (HC.out _ (((hg.alloc _).alloc _).alloc _)).mono ?_
  rintro e w1 ⟨s, rfl, hb1⟩
  have hz1 := hb1.size
  simp at hz1
  obtain ⟨hc1, hf1⟩ := bcell hb1
  have hg1 := (((hg.alloc _).alloc _).alloc _).below hb1 (Nat.le_refl _)
  go_wp2_with fail
  refine (outOfRange_bad s _ x hg1).mono ?_
  rintro e w2 ⟨rfl, hb2⟩
  have hz2 := hb2.size
  obtain ⟨hc2, hf2⟩ := bcell hb2
  have hs1 : w.heap.size + 1 + 1 < w1.heap.size := by omega
  go_wp2_with fail
  refine bodyPost_ret (v := .tuple #[.agg #[.int .i64 RV.zero.c, .int .i64 RV.zero.m, .int .i64 RV.zero.p], .bool false]) (by simp [results, Tryz.results223, go_sem, hc1, hc2, hs1, RV.zero]) rfl ⟨rfl, (by repeat' (first | exact Below.refl _ _ | refine Below.alloc ?_ ?_ _ | refine Below.setCell ?_ ?_ _ | refine Below.drew ?_ | (apply below_step; assumption) | (simp; done) | (simp; omega) | omega))⟩

theorem ResAdd_any (a b : RV) (w : World) (x : Addr) (hg : ErrAt x w) : Calls Tryz.prog 223 #[.agg #[.int .i64 a.c, .int .i64 a.m, .int .i64 a.p], .agg #[.int .i64 b.c, .int .i64 b.m, .int .i64 b.p]] w (RetR (resAdd a b) (resAddOk a b) w) := by
  by_cases h : a.ok = true ∧ b.ok = true
  · rw [(resAdd_in h.1 h.2).1, (resAdd_in h.1 h.2).2]; exact ResAdd_in a b w x hg h.1 h.2
  · have h' : a.ok = false ∨ b.ok = false := by
      cases ha : a.ok
      · exact Or.inl rfl
      · cases hb : b.ok
        · exact Or.inr rfl
        · exact absurd ⟨ha, hb⟩ h
    rw [(resAdd_out h').1, (resAdd_out h').2]; exact ResAdd_out a b w x hg h'
theorem ResSub_in (a b : RV) (w : World) (x : Addr) (hg : ErrAt x w) (ha : a.ok = true) (hb : b.ok = true) :
    Calls Tryz.prog 202 #[.agg #[.int .i64 a.c, .int .i64 a.m, .int .i64 a.p], .agg #[.int .i64 b.c, .int .i64 b.m, .int .i64 b.p]] w (RetR (a.sub b).kept (a.sub b).ok w) := by
  have hA := RV.ok_iff.1 ha
  have hB := RV.ok_iff.1 hb
  have HA := Lib.hid ha
  have HB := Lib.hid hb
  clear ha hb
  obtain ⟨a1, a2, a3, a4, a5, a6⟩ := hA
  obtain ⟨b1, b2, b3, b4, b5, b6⟩ := hB
  go_enter Tryz.func202, Tryz.ntmps202
  go_wp2_with fail
  refine (checkBoth_yes a b _ HA.out HB.out).mono ?_
  rintro e w1 ⟨rfl, hb1⟩
  have hz1 := hb1.size
  simp at hz1
  obtain ⟨hc1, hf1⟩ := bcell hb1
  have hg1 := (((hg.alloc _).alloc _).alloc _).below hb1 (Nat.le_refl _)
  go_wp2_with fail
  refine (outOfRange_nil _ x hg1).mono ?_
  rintro e w2 ⟨rfl, rfl⟩
  go_wp2_with fail
  refine (keepValid_any ⟨a.c - b.c, a.m - b.m, a.p - b.p⟩ _ x hg1).mono ?_
  rintro e w2 ⟨rfl, hb2⟩
  have hz2 := hb2.size
  obtain ⟨hc2, hf2⟩ := bcell hb2
  have hs1 : w.heap.size + 1 + 1 < w1.heap.size := by omega
  go_wp2_with fail
  refine bodyPost_ret (v := .tuple #[.agg #[.int .i64 (a.sub b).kept.c, .int .i64 (a.sub b).kept.m, .int .i64 (a.sub b).kept.p], .bool (a.sub b).ok]) (by simp [results, Tryz.results202, go_sem, hc1, hc2, hs1]; exact ⟨⟨rfl, rfl, rfl⟩, rfl⟩) rfl ⟨rfl, (by repeat' (first | exact Below.refl _ _ | refine Below.alloc ?_ ?_ _ | refine Below.setCell ?_ ?_ _ | refine Below.drew ?_ | (apply below_step; assumption) | (simp; done) | (simp; omega) | omega))⟩

theorem ResSub_out (a b : RV) (w : World) (x : Addr) (hg : ErrAt x w) (h : a.ok = false ∨ b.ok = false) :
    Calls Tryz.prog 202 #[.agg #[.int .i64 a.c, .int .i64 a.m, .int .i64 a.p], .agg #[.int .i64 b.c, .int .i64 b.m, .int .i64 b.p]] w (RetR RV.zero false w) := by
  have hcb : ∀ w, ErrAt x w → Calls Tryz.prog 215 #[.agg #[.int .i64 a.c, .int .i64 a.m, .int .i64 a.p], .agg #[.int .i64 b.c, .int .i64 b.m, .int .i64 b.p]] w (BadAt x w) := by
    intro w hg
    cases ha : a.ok
    · exact checkBoth_no1 a b w x hg ha
    · exact checkBoth_no2 a b w x hg ha (by rcases h with h | h; (rw [ha] at h; cases h); exact h)
  have HC := Lib.hid hcb
  clear hcb h
  go_enter Tryz.func202, Tryz.ntmps202
  go_wp2_with fail
  refine (HC.out _ (((hg.alloc _).alloc _).alloc _)).mono ?_
  rintro e w1 ⟨s, rfl, hb1⟩
  have hz1 := hb1.size
  simp at hz1
  obtain ⟨hc1, hf1⟩ := bcell hb1
  have hg1 := (((hg.alloc _).alloc _).alloc _).below hb1 (Nat.le_refl _)
  go_wp2_with fail
  refine (outOfRange_bad s _ x hg1).mono ?_
  rintro e w2 ⟨rfl, hb2⟩
  have hz2 := hb2.size
  obtain ⟨hc2, hf2⟩ := bcell hb2
  have hs1 : w.heap.size + 1 + 1 < w1.heap.size := by omega
  go_wp2_with fail
  refine bodyPost_ret (v := .tuple #[.agg #[.int .i64 RV.zero.c, .int .i64 RV.zero.m, .int .i64 RV.zero.p], .bool false]) (by simp [results, Tryz.results202, go_sem, hc1, hc2, hs1, RV.zero]) rfl ⟨rfl, (by repeat' (first | exact Below.refl _ _ | refine Below.alloc ?_ ?_ _ | refine Below.setCell ?_ ?_ _ | refine Below.drew ?_ | (apply below_step; assumption) | (simp; done) | (simp; omega) | omega))⟩

theorem ResSub_any (a b : RV) (w : World) (x : Addr) (hg : ErrAt x w) : Calls Tryz.prog 202 #[.agg #[.int .i64 a.c, .int .i64 a.m, .int .i64 a.p], .agg #[.int .i64 b.c, .int .i64 b.m, .int .i64 b.p]] w (RetR (resSub a b) (resSubOk a b) w) := by
  by_cases h : a.ok = true ∧ b.ok = true
  · rw [(resSub_in h.1 h.2).1, (resSub_in h.1 h.2).2]; exact ResSub_in a b w x hg h.1 h.2
  · have h' : a.ok = false ∨ b.ok = false := by
      cases ha : a.ok
      · exact Or.inl rfl
      · cases hb : b.ok
        · exact Or.inr rfl
        · exact absurd ⟨ha, hb⟩ h
    rw [(resSub_out h').1, (resSub_out h').2]; exact ResSub_out a b w x hg h'
end Go.Proofs.YtcegofdmdemcbaaGreatDoor

namespace Go.Proofs.YtcegofdmdemcbaaGreatDoor
open Go.RowKit

def Owns (w : World) (base : Nat) (v : Value) (l : List LV) : Prop := w.ownsRow base 143 2 v l.length (labL l)
theorem labL_append (a b : List LV) : labL (a ++ b) = labL a ++ labL b := by simp [labL]
section
variable {w w' : World} {base : Nat} {v : Value} {l : List LV}
theorem Owns.alloc (h : Owns w base v l) (o : Obj) : Owns (w.alloc o) base v l := World.ownsRow.alloc h o
theorem Owns.drewN (h : Owns w base v l) (n : Nat) : Owns (w.drewN n) base v l := h
theorem Owns.nil (w : World) (base : Nat) : Owns w base (.slice none 0 0) [] := World.ownsRow_nil w base _ _
theorem Owns.below {B : Nat} (h : Owns w base v l) (hb : Below B w w') (hB : w.heap.size ≤ B) : Owns w' base v l := by
  obtain ⟨h1, h2⟩ := h
  refine ⟨h1, ?_⟩
  rcases h2 with h | ⟨g, cap, cur, hv, hg, hh, h⟩
  · exact .inl h
  · have hlt : g < w.heap.size := (Array.getElem?_eq_some_iff.1 hh).1
    exact .inr ⟨g, cap, cur, hv, hg, (hb.block g (by omega)).trans hh, h⟩
theorem Owns.form (h : Owns w base v l) : (v = .slice none 0 0 ∧ l = []) ∨ ∃ g cap cur, v = .slice (some ⟨g, 0, none⟩) l.length cap ∧ base ≤ g ∧ BlockIs w g 143 cur ∧ cur.size = cap * 2 ∧ l.length ≤ cap ∧ ∀ (j : Nat) (u : Value), (labL l)[j]? = some u → cur[j]? = some u := by
  obtain ⟨h1, h2⟩ := h
  rcases h2 with ⟨hv, hn⟩ | ⟨g, cap, cur, hv, hg, hh, hnc, _, hs, ht⟩
  · exact .inl ⟨hv, List.eq_nil_of_length_eq_zero hn⟩
  · refine .inr ⟨g, cap, cur, hv, hg, hh, hs, hnc, fun j u hu => ?_⟩
    rw [← ht] at hu
    have hj : j < l.length * 2 := by
      have := (List.getElem?_eq_some_iff.1 hu).1
      rw [List.length_take] at this; omega
    rw [List.getElem?_take_of_lt hj] at hu
    simpa using hu
theorem Owns.sl (h : Owns w base v l) : LabSl w v l := by
  rcases h.form with ⟨rfl, rfl⟩ | ⟨g, cap, cur, rfl, _, hb, _, _, hc⟩
  · exact .inl ⟨rfl, _, _, rfl⟩
  · exact .inr ⟨g, 0, cap, rfl, hb.lt, LabAt.of_block hb hc⟩
theorem Owns.len (h : Owns w base v l) : ∃ A c, v = .slice A l.length c := by
  rcases h.form with ⟨rfl, rfl⟩ | ⟨g, cap, cur, rfl, _⟩
  · exact ⟨_, _, rfl⟩
  · exact ⟨_, _, rfl⟩
end

theorem wpList_append_lab {ops : Array Oper} {rest : List Oper} {o : Oper} {a : Act} {Q : Exit → Act → World → Prop} (w : World) (hgd : o.guard = none) (s x : Operand)
    (ho : o.op = .call { callee := .builtin .append, args := #[s, x], argTypes := #[76, 76] })
    (base : Nat) (v : Value) (l : List LV) (r : LV) (g : Nat) (hs : a.eval s = v) (hown : Owns w base v l) (hx : a.eval x = .slice (some ⟨g, 0, none⟩) 1 1)
    (h0 : w.cell? ⟨g, 0, none⟩ = some (.int .i64 r.k)) (h1 : w.cell? ⟨g, 1, none⟩ = some (.int .i64 r.v)) (hl : l.length ≤ 100000) (hbase : base ≤ w.heap.size)
    (h : ∀ v' w', Owns w' base v' (l ++ [r]) → Below base w w' → wpList Tryz.prog ops Q rest (a.put o.dst v') w') : wpList Tryz.prog ops Q (o :: rest) a w := by
  obtain ⟨i0, hi0, hz0, hz1, hz2⟩ := info_parts Tryz.infoLab
  refine wpList_append_own w hgd s x 76 ho base 143 i0 _ 2 16 Tryz.underlying76 hi0 hz0 hz1 hz2 rfl (by omega) v l.length (labL l) hs hown ⟨g, 0, none⟩ 1 1 [.int .i64 r.k, .int .i64 r.v] hx rfl ?_ ?_ (by simp only [maxLen]; omega) (by omega) hbase ?_
  · intro j u hj
    match j, hj with
    | 0, hj => simp at hj; subst hj; simpa [Addr.add] using h0
    | 1, hj => simp at hj; subst hj; simpa [Addr.add] using h1
  · intro u hu
    simp at hu
    rcases hu with rfl | rfl <;> rfl
  · intro v' w' hown' hgrow _
    refine h v' w' ?_ ((Below.refl _ _).grown hgrow hbase (fun k hk => (World.ownsRow.lt hown k hk).1))
    unfold Owns
    rw [labL_append, List.length_append]
    exact hown'

end Go.Proofs.YtcegofdmdemcbaaGreatDoor

namespace Go.Proofs.YtcegofdmdemcbaaGreatDoor
open Go.RowKit

theorem LabsOk_any (v : Value) (l : List LV) (w : World) (hv : LabSl w v l) (hlen : l.length ≤ 1048576) :
    Calls Tryz.prog 196 #[v] w fun e w' => e = .returned (.bool (labsOk l)) ∧ Below w.heap.size w w' := by
  have H := Lib.hid (readLabs_any v l w hv hlen)
  clear hv
  go_enter Tryz.func196, Tryz.ntmps196
  go_wp2_with fail
  refine H.out.mono ?_
  rintro e w1 ⟨rfl, hb1⟩
  have hz1 := hb1.size
  go_wp2_with fail
  go_ret
  exact ⟨rfl, (by repeat' (first | exact Below.refl _ _ | refine Below.alloc ?_ ?_ _ | refine Below.setCell ?_ ?_ _ | refine Below.drew ?_ | (apply below_step; assumption) | (simp; done) | (simp; omega) | omega))⟩

theorem getOf_no {l : List LV} {k : Int} (h : labsOk l = false) : getOf l k = (0, false) := by simp [getOf, h]
theorem getOf_yes {l : List LV} {k : Int} (h : labsOk l = true) : getOf l k = findK l k := by simp [getOf, h]
theorem labsOk_from {l : List LV} (h : labsOk l = true) : labsFrom (-1) l = true := by
  simp only [labsOk, Bool.and_eq_true] at h; exact h.2
def RetI (z : Int × Bool) (w : World) (e : Ending) (w' : World) : Prop := e = .returned (.tuple #[.int .i64 z.1, .bool z.2]) ∧ Below w.heap.size w w'

theorem hasAll_iff {m p : Nat → Int} : hasAllM m p = true ↔ ∀ i, i < 10 → 0 < p i → p i = m i := by
  unfold hasAllM eqMarks
  simp only [List.all_eq_true, List.mem_range, beq_iff_eq]
  constructor
  · intro h i hi hp
    have := h i hi
    simpa [laidM, hi, hp] using this
  · intro h i hi
    unfold laidM
    by_cases hp : 0 < p i
    · rw [if_pos ⟨hi, hp⟩]; exact h i hi hp
    · rw [if_neg (fun x => hp x.2)]
theorem hasAllOf_iff {a b : List LV} : hasAllOf a b = true ↔ ∀ x ∈ b, findK a x.k = (x.v, true) := by
  induction b with
  | nil => simp [hasAllOf]
  | cons x r ih =>
    simp only [hasAllOf, Bool.and_eq_true, decide_eq_true_eq, ih, List.mem_cons, forall_eq_or_imp]
    constructor
    · rintro ⟨⟨h1, h2⟩, h3⟩
      exact ⟨by rw [← h1, ← h2], h3⟩
    · rintro ⟨h1, h3⟩
      rw [h1]
      exact ⟨⟨rfl, rfl⟩, h3⟩
theorem findK_mem {p : Int} {l : List LV} (h : labsFrom p l = true) {x : LV} (hx : x ∈ l) : findK l x.k = (x.v, true) := by
  induction l generalizing p with
  | nil => cases hx
  | cons y r ih =>
    simp only [labsFrom, Bool.and_eq_true, decide_eq_true_eq] at h
    rcases List.mem_cons.1 hx with rfl | hx
    · simp [findK]
    · have h1 := ih h.2 hx
      have hne : ¬ y.k = x.k := by
        intro e
        rw [findK_above h.2 (k := x.k) (by omega)] at h1
        simp at h1
      simp only [findK, if_neg hne]; exact h1
theorem mem_findK {l : List LV} {k v : Int} (h : findK l k = (v, true)) : ⟨k, v⟩ ∈ l := by
  induction l with
  | nil => simp [findK] at h
  | cons y r ih =>
    unfold findK at h
    split at h
    · rename_i e
      injection h with h1 h2
      subst e; subst h1
      exact List.mem_cons.2 (.inl rfl)
    · exact List.mem_cons.2 (.inr (ih h))
theorem mem_ok {p : Int} {l : List LV} (h : labsFrom p l = true) {x : LV} (hx : x ∈ l) : x.ok = true := by
  induction l generalizing p with
  | nil => cases hx
  | cons y r ih =>
    simp only [labsFrom, Bool.and_eq_true, decide_eq_true_eq] at h
    rcases List.mem_cons.1 hx with rfl | hx
    · exact h.1.1
    · exact ih h.2 hx
theorem hasAll_of {a b : List LV} (ha : labsOk a = true) (hb : labsOk b = true) : hasAllM (readOf a) (readOf b) = hasAllOf a b := by
  rw [Bool.eq_iff_iff, hasAll_iff, hasAllOf_iff, readOf_yes ha, readOf_yes hb]
  have fa := labsOk_from ha
  have fb := labsOk_from hb
  constructor
  · intro h x hx
    obtain ⟨k0, k9, v0, v9⟩ := LV.ok_iff.1 (mem_ok fb hx)
    obtain ⟨k, hk⟩ := Int.eq_ofNat_of_zero_le k0
    have hf := findK_mem fb hx
    have hm := mark_at fb k
    have hma := mark_at fa k
    have hz := findK_val fa (k := (k : Int))
    rw [hk] at hf
    rw [hf] at hm
    simp at hm
    have := h k (by omega) (by omega)
    rw [hk]
    cases e : (findK a k).2
    · rw [e] at hma; simp at hma; omega
    · rw [e] at hma; simp at hma
      have e1 : (findK a k).1 = x.v := by omega
      rw [← e, ← e1]
  · intro h i hi hp
    have hm := mark_at fb i
    have hma := mark_at fa i
    cases e : (findK b i).2
    · rw [e] at hm; simp at hm; omega
    · rw [e] at hm; simp at hm
      have e' : findK b i = ((findK b i).1, true) := by rw [← e]
      have hx := h _ (mem_findK e')
      simp only at hx
      rw [hx] at hma
      simp at hma
      omega
theorem matchOf_no1 {a b : List LV} (h : labsOk a = false) : matchOf a b = false := by simp [matchOf, h]
theorem matchOf_no2 {a b : List LV} (h : labsOk b = false) : matchOf a b = false := by simp [matchOf, h]
theorem matchOf_yes {a b : List LV} (ha : labsOk a = true) (hb : labsOk b = true) : matchOf a b = hasAllM (readOf a) (readOf b) := by
  rw [hasAll_of ha hb]; simp [matchOf, ha, hb]

set_option maxHeartbeats 1600000 in
theorem LabsMatch_any (v1 v2 : Value) (a b : List LV) (w : World) (h1 : LabSl w v1 a) (h2 : LabSl w v2 b) (hl1 : a.length ≤ 1048576) (hl2 : b.length ≤ 1048576) :
    Calls Tryz.prog 211 #[v1, v2] w fun e w' => e = .returned (.bool (matchOf a b)) ∧ Below w.heap.size w w' := by
  have r1 := readLabs_any v1 a w h1 hl1
  have r2 := fun w1 (hb : Below w.heap.size w w1) => readLabs_any v2 b (w1.alloc (.cells #[.int .i64 (readOf a 0), .int .i64 (readOf a 1), .int .i64 (readOf a 2), .int .i64 (readOf a 3), .int .i64 (readOf a 4), .int .i64 (readOf a 5), .int .i64 (readOf a 6), .int .i64 (readOf a 7), .int .i64 (readOf a 8), .int .i64 (readOf a 9)] 227)) ((h2.below hb).below ((Below.refl _ _).alloc (Nat.le_refl _) _)) hl2
  clear h1 h2
  cases ha : labsOk a
  · rw [ha] at r1
    have R1 := Lib.hid r1
    have HM := Lib.hid (matchOf_no1 (b := b) ha)
    clear r1 r2 ha
    go_enter Tryz.func211, Tryz.ntmps211
    go_wp2_with fail
    refine R1.out.mono ?_
    rintro e w1 ⟨rfl, hb1⟩
    have hz1 := hb1.size
    go_wp2_with fail
    go_ret
    rw [HM.out]
    exact ⟨rfl, (by repeat' (first | exact Below.refl _ _ | refine Below.alloc ?_ ?_ _ | refine Below.setCell ?_ ?_ _ | refine Below.drew ?_ | (apply below_step; assumption) | (simp; done) | (simp; omega) | omega))⟩
  · rw [ha] at r1
    cases hb : labsOk b
    · rw [hb] at r2
      have R1 := Lib.hid r1
      have R2 := Lib.hid r2
      have HM := Lib.hid (matchOf_no2 (a := a) hb)
      clear r1 r2 ha hb
      generalize readOf a = m1 at R1 R2
      go_enter Tryz.func211, Tryz.ntmps211
      go_wp2_with fail
      refine R1.out.mono ?_
      rintro e w1 ⟨rfl, hb1⟩
      have hz1 := hb1.size
      go_wp2_with fail
      refine (R2.out w1 hb1).mono ?_
      rintro e w2 ⟨rfl, hb2⟩
      have hz2 := hb2.size
      simp at hz2
      go_wp2_with fail
      go_ret
      rw [HM.out]
      exact ⟨rfl, (by repeat' (first | exact Below.refl _ _ | refine Below.alloc ?_ ?_ _ | refine Below.setCell ?_ ?_ _ | refine Below.drew ?_ | (apply below_step; assumption) | (simp; done) | (simp; omega) | omega))⟩
    · rw [hb] at r2
      have R1 := Lib.hid r1
      have R2 := Lib.hid r2
      have HM := Lib.hid (matchOf_yes ha hb)
      clear r1 r2 ha hb
      generalize readOf a = m1 at R1 R2 HM
      generalize readOf b = m2 at R2 HM
      go_enter Tryz.func211, Tryz.ntmps211
      go_wp2_with fail
      refine R1.out.mono ?_
      rintro e w1 ⟨rfl, hb1⟩
      have hz1 := hb1.size
      go_wp2_with fail
      refine (R2.out w1 hb1).mono ?_
      rintro e w2 ⟨rfl, hb2⟩
      have hz2 := hb2.size
      simp at hz2
      have hM1 := ((BlockIs.new w1 227 #[.int .i64 (m1 0), .int .i64 (m1 1), .int .i64 (m1 2), .int .i64 (m1 3), .int .i64 (m1 4), .int .i64 (m1 5), .int .i64 (m1 6), .int .i64 (m1 7), .int .i64 (m1 8), .int .i64 (m1 9)]).below hb2 (by simp)).alloc (.cells #[.int .i64 (m2 0), .int .i64 (m2 1), .int .i64 (m2 2), .int .i64 (m2 3), .int .i64 (m2 4), .int .i64 (m2 5), .int .i64 (m2 6), .int .i64 (m2 7), .int .i64 (m2 8), .int .i64 (m2 9)] 227)
      have z0 := (hM1).cell 0; have z1 := (hM1).cell 1; have z2 := (hM1).cell 2; have z3 := (hM1).cell 3; have z4 := (hM1).cell 4; have z5 := (hM1).cell 5; have z6 := (hM1).cell 6; have z7 := (hM1).cell 7; have z8 := (hM1).cell 8; have z9 := (hM1).cell 9; simp at z0 z1 z2 z3 z4 z5 z6 z7 z8 z9
      clear hM1
      go_wp2_with fail
      refine (hasAll_any m1 m2 _).mono ?_
      rintro e w3 ⟨rfl, hb3⟩
      have hz3 := hb3.size
      simp at hz3
      go_wp2_with fail
      go_ret
      rw [HM.out]
      exact ⟨rfl, (by repeat' (first | exact Below.refl _ _ | refine Below.alloc ?_ ?_ _ | refine Below.setCell ?_ ?_ _ | refine Below.drew ?_ | (apply below_step; assumption) | (simp; done) | (simp; omega) | omega))⟩
end Go.Proofs.YtcegofdmdemcbaaGreatDoor

namespace Go.Proofs.YtcegofdmdemcbaaGreatDoor
open Go.RowKit

theorem readTaints_long (A : Option Addr) (n c : Nat) (w : World) (h : 6 < n) (hm : n ≤ 1048576) :
    Calls Tryz.prog 209 #[.slice A n c] w (RetM mzero false w) := by
  have h6 : (6 : Int) < (n : Int) := by omega
  go_enter Tryz.func209, Tryz.ntmps209
  go_wp2_with fail
  exact bodyPost_ret (v := .tuple #[.agg #[.int .i64 (mzero 0), .int .i64 (mzero 1), .int .i64 (mzero 2), .int .i64 (mzero 3), .int .i64 (mzero 4), .int .i64 (mzero 5), .int .i64 (mzero 6), .int .i64 (mzero 7), .int .i64 (mzero 8), .int .i64 (mzero 9)], .bool false]) (by simp [results, Tryz.results209, go_sem, mzero]) rfl ⟨rfl, (by repeat' (first | exact Below.refl _ _ | refine Below.alloc ?_ ?_ _ | refine Below.setCell ?_ ?_ _ | refine Below.drew ?_ | (apply below_step; assumption) | (simp; done) | (simp; omega) | omega))⟩

set_option maxHeartbeats 1600000 in
theorem readTaints_short (v : Value) (t : List Int) (w : World) (hv : IntSl w v t) (hlen : t.length ≤ 6) :
    Calls Tryz.prog 209 #[v] w (RetM (readOf (tl t)) (labsOk (tl t)) w) := by
  obtain ⟨A, c, rfl, hA⟩ := hv.form
  have HA := Lib.hid hA
  clear hA hv
  have h6 : (t.length : Int) ≤ 6 := by omega
  go_enter Tryz.func209, Tryz.ntmps209
  go_wp2_with fail
  go_loopw [4, 13] (fun s4 s13 wr => ∃ k : Nat, k ≤ t.length ∧ s13 = .int .i64 k ∧ Owns wr (w.heap.size + 1) s4 (tl (t.take k)) ∧ Below w.heap.size w wr ∧ w.heap.size + 1 ≤ wr.heap.size ∧ BlockIs wr w.heap.size 227 #[.int .i64 (mzero 0), .int .i64 (mzero 1), .int .i64 (mzero 2), .int .i64 (mzero 3), .int .i64 (mzero 4), .int .i64 (mzero 5), .int .i64 (mzero 6), .int .i64 (mzero 7), .int .i64 (mzero 8), .int .i64 (mzero 9)]) (fun _ s13 _ => (t.length - intOf s13).toNat)
  case atStart =>
    exact ⟨0, by omega, rfl, Owns.nil _ _, (by repeat' (first | exact Below.refl _ _ | refine Below.alloc ?_ ?_ _ | refine Below.setCell ?_ ?_ _ | refine Below.drew ?_ | (apply below_step; assumption) | (simp; done) | (simp; omega) | omega)), by simp, BlockIs.new _ _ _⟩
  case round =>
    obtain ⟨k, hk, rfl, hown, hB, hzr, hblk⟩ := hrel
    have HOW := Lib.hid hown
    have HBK := Lib.hid hblk
    clear hown
    by_cases hlt : k < t.length
    · obtain ⟨b, off, rfl, hbw, hat⟩ := HA.out (by omega)
      obtain ⟨z, hz⟩ : ∃ r, t[k]? = some r := ⟨_, List.getElem?_eq_getElem hlt⟩
      have q0 := (hat.below hB hbw) k z hz
      have HT := Lib.hid (tl_take hz)
      have hlti : (k : Int) < (t.length : Int) := by omega
      have HL := Lib.hid (show (tl (t.take k)).length ≤ 6 by rw [tl_len, List.length_take]; omega)
      clear hat hz hblk
      go_wp2_with (at_builtin; refine wpList_append_lab _ rfl (.tmp 17) (.tmp 20) rfl (w.heap.size + 1) _ (tl (t.take k)) ⟨z, 0⟩ wr.heap.size rfl (HOW.out.alloc _) rfl (by simp) (by simp) (by have := HL.out; omega) (by simp; omega) ?_; intro v' w1 hown1 hb1)
      have hz1 := hb1.size
      simp at hz1
      go_roundw
      case rel =>
        refine ⟨k + 1, by omega, by go_num, ?_, ?_, by omega, ?_⟩
        · rw [HT.out]; exact hown1
        · exact (hB.alloc (by omega) _).trans (hb1.mono (by omega))
        · exact (HBK.out.alloc _).below hb1 (by omega)
      case measure => simp [intOf]; omega
    · have hkl : k = t.length := by omega
      have ho : Owns wr (w.heap.size + 1) u4 (tl t) := by
        have := HOW.out
        rwa [hkl, List.take_length] at this
      have hr := readLabs_any _ (tl t) wr ho.sl (by rw [tl_len]; omega)
      have HR := Lib.hid hr
      clear hkl hblk ho hr
      go_wp2_with fail
      refine HR.out.mono ?_
      rintro e w1 ⟨rfl, hb1⟩
      have hz1 := hb1.size
      have hB1 : Below w.heap.size w w1 := hB.trans (hb1.mono (by omega))
      have hZ := HBK.out.below hb1 (by omega)
      have HZ := Lib.hid hZ
      have z0 := (hZ).cell 0; have z1 := (hZ).cell 1; have z2 := (hZ).cell 2; have z3 := (hZ).cell 3; have z4 := (hZ).cell 4; have z5 := (hZ).cell 5; have z6 := (hZ).cell 6; have z7 := (hZ).cell 7; have z8 := (hZ).cell 8; have z9 := (hZ).cell 9; simp at z0 z1 z2 z3 z4 z5 z6 z7 z8 z9
      have zf := hZ.frozen
      clear hZ
      go_wp2_with fail
      have hX : BlockIs ((((((((((w1.setCell ⟨w.heap.size, 0, none⟩ (.int .i64 (readOf (tl t) 0))).setCell ⟨w.heap.size, 1, none⟩ (.int .i64 (readOf (tl t) 1))).setCell ⟨w.heap.size, 2, none⟩ (.int .i64 (readOf (tl t) 2))).setCell ⟨w.heap.size, 3, none⟩ (.int .i64 (readOf (tl t) 3))).setCell ⟨w.heap.size, 4, none⟩ (.int .i64 (readOf (tl t) 4))).setCell ⟨w.heap.size, 5, none⟩ (.int .i64 (readOf (tl t) 5))).setCell ⟨w.heap.size, 6, none⟩ (.int .i64 (readOf (tl t) 6))).setCell ⟨w.heap.size, 7, none⟩ (.int .i64 (readOf (tl t) 7))).setCell ⟨w.heap.size, 8, none⟩ (.int .i64 (readOf (tl t) 8))).setCell ⟨w.heap.size, 9, none⟩ (.int .i64 (readOf (tl t) 9))) w.heap.size 227 #[.int .i64 (readOf (tl t) 0), .int .i64 (readOf (tl t) 1), .int .i64 (readOf (tl t) 2), .int .i64 (readOf (tl t) 3), .int .i64 (readOf (tl t) 4), .int .i64 (readOf (tl t) 5), .int .i64 (readOf (tl t) 6), .int .i64 (readOf (tl t) 7), .int .i64 (readOf (tl t) 8), .int .i64 (readOf (tl t) 9)] := put10 (readOf (tl t)) HZ.out
      have hBX : Below w.heap.size w ((((((((((w1.setCell ⟨w.heap.size, 0, none⟩ (.int .i64 (readOf (tl t) 0))).setCell ⟨w.heap.size, 1, none⟩ (.int .i64 (readOf (tl t) 1))).setCell ⟨w.heap.size, 2, none⟩ (.int .i64 (readOf (tl t) 2))).setCell ⟨w.heap.size, 3, none⟩ (.int .i64 (readOf (tl t) 3))).setCell ⟨w.heap.size, 4, none⟩ (.int .i64 (readOf (tl t) 4))).setCell ⟨w.heap.size, 5, none⟩ (.int .i64 (readOf (tl t) 5))).setCell ⟨w.heap.size, 6, none⟩ (.int .i64 (readOf (tl t) 6))).setCell ⟨w.heap.size, 7, none⟩ (.int .i64 (readOf (tl t) 7))).setCell ⟨w.heap.size, 8, none⟩ (.int .i64 (readOf (tl t) 8))).setCell ⟨w.heap.size, 9, none⟩ (.int .i64 (readOf (tl t) 9))) := below10 (readOf (tl t)) hB1 (Nat.le_refl _)
      generalize ((((((((((w1.setCell ⟨w.heap.size, 0, none⟩ (.int .i64 (readOf (tl t) 0))).setCell ⟨w.heap.size, 1, none⟩ (.int .i64 (readOf (tl t) 1))).setCell ⟨w.heap.size, 2, none⟩ (.int .i64 (readOf (tl t) 2))).setCell ⟨w.heap.size, 3, none⟩ (.int .i64 (readOf (tl t) 3))).setCell ⟨w.heap.size, 4, none⟩ (.int .i64 (readOf (tl t) 4))).setCell ⟨w.heap.size, 5, none⟩ (.int .i64 (readOf (tl t) 5))).setCell ⟨w.heap.size, 6, none⟩ (.int .i64 (readOf (tl t) 6))).setCell ⟨w.heap.size, 7, none⟩ (.int .i64 (readOf (tl t) 7))).setCell ⟨w.heap.size, 8, none⟩ (.int .i64 (readOf (tl t) 8))).setCell ⟨w.heap.size, 9, none⟩ (.int .i64 (readOf (tl t) 9))) = X at hX hBX ⊢
      clear z0 z1 z2 z3 z4 z5 z6 z7 z8 z9
      have z0 := (hX).cell 0; have z1 := (hX).cell 1; have z2 := (hX).cell 2; have z3 := (hX).cell 3; have z4 := (hX).cell 4; have z5 := (hX).cell 5; have z6 := (hX).cell 6; have z7 := (hX).cell 7; have z8 := (hX).cell 8; have z9 := (hX).cell 9; simp at z0 z1 z2 z3 z4 z5 z6 z7 z8 z9
      exact bodyPost_ret (v := .tuple #[.agg #[.int .i64 (readOf (tl t) 0), .int .i64 (readOf (tl t) 1), .int .i64 (readOf (tl t) 2), .int .i64 (readOf (tl t) 3), .int .i64 (readOf (tl t) 4), .int .i64 (readOf (tl t) 5), .int .i64 (readOf (tl t) 6), .int .i64 (readOf (tl t) 7), .int .i64 (readOf (tl t) 8), .int .i64 (readOf (tl t) 9)], .bool (labsOk (tl t))]) (by simp [results, Tryz.results209, go_sem, z0, z1, z2, z3, z4, z5, z6, z7, z8, z9]) rfl ⟨rfl, hBX⟩

theorem readTaints_any (v : Value) (t : List Int) (w : World) (hv : IntSl w v t) (hlen : t.length ≤ 1048576) :
    Calls Tryz.prog 209 #[v] w (RetM (readOf (tl t)) (labsOk (tl t)) w) := by
  by_cases h : t.length ≤ 6
  · exact readTaints_short v t w hv h
  · obtain ⟨A, c, rfl, _⟩ := hv.form
    rw [readOf_no (labsOk_long (by rw [tl_len]; omega)), labsOk_long (by rw [tl_len]; omega)]
    exact readTaints_long A t.length c w (by omega) hlen

theorem TaintsOk_any (v : Value) (t : List Int) (w : World) (hv : IntSl w v t) (hlen : t.length ≤ 1048576) :
    Calls Tryz.prog 197 #[v] w fun e w' => e = .returned (.bool (labsOk (tl t))) ∧ Below w.heap.size w w' := by
  have H := Lib.hid (readTaints_any v t w hv hlen)
  clear hv
  go_enter Tryz.func197, Tryz.ntmps197
  go_wp2_with fail
  refine H.out.mono ?_
  rintro e w1 ⟨rfl, hb1⟩
  have hz1 := hb1.size
  go_wp2_with fail
  go_ret
  exact ⟨rfl, (by repeat' (first | exact Below.refl _ _ | refine Below.alloc ?_ ?_ _ | refine Below.setCell ?_ ?_ _ | refine Below.drew ?_ | (apply below_step; assumption) | (simp; done) | (simp; omega) | omega))⟩

set_option maxHeartbeats 1600000 in
theorem Tolerates_any (v1 v2 : Value) (a b : List Int) (w : World) (h1 : IntSl w v1 a) (h2 : IntSl w v2 b) (hl1 : a.length ≤ 1048576) (hl2 : b.length ≤ 1048576) :
    Calls Tryz.prog 212 #[v1, v2] w fun e w' => e = .returned (.bool (tolOf a b)) ∧ Below w.heap.size w w' := by
  have r1 := readTaints_any v1 a w h1 hl1
  have r2 := fun w1 (hb : Below w.heap.size w w1) => readTaints_any v2 b (w1.alloc (.cells #[.int .i64 (readOf (tl a) 0), .int .i64 (readOf (tl a) 1), .int .i64 (readOf (tl a) 2), .int .i64 (readOf (tl a) 3), .int .i64 (readOf (tl a) 4), .int .i64 (readOf (tl a) 5), .int .i64 (readOf (tl a) 6), .int .i64 (readOf (tl a) 7), .int .i64 (readOf (tl a) 8), .int .i64 (readOf (tl a) 9)] 227)) ((h2.below hb).below ((Below.refl _ _).alloc (Nat.le_refl _) _)) hl2
  clear h1 h2
  unfold tolOf
  cases ha : labsOk (tl a)
  · rw [ha] at r1
    have R1 := Lib.hid r1
    have HM := Lib.hid (matchOf_no2 (a := tl b) ha)
    clear r1 r2 ha
    go_enter Tryz.func212, Tryz.ntmps212
    go_wp2_with fail
    refine R1.out.mono ?_
    rintro e w1 ⟨rfl, hb1⟩
    have hz1 := hb1.size
    go_wp2_with fail
    go_ret
    rw [HM.out]
    exact ⟨rfl, (by repeat' (first | exact Below.refl _ _ | refine Below.alloc ?_ ?_ _ | refine Below.setCell ?_ ?_ _ | refine Below.drew ?_ | (apply below_step; assumption) | (simp; done) | (simp; omega) | omega))⟩
  · rw [ha] at r1
    cases hb : labsOk (tl b)
    · rw [hb] at r2
      have R1 := Lib.hid r1
      have R2 := Lib.hid r2
      have HM := Lib.hid (matchOf_no1 (b := tl a) hb)
      clear r1 r2 ha hb
      generalize readOf (tl a) = m1 at R1 R2
      go_enter Tryz.func212, Tryz.ntmps212
      go_wp2_with fail
      refine R1.out.mono ?_
      rintro e w1 ⟨rfl, hb1⟩
      have hz1 := hb1.size
      go_wp2_with fail
      refine (R2.out w1 hb1).mono ?_
      rintro e w2 ⟨rfl, hb2⟩
      have hz2 := hb2.size
      simp at hz2
      go_wp2_with fail
      go_ret
      rw [HM.out]
      exact ⟨rfl, (by repeat' (first | exact Below.refl _ _ | refine Below.alloc ?_ ?_ _ | refine Below.setCell ?_ ?_ _ | refine Below.drew ?_ | (apply below_step; assumption) | (simp; done) | (simp; omega) | omega))⟩
    · rw [hb] at r2
      have R1 := Lib.hid r1
      have R2 := Lib.hid r2
      have HM := Lib.hid (matchOf_yes hb ha)
      clear r1 r2 ha hb
      generalize readOf (tl a) = m1 at R1 R2 HM
      generalize readOf (tl b) = m2 at R2 HM
      go_enter Tryz.func212, Tryz.ntmps212
      go_wp2_with fail
      refine R1.out.mono ?_
      rintro e w1 ⟨rfl, hb1⟩
      have hz1 := hb1.size
      go_wp2_with fail
      refine (R2.out w1 hb1).mono ?_
      rintro e w2 ⟨rfl, hb2⟩
      have hz2 := hb2.size
      simp at hz2
      have hM1 := ((BlockIs.new w1 227 #[.int .i64 (m1 0), .int .i64 (m1 1), .int .i64 (m1 2), .int .i64 (m1 3), .int .i64 (m1 4), .int .i64 (m1 5), .int .i64 (m1 6), .int .i64 (m1 7), .int .i64 (m1 8), .int .i64 (m1 9)]).below hb2 (by simp)).alloc (.cells #[.int .i64 (m2 0), .int .i64 (m2 1), .int .i64 (m2 2), .int .i64 (m2 3), .int .i64 (m2 4), .int .i64 (m2 5), .int .i64 (m2 6), .int .i64 (m2 7), .int .i64 (m2 8), .int .i64 (m2 9)] 227)
      have z0 := (hM1).cell 0; have z1 := (hM1).cell 1; have z2 := (hM1).cell 2; have z3 := (hM1).cell 3; have z4 := (hM1).cell 4; have z5 := (hM1).cell 5; have z6 := (hM1).cell 6; have z7 := (hM1).cell 7; have z8 := (hM1).cell 8; have z9 := (hM1).cell 9; simp at z0 z1 z2 z3 z4 z5 z6 z7 z8 z9
      clear hM1
      go_wp2_with fail
      refine (hasAll_any m2 m1 _).mono ?_
      rintro e w3 ⟨rfl, hb3⟩
      have hz3 := hb3.size
      simp at hz3
      go_wp2_with fail
      go_ret
      rw [HM.out]
      exact ⟨rfl, (by repeat' (first | exact Below.refl _ _ | refine Below.alloc ?_ ?_ _ | refine Below.setCell ?_ ?_ _ | refine Below.drew ?_ | (apply below_step; assumption) | (simp; done) | (simp; omega) | omega))⟩
end Go.Proofs.YtcegofdmdemcbaaGreatDoor

namespace Go.Proofs.YtcegofdmdemcbaaGreatDoor
open Go.RowKit

theorem idOk_any (n : Int) (w : World) : Calls Tryz.prog 182 #[.int .i64 n] w fun e w' => e = .returned (.bool (idOk n)) ∧ w = w' := by
  by_cases h1 : 1 ≤ n
  · by_cases h2 : n ≤ 99
    · have H := Lib.hid (idOk_iff.2 ⟨h1, h2⟩)
      go_enter Tryz.func182, Tryz.ntmps182
      go_wp2
      go_ret
      exact ⟨by rw [H.out]; simp, rfl⟩
    · have H := Lib.hid (idBad_iff.2 (fun h => h2 h.2))
      have h3 : 99 < n := by omega
      clear h2
      go_enter Tryz.func182, Tryz.ntmps182
      go_wp2
      go_ret
      exact ⟨by rw [H.out]; simp; omega, rfl⟩
  · have H := Lib.hid (idBad_iff.2 (fun h => h1 h.1))
    have h2 : n < 1 := by omega
    clear h1
    go_enter Tryz.func182, Tryz.ntmps182
    go_wp2
    go_ret
    exact ⟨by rw [H.out]; rfl, rfl⟩

theorem tv_ok_eq (t : TV) (b1 b2 b3 b4 b5 b6 : Bool) (h1 : idOk t.id = b1) (h2 : decide (0 ≤ t.prio) = b2) (h3 : decide (t.prio ≤ 9) = b3) (h4 : t.need.ok = b4) (h5 : labsOk t.want = b5) (h6 : labsOk (tl t.tols) = b6) : t.ok = (b1 && b2 && b3 && b4 && b5 && b6) := by
  subst h1 h2 h3 h4 h5 h6; rfl
theorem nv_ok_eq (t : NV) (b1 b2 b3 b4 b5 b6 : Bool) (h1 : idOk t.id = b1) (h2 : decide (0 ≤ t.pool) = b2) (h3 : decide (t.pool < 5) = b3) (h4 : t.cap.ok = b4) (h5 : labsOk t.labs = b5) (h6 : labsOk (tl t.taints) = b6) : t.ok = (b1 && b2 && b3 && b4 && b5 && b6) := by
  subst h1 h2 h3 h4 h5 h6; rfl

set_option maxHeartbeats 1600000 in
theorem TaskOk_any (t : TV) (v1 v2 : Value) (w : World) (x : Addr) (hg : ErrAt x w) (h1 : LabSl w v1 t.want) (h2 : IntSl w v2 t.tols) (l1 : t.want.length ≤ 1048576) (l2 : t.tols.length ≤ 1048576) :
    Calls Tryz.prog 178 #[.agg #[.int .i64 t.id, .int .i64 t.prio, .int .i64 t.need.c, .int .i64 t.need.m, .int .i64 t.need.p, v1, v2]] w fun e w' => e = .returned (.bool t.ok) ∧ Below w.heap.size w w' := by
  have HG := Lib.hid hg
  have HL := Lib.hid h1
  have HI := Lib.hid h2
  have HE := Lib.hid (tv_ok_eq t)
  have hid := idOk_any t.id
  have hne : ∀ w x (hg : ErrAt x w), Calls Tryz.prog 195 #[.agg #[.int .i64 t.need.c, .int .i64 t.need.m, .int .i64 t.need.p]] w fun e w' => e = .returned (.bool t.need.ok) ∧ Below w.heap.size w w' := fun w x hg => ResOk_any t.need w x hg
  have hla : ∀ w (h : LabSl w v1 t.want), Calls Tryz.prog 196 #[v1] w fun e w' => e = .returned (.bool (labsOk t.want)) ∧ Below w.heap.size w w' := fun w h => LabsOk_any v1 t.want w h l1
  have hta : ∀ w (h : IntSl w v2 t.tols), Calls Tryz.prog 197 #[v2] w fun e w' => e = .returned (.bool (labsOk (tl t.tols))) ∧ Below w.heap.size w w' := fun w h => TaintsOk_any v2 t.tols w h l2
  generalize t.ok = ok at *
  generalize e1 : idOk t.id = b1 at hid
  generalize e2 : decide (0 ≤ t.prio) = b2
  generalize e3 : decide (t.prio ≤ 9) = b3
  generalize e4 : t.need.ok = b4 at hne
  generalize e5 : labsOk t.want = b5 at hla
  generalize e6 : labsOk (tl t.tols) = b6 at hta
  have HE' := Lib.hid (HE.out _ _ _ _ _ _ e1 e2 e3 e4 e5 e6)
  have HID := Lib.hid hid
  have HNE := Lib.hid hne
  have HLA := Lib.hid hla
  have HTA := Lib.hid hta
  clear hg h1 h2 hid hne hla hta e1 e4 e5 e6 HE l1 l2
  go_enter Tryz.func178, Tryz.ntmps178
  go_wp2_with fail
  refine (HID.out _).mono ?_
  rintro e w1 ⟨rfl, rfl⟩
  cases b1
  · go_wp2_with fail
    go_ret
    exact ⟨by rw [HE'.out]; simp, (by repeat' (first | exact Below.refl _ _ | refine Below.alloc ?_ ?_ _ | refine Below.setCell ?_ ?_ _ | refine Below.drew ?_ | (apply below_step; assumption) | (simp; done) | (simp; omega) | omega))⟩
  cases b2
  · go_wp2_with fail
    go_ret
    exact ⟨by rw [HE'.out]; simp, (by repeat' (first | exact Below.refl _ _ | refine Below.alloc ?_ ?_ _ | refine Below.setCell ?_ ?_ _ | refine Below.drew ?_ | (apply below_step; assumption) | (simp; done) | (simp; omega) | omega))⟩
  cases b3
  · go_wp2_with fail
    go_ret
    exact ⟨by rw [HE'.out]; simp, (by repeat' (first | exact Below.refl _ _ | refine Below.alloc ?_ ?_ _ | refine Below.setCell ?_ ?_ _ | refine Below.drew ?_ | (apply below_step; assumption) | (simp; done) | (simp; omega) | omega))⟩
  go_wp2_with fail
  refine (HNE.out _ x (HG.out.alloc _)).mono ?_
  rintro e w2 ⟨rfl, hb2⟩
  have hz2 := hb2.size
  simp at hz2
  obtain ⟨hc2, hf2⟩ := bcell hb2
  have hC2 : Below w.heap.size w w2 := ((Below.refl _ _).alloc (Nat.le_refl _) _).trans (hb2.mono (by simp))
  cases b4
  · go_wp2_with fail
    go_ret
    exact ⟨by rw [HE'.out]; simp, hC2⟩
  go_wp2_with fail
  refine (HLA.out _ (HL.out.below hC2)).mono ?_
  rintro e w3 ⟨rfl, hb3⟩
  have hz3 := hb3.size
  obtain ⟨hc3, hf3⟩ := bcell hb3
  have hs2 : w.heap.size < w2.heap.size := by omega
  have hC3 : Below w.heap.size w w3 := hC2.trans (hb3.mono hC2.size)
  cases b5
  · go_wp2_with fail
    go_ret
    exact ⟨by rw [HE'.out]; simp, hC3⟩
  go_wp2_with fail
  refine (HTA.out _ (HI.out.below hC3)).mono ?_
  rintro e w4 ⟨rfl, hb4⟩
  have hC4 : Below w.heap.size w w4 := hC3.trans (hb4.mono hC3.size)
  go_wp2_with fail
  go_ret
  exact ⟨by rw [HE'.out]; simp, hC4⟩
set_option maxHeartbeats 1600000 in
theorem NodeOk_any (t : NV) (v1 v2 : Value) (w : World) (x : Addr) (hg : ErrAt x w) (h1 : LabSl w v1 t.labs) (h2 : IntSl w v2 t.taints) (l1 : t.labs.length ≤ 1048576) (l2 : t.taints.length ≤ 1048576) :
    Calls Tryz.prog 177 #[.agg #[.int .i64 t.id, .int .i64 t.pool, .int .i64 t.cap.c, .int .i64 t.cap.m, .int .i64 t.cap.p, v1, v2, .bool t.cordon]] w fun e w' => e = .returned (.bool t.ok) ∧ Below w.heap.size w w' := by
  have HG := Lib.hid hg
  have HL := Lib.hid h1
  have HI := Lib.hid h2
  have HE := Lib.hid (nv_ok_eq t)
  have hid := idOk_any t.id
  have hne : ∀ w x (hg : ErrAt x w), Calls Tryz.prog 195 #[.agg #[.int .i64 t.cap.c, .int .i64 t.cap.m, .int .i64 t.cap.p]] w fun e w' => e = .returned (.bool t.cap.ok) ∧ Below w.heap.size w w' := fun w x hg => ResOk_any t.cap w x hg
  have hla : ∀ w (h : LabSl w v1 t.labs), Calls Tryz.prog 196 #[v1] w fun e w' => e = .returned (.bool (labsOk t.labs)) ∧ Below w.heap.size w w' := fun w h => LabsOk_any v1 t.labs w h l1
  have hta : ∀ w (h : IntSl w v2 t.taints), Calls Tryz.prog 197 #[v2] w fun e w' => e = .returned (.bool (labsOk (tl t.taints))) ∧ Below w.heap.size w w' := fun w h => TaintsOk_any v2 t.taints w h l2
  generalize t.ok = ok at *
  generalize e1 : idOk t.id = b1 at hid
  generalize e2 : decide (0 ≤ t.pool) = b2
  generalize e3 : decide (t.pool < 5) = b3
  generalize e4 : t.cap.ok = b4 at hne
  generalize e5 : labsOk t.labs = b5 at hla
  generalize e6 : labsOk (tl t.taints) = b6 at hta
  have HE' := Lib.hid (HE.out _ _ _ _ _ _ e1 e2 e3 e4 e5 e6)
  have HID := Lib.hid hid
  have HNE := Lib.hid hne
  have HLA := Lib.hid hla
  have HTA := Lib.hid hta
  clear hg h1 h2 hid hne hla hta e1 e4 e5 e6 HE l1 l2
  go_enter Tryz.func177, Tryz.ntmps177
  go_wp2_with fail
  refine (HID.out _).mono ?_
  rintro e w1 ⟨rfl, rfl⟩
  cases b1
  · go_wp2_with fail
    go_ret
    exact ⟨by rw [HE'.out]; simp, (by repeat' (first | exact Below.refl _ _ | refine Below.alloc ?_ ?_ _ | refine Below.setCell ?_ ?_ _ | refine Below.drew ?_ | (apply below_step; assumption) | (simp; done) | (simp; omega) | omega))⟩
  cases b2
  · go_wp2_with fail
    go_ret
    exact ⟨by rw [HE'.out]; simp, (by repeat' (first | exact Below.refl _ _ | refine Below.alloc ?_ ?_ _ | refine Below.setCell ?_ ?_ _ | refine Below.drew ?_ | (apply below_step; assumption) | (simp; done) | (simp; omega) | omega))⟩
  cases b3
  · go_wp2_with fail
    go_ret
    exact ⟨by rw [HE'.out]; simp, (by repeat' (first | exact Below.refl _ _ | refine Below.alloc ?_ ?_ _ | refine Below.setCell ?_ ?_ _ | refine Below.drew ?_ | (apply below_step; assumption) | (simp; done) | (simp; omega) | omega))⟩
  go_wp2_with fail
  refine (HNE.out _ x (HG.out.alloc _)).mono ?_
  rintro e w2 ⟨rfl, hb2⟩
  have hz2 := hb2.size
  simp at hz2
  obtain ⟨hc2, hf2⟩ := bcell hb2
  have hC2 : Below w.heap.size w w2 := ((Below.refl _ _).alloc (Nat.le_refl _) _).trans (hb2.mono (by simp))
  cases b4
  · go_wp2_with fail
    go_ret
    exact ⟨by rw [HE'.out]; simp, hC2⟩
  go_wp2_with fail
  refine (HLA.out _ (HL.out.below hC2)).mono ?_
  rintro e w3 ⟨rfl, hb3⟩
  have hz3 := hb3.size
  obtain ⟨hc3, hf3⟩ := bcell hb3
  have hs2 : w.heap.size < w2.heap.size := by omega
  have hC3 : Below w.heap.size w w3 := hC2.trans (hb3.mono hC2.size)
  cases b5
  · go_wp2_with fail
    go_ret
    exact ⟨by rw [HE'.out]; simp, hC3⟩
  go_wp2_with fail
  refine (HTA.out _ (HI.out.below hC3)).mono ?_
  rintro e w4 ⟨rfl, hb4⟩
  have hC4 : Below w.heap.size w w4 := hC3.trans (hb4.mono hC3.size)
  go_wp2_with fail
  go_ret
  exact ⟨by rw [HE'.out]; simp, hC4⟩

theorem ma_eq (n : NV) (t : TV) (b3 b4 : Bool) (h3 : matchOf n.labs t.want = b3) (h4 : tolOf n.taints t.tols = b4) : hosts n t = (b3 && b4) := by
  subst h3 h4; rfl
theorem ch_eq (n : NV) (t : TV) (b1 b2 b3 : Bool) (h1 : n.ok = b1) (h2 : t.ok = b2) (h3 : hosts n t = b3) : canHost n t = (b1 && b2 && b3) := by
  subst h1 h2 h3; rfl

set_option maxHeartbeats 1600000 in
theorem marksAllow_any (n : NV) (t : TV) (u1 u2 v1 v2 : Value) (w : World) (k1 : LabSl w u1 n.labs) (k2 : IntSl w u2 n.taints) (h1 : LabSl w v1 t.want) (h2 : IntSl w v2 t.tols)
    (m1 : n.labs.length ≤ 1048576) (m2 : n.taints.length ≤ 1048576) (l1 : t.want.length ≤ 1048576) (l2 : t.tols.length ≤ 1048576) :
    Calls Tryz.prog 200 #[.agg #[.int .i64 n.id, .int .i64 n.pool, .int .i64 n.cap.c, .int .i64 n.cap.m, .int .i64 n.cap.p, u1, u2, .bool n.cordon], .agg #[.int .i64 t.id, .int .i64 t.prio, .int .i64 t.need.c, .int .i64 t.need.m, .int .i64 t.need.p, v1, v2]] w fun e w' => e = .returned (.bool (hosts n t)) ∧ Below w.heap.size w w' := by
  have K1 := Lib.hid k1
  have K2 := Lib.hid k2
  have H1 := Lib.hid h1
  have H2 := Lib.hid h2
  have hla : ∀ w (k : LabSl w u1 n.labs) (h : LabSl w v1 t.want), Calls Tryz.prog 211 #[u1, v1] w fun e w' => e = .returned (.bool (matchOf n.labs t.want)) ∧ Below w.heap.size w w' := fun w k h => LabsMatch_any u1 v1 n.labs t.want w k h m1 l1
  have hta : ∀ w (k : IntSl w u2 n.taints) (h : IntSl w v2 t.tols), Calls Tryz.prog 212 #[u2, v2] w fun e w' => e = .returned (.bool (tolOf n.taints t.tols)) ∧ Below w.heap.size w w' := fun w k h => Tolerates_any u2 v2 n.taints t.tols w k h m2 l2
  have HE := Lib.hid (ma_eq n t)
  generalize hosts n t = ok at *
  generalize e3 : matchOf n.labs t.want = b3 at hla
  generalize e4 : tolOf n.taints t.tols = b4 at hta
  have HE' := Lib.hid (HE.out _ _ e3 e4)
  have HLA := Lib.hid hla
  have HTA := Lib.hid hta
  clear k1 k2 h1 h2 hla hta e3 e4 HE m1 m2 l1 l2
  go_enter Tryz.func200, Tryz.ntmps200
  go_wp2_with fail
  have hC0 : Below w.heap.size w ((w.alloc (.cells #[.int .i64 n.id, .int .i64 n.pool, .int .i64 n.cap.c, .int .i64 n.cap.m, .int .i64 n.cap.p, u1, u2, .bool n.cordon] 78)).alloc (.cells #[.int .i64 t.id, .int .i64 t.prio, .int .i64 t.need.c, .int .i64 t.need.m, .int .i64 t.need.p, v1, v2] 154)) := (by repeat' (first | exact Below.refl _ _ | refine Below.alloc ?_ ?_ _ | refine Below.setCell ?_ ?_ _ | refine Below.drew ?_ | (apply below_step; assumption) | (simp; done) | (simp; omega) | omega))
  refine (HLA.out _ (K1.out.below hC0) (H1.out.below hC0)).mono ?_
  rintro e w3 ⟨rfl, hb3⟩
  have hz3 := hb3.size
  simp at hz3
  obtain ⟨hc3, hf3⟩ := bcell hb3
  have hs2 : w.heap.size < w3.heap.size := by omega
  have hs2' : w.heap.size + 1 < w3.heap.size := by omega
  have hC3 : Below w.heap.size w w3 := hC0.trans (hb3.mono hC0.size)
  cases b3
  · go_wp2_with fail
    go_ret
    exact ⟨by rw [HE'.out]; simp, hC3⟩
  go_wp2_with fail
  refine (HTA.out _ (K2.out.below hC3) (H2.out.below hC3)).mono ?_
  rintro e w4 ⟨rfl, hb4⟩
  have hC4 : Below w.heap.size w w4 := hC3.trans (hb4.mono hC3.size)
  go_wp2_with fail
  go_ret
  exact ⟨by rw [HE'.out]; simp, hC4⟩

set_option maxHeartbeats 1600000 in
theorem CanHost_any (n : NV) (t : TV) (u1 u2 v1 v2 : Value) (w : World) (x : Addr) (hg : ErrAt x w) (k1 : LabSl w u1 n.labs) (k2 : IntSl w u2 n.taints) (h1 : LabSl w v1 t.want) (h2 : IntSl w v2 t.tols)
    (m1 : n.labs.length ≤ 1048576) (m2 : n.taints.length ≤ 1048576) (l1 : t.want.length ≤ 1048576) (l2 : t.tols.length ≤ 1048576) :
    Calls Tryz.prog 180 #[.agg #[.int .i64 n.id, .int .i64 n.pool, .int .i64 n.cap.c, .int .i64 n.cap.m, .int .i64 n.cap.p, u1, u2, .bool n.cordon], .agg #[.int .i64 t.id, .int .i64 t.prio, .int .i64 t.need.c, .int .i64 t.need.m, .int .i64 t.need.p, v1, v2]] w fun e w' => e = .returned (.bool (canHost n t)) ∧ Below w.heap.size w w' := by
  have HG := Lib.hid hg
  have K1 := Lib.hid k1
  have K2 := Lib.hid k2
  have H1 := Lib.hid h1
  have H2 := Lib.hid h2
  have hn : ∀ w x (hg : ErrAt x w) (h1 : LabSl w u1 n.labs) (h2 : IntSl w u2 n.taints), Calls Tryz.prog 177 #[.agg #[.int .i64 n.id, .int .i64 n.pool, .int .i64 n.cap.c, .int .i64 n.cap.m, .int .i64 n.cap.p, u1, u2, .bool n.cordon]] w fun e w' => e = .returned (.bool n.ok) ∧ Below w.heap.size w w' := fun w x hg h1 h2 => NodeOk_any n u1 u2 w x hg h1 h2 m1 m2
  have ht : ∀ w x (hg : ErrAt x w) (h1 : LabSl w v1 t.want) (h2 : IntSl w v2 t.tols), Calls Tryz.prog 178 #[.agg #[.int .i64 t.id, .int .i64 t.prio, .int .i64 t.need.c, .int .i64 t.need.m, .int .i64 t.need.p, v1, v2]] w fun e w' => e = .returned (.bool t.ok) ∧ Below w.heap.size w w' := fun w x hg h1 h2 => TaskOk_any t v1 v2 w x hg h1 h2 l1 l2
  have hma : ∀ w (k1 : LabSl w u1 n.labs) (k2 : IntSl w u2 n.taints) (h1 : LabSl w v1 t.want) (h2 : IntSl w v2 t.tols), Calls Tryz.prog 200 #[.agg #[.int .i64 n.id, .int .i64 n.pool, .int .i64 n.cap.c, .int .i64 n.cap.m, .int .i64 n.cap.p, u1, u2, .bool n.cordon], .agg #[.int .i64 t.id, .int .i64 t.prio, .int .i64 t.need.c, .int .i64 t.need.m, .int .i64 t.need.p, v1, v2]] w fun e w' => e = .returned (.bool (hosts n t)) ∧ Below w.heap.size w w' := fun w k1 k2 h1 h2 => marksAllow_any n t u1 u2 v1 v2 w k1 k2 h1 h2 m1 m2 l1 l2
  have HE := Lib.hid (ch_eq n t)
  generalize canHost n t = ok at *
  generalize e1 : n.ok = b1 at hn
  generalize e2 : t.ok = b2 at ht
  generalize e3 : hosts n t = b3 at hma
  have HE' := Lib.hid (HE.out _ _ _ e1 e2 e3)
  have HN := Lib.hid hn
  have HT := Lib.hid ht
  have HMA := Lib.hid hma
  clear hg k1 k2 h1 h2 hn ht hma e1 e2 e3 HE m1 m2 l1 l2
  go_enter Tryz.func180, Tryz.ntmps180
  go_wp2_with fail
  have hC0 : Below w.heap.size w ((w.alloc (.cells #[.int .i64 n.id, .int .i64 n.pool, .int .i64 n.cap.c, .int .i64 n.cap.m, .int .i64 n.cap.p, u1, u2, .bool n.cordon] 78)).alloc (.cells #[.int .i64 t.id, .int .i64 t.prio, .int .i64 t.need.c, .int .i64 t.need.m, .int .i64 t.need.p, v1, v2] 154)) := (by repeat' (first | exact Below.refl _ _ | refine Below.alloc ?_ ?_ _ | refine Below.setCell ?_ ?_ _ | refine Below.drew ?_ | (apply below_step; assumption) | (simp; done) | (simp; omega) | omega))
  refine (HN.out _ x ((HG.out.alloc _).alloc _) (K1.out.below hC0) (K2.out.below hC0)).mono ?_
  rintro e w1 ⟨rfl, hb1⟩
  have hz1 := hb1.size
  simp at hz1
  obtain ⟨hc1, hf1⟩ := bcell hb1
  have hg1 := Lib.hid (((HG.out.alloc _).alloc _).below hb1 (Nat.le_refl _))
  have hC1 : Below w.heap.size w w1 := hC0.trans (hb1.mono hC0.size)
  cases b1
  · go_wp2_with fail
    go_ret
    exact ⟨by rw [HE'.out]; simp, hC1⟩
  go_wp2_with fail
  refine (HT.out _ x hg1.out (H1.out.below hC1) (H2.out.below hC1)).mono ?_
  rintro e w2 ⟨rfl, hb2⟩
  have hz2 := hb2.size
  obtain ⟨hc2, hf2⟩ := bcell hb2
  have hs1 : w.heap.size < w1.heap.size := by omega
  have hs1' : w.heap.size + 1 < w1.heap.size := by omega
  have hC2 : Below w.heap.size w w2 := hC1.trans (hb2.mono hC1.size)
  cases b2
  · go_wp2_with fail
    go_ret
    exact ⟨by rw [HE'.out]; simp, hC2⟩
  have hs2 : w.heap.size < w2.heap.size := by omega
  have hs2' : w.heap.size + 1 < w2.heap.size := by omega
  go_wp2_with fail
  refine (HMA.out _ (K1.out.below hC2) (K2.out.below hC2) (H1.out.below hC2) (H2.out.below hC2)).mono ?_
  rintro e w3 ⟨rfl, hb3⟩
  have hC3 : Below w.heap.size w w3 := hC2.trans (hb3.mono hC2.size)
  go_wp2_with fail
  go_ret
  exact ⟨by rw [HE'.out]; simp, hC3⟩
end Go.Proofs.YtcegofdmdemcbaaGreatDoor

namespace Go.Proofs.YtcegofdmdemcbaaGreatDoor
open Go.RowKit

theorem sLabsOk_long (A : Option Addr) (n c : Nat) (w : World) (h : 6 < n) (hm : n ≤ 1048576) :
    Calls Tryz.prog 170 #[.slice A n c] w fun e w' => e = .returned (.bool false) ∧ Below w.heap.size w w' := by
  have h6 : (6 : Int) < (n : Int) := by omega
  go_enter Tryz.func170, Tryz.ntmps170
  go_wp2_with fail
  go_ret
  exact ⟨rfl, (by repeat' (first | exact Below.refl _ _ | refine Below.alloc ?_ ?_ _ | refine Below.setCell ?_ ?_ _ | refine Below.drew ?_ | (apply below_step; assumption) | (simp; done) | (simp; omega) | omega))⟩

def lastK (l : List LV) (k : Nat) : Int := if k = 0 then -1 else (l.getD (k - 1) ⟨0, 0⟩).k

set_option maxHeartbeats 3200000 in
theorem sLabsOk_short (v : Value) (l : List LV) (w : World) (hv : LabSl w v l) (hlen : l.length ≤ 6) :
    Calls Tryz.prog 170 #[v] w fun e w' => e = .returned (.bool (labsOk l)) ∧ Below w.heap.size w w' := by
  obtain ⟨A, c, rfl, hA⟩ := hv.form
  have HA := Lib.hid hA
  have HO := Lib.hid (labsOk_short hlen)
  clear hA hv
  have hl6 : (l.length : Int) ≤ 6 := by omega
  go_enter Tryz.func170, Tryz.ntmps170
  go_wp2_with fail
  go_loopw [3] (fun s3 wr => ∃ (k : Nat), k ≤ l.length ∧ s3 = .int .i64 k ∧ labsFrom (-1) l = labsFrom (lastK l k) (l.drop k) ∧ Below w.heap.size w wr) (fun s3 _ => (l.length - intOf s3).toNat)
  case atStart => exact ⟨0, by omega, rfl, by rw [List.drop_zero]; rfl, Below.refl _ _⟩
  case round =>
    obtain ⟨k, hk, rfl, hF, hB⟩ := hrel
    have HF := Lib.hid hF
    have hzr := hB.size
    clear hF
    by_cases hlt : k < l.length
    · obtain ⟨b, off, rfl, hbw, hat⟩ := HA.out (by omega)
      obtain ⟨r, hr⟩ : ∃ r, l[k]? = some r := ⟨_, List.getElem?_eq_getElem hlt⟩
      have HD := Lib.hid (drop_at hr)
      have HN : Hid (lastK l (k + 1) = r.k) := by
        show _ = _
        simp [lastK, List.getD, hr]
      obtain ⟨q0, q1⟩ := (hat.below hB hbw) k r hr
      have hlti : (k : Int) < (l.length : Int) := by omega
      have hbr : b < wr.heap.size := by omega
      rcases (show r.k < 0 ∨ (0 ≤ r.k ∧ 9 < r.k) ∨ (0 ≤ r.k ∧ r.k ≤ 9 ∧ r.v < 0) ∨ (0 ≤ r.k ∧ r.k ≤ 9 ∧ 0 ≤ r.v ∧ 9 < r.v) ∨ (0 ≤ r.k ∧ r.k ≤ 9 ∧ 0 ≤ r.v ∧ r.v ≤ 9) by omega) with g | g | g | g | g
      case inr.inr.inr.inr => 
        obtain ⟨g0, g1, g2, g3⟩ := g
        have HR := Lib.hid (LV.ok_iff.2 ⟨g0, g1, g2, g3⟩)
        by_cases hk0 : k = 0
        · have HL : Hid (lastK l k < r.k) := by
            show _ < _
            rw [hk0]; simp [lastK]; omega
          have HK0 := Lib.hid hk0
          have hkb : decide (0 < k) = false := by simp; omega
          have b0 : decide (r.k < 0) = false := by simp; omega
          have b1 : decide (9 < r.k) = false := by simp; omega
          have b2 : decide (r.v < 0) = false := by simp; omega
          have b3 : decide (9 < r.v) = false := by simp; omega
          clear hat hr hk0 g0 g1 g2 g3
          go_wp2_with fail
          go_quiet (fail)
          go_wp2_with fail
          go_roundw
          case rel =>
            refine ⟨k + 1, by omega, by go_num, ?_, (by repeat' (first | exact Below.refl _ _ | refine Below.alloc ?_ ?_ _ | refine Below.setCell ?_ ?_ _ | refine Below.drew ?_ | refine below_drewN ?_ _ | (apply below_step; assumption) | (simp; done) | (simp; omega) | omega))⟩
            rw [HF.out, HD.out, HN.out, labsFrom_yes HR.out HL.out]
          case measure => simp [intOf]; omega
        · obtain ⟨q, hq⟩ : ∃ q, l[k - 1]? = some q := ⟨_, List.getElem?_eq_getElem (by omega)⟩
          obtain ⟨p0, _⟩ := (hat.below hB hbw) (k - 1) q hq
          have HL : Hid (lastK l k = q.k) := by
            show _ = _
            simp [lastK, List.getD, hq, hk0]
          have hkb : decide (0 < k) = true := by simp; omega
          have b0 : decide (r.k < 0) = false := by simp; omega
          have b1 : decide (9 < r.k) = false := by simp; omega
          have b2 : decide (r.v < 0) = false := by simp; omega
          have b3 : decide (9 < r.v) = false := by simp; omega
          have n1 : (0 : Int) ≤ (k : Int) - 1 := by omega
          have n2 : (1 : Int) ≤ (k : Int) := by omega
          have n3 : (k : Int) - 1 < (l.length : Int) := by omega
          have n4 : ((k : Int) - 1).toNat = k - 1 := by omega
          have n5 : IntKind.i64.wrap ((k : Int) - 1) = (k : Int) - 1 := IntWalk.i64_in _ (by omega)
          by_cases hle : r.k ≤ q.k
          · have HLE := Lib.hid hle
            have b4 : decide (r.k ≤ q.k) = true := by simpa using hle
            clear hat hr hk0 g0 g1 g2 g3 hq hle
            go_wp2_with fail
            go_quiet (fail)
            go_wp2_with fail
            have HX : Hid (labsOk l = false) := by
              show _ = _
              rw [HO.out, HF.out, HD.out, labsFrom_low (by rw [HL.out]; exact HLE.out)]
            go_ret
            rw [HX.out]
            exact ⟨rfl, (by repeat' (first | exact Below.refl _ _ | refine Below.alloc ?_ ?_ _ | refine Below.setCell ?_ ?_ _ | refine Below.drew ?_ | refine below_drewN ?_ _ | (apply below_step; assumption) | (simp; done) | (simp; omega) | omega))⟩
          · have HLE := Lib.hid (show q.k < r.k by omega)
            have b4 : decide (r.k ≤ q.k) = false := by simp; omega
            clear hat hr hk0 g0 g1 g2 g3 hq hle
            go_wp2_with fail
            go_quiet (fail)
            go_wp2_with fail
            clear n4 n5
            go_roundw
            case rel =>
              refine ⟨k + 1, by omega, by go_num, ?_, (by repeat' (first | exact Below.refl _ _ | refine Below.alloc ?_ ?_ _ | refine Below.setCell ?_ ?_ _ | refine Below.drew ?_ | refine below_drewN ?_ _ | (apply below_step; assumption) | (simp; done) | (simp; omega) | omega))⟩
              rw [HF.out, HD.out, HN.out, labsFrom_yes HR.out (by rw [HL.out]; exact HLE.out)]
            case measure => simp [intOf]; omega
      · have HR := Lib.hid (LV.bad_iff.2 (show ¬ (0 ≤ r.k ∧ r.k ≤ 9 ∧ 0 ≤ r.v ∧ r.v ≤ 9) by omega))
        have b0 : decide (r.k < 0) = true := by simp; omega
        clear hat hr g
        go_wp2_with fail
        go_quiet (fail)
        go_wp2_with fail
        have HX : Hid (labsOk l = false) := by
          show _ = _
          rw [HO.out, HF.out, HD.out, labsFrom_bad HR.out]
        go_ret
        rw [HX.out]
        exact ⟨rfl, (by repeat' (first | exact Below.refl _ _ | refine Below.alloc ?_ ?_ _ | refine Below.setCell ?_ ?_ _ | refine Below.drew ?_ | refine below_drewN ?_ _ | (apply below_step; assumption) | (simp; done) | (simp; omega) | omega))⟩
      · have HR := Lib.hid (LV.bad_iff.2 (show ¬ (0 ≤ r.k ∧ r.k ≤ 9 ∧ 0 ≤ r.v ∧ r.v ≤ 9) by omega))
        have b0 : decide (r.k < 0) = false := by simp; omega
        have b1 : decide (9 < r.k) = true := by simp; omega
        clear hat hr g
        go_wp2_with fail
        go_quiet (fail)
        go_wp2_with fail
        have HX : Hid (labsOk l = false) := by
          show _ = _
          rw [HO.out, HF.out, HD.out, labsFrom_bad HR.out]
        go_ret
        rw [HX.out]
        exact ⟨rfl, (by repeat' (first | exact Below.refl _ _ | refine Below.alloc ?_ ?_ _ | refine Below.setCell ?_ ?_ _ | refine Below.drew ?_ | refine below_drewN ?_ _ | (apply below_step; assumption) | (simp; done) | (simp; omega) | omega))⟩
      · have HR := Lib.hid (LV.bad_iff.2 (show ¬ (0 ≤ r.k ∧ r.k ≤ 9 ∧ 0 ≤ r.v ∧ r.v ≤ 9) by omega))
        have b0 : decide (r.k < 0) = false := by simp; omega
        have b1 : decide (9 < r.k) = false := by simp; omega
        have b2 : decide (r.v < 0) = true := by simp; omega
        clear hat hr g
        go_wp2_with fail
        go_quiet (fail)
        go_wp2_with fail
        have HX : Hid (labsOk l = false) := by
          show _ = _
          rw [HO.out, HF.out, HD.out, labsFrom_bad HR.out]
        go_ret
        rw [HX.out]
        exact ⟨rfl, (by repeat' (first | exact Below.refl _ _ | refine Below.alloc ?_ ?_ _ | refine Below.setCell ?_ ?_ _ | refine Below.drew ?_ | refine below_drewN ?_ _ | (apply below_step; assumption) | (simp; done) | (simp; omega) | omega))⟩
      · have HR := Lib.hid (LV.bad_iff.2 (show ¬ (0 ≤ r.k ∧ r.k ≤ 9 ∧ 0 ≤ r.v ∧ r.v ≤ 9) by omega))
        have b0 : decide (r.k < 0) = false := by simp; omega
        have b1 : decide (9 < r.k) = false := by simp; omega
        have b2 : decide (r.v < 0) = false := by simp; omega
        have b3 : decide (9 < r.v) = true := by simp; omega
        clear hat hr g
        go_wp2_with fail
        go_quiet (fail)
        go_wp2_with fail
        have HX : Hid (labsOk l = false) := by
          show _ = _
          rw [HO.out, HF.out, HD.out, labsFrom_bad HR.out]
        go_ret
        rw [HX.out]
        exact ⟨rfl, (by repeat' (first | exact Below.refl _ _ | refine Below.alloc ?_ ?_ _ | refine Below.setCell ?_ ?_ _ | refine Below.drew ?_ | refine below_drewN ?_ _ | (apply below_step; assumption) | (simp; done) | (simp; omega) | omega))⟩
    · have hkl : k = l.length := by omega
      have HX : Hid (labsOk l = true) := by
        show _ = _
        rw [HO.out, HF.out, hkl, List.drop_length]; rfl
      clear hkl
      go_wp2_with fail
      go_ret
      rw [HX.out]
      exact ⟨rfl, hB⟩
end Go.Proofs.YtcegofdmdemcbaaGreatDoor

namespace Go.Proofs.YtcegofdmdemcbaaGreatDoor
open Go.RowKit

theorem sLabsOk_any (v : Value) (l : List LV) (w : World) (hv : LabSl w v l) (hlen : l.length ≤ 1048576) :
    Calls Tryz.prog 170 #[v] w fun e w' => e = .returned (.bool (labsOk l)) ∧ Below w.heap.size w w' := by
  by_cases h : l.length ≤ 6
  · exact sLabsOk_short v l w hv h
  · obtain ⟨A, c, rfl, _⟩ := hv.form
    rw [labsOk_long (by omega)]
    exact sLabsOk_long A l.length c w (by omega) hlen




set_option maxHeartbeats 1600000 in
theorem sLabsGet_any (v : Value) (l : List LV) (key : Int) (w : World) (hv : LabSl w v l) (hlen : l.length ≤ 1048576) :
    Calls Tryz.prog 204 #[v, .int .i64 key] w (RetI (getOf l key) w) := by
  have hok := fun w1 (hb : Below w.heap.size w w1) => sLabsOk_any v l w1 (hv.below hb) hlen
  cases ho : labsOk l
  · rw [ho] at hok
    have HG := Lib.hid (getOf_no (k := key) ho)
    have HOK := Lib.hid hok
    obtain ⟨A, c, rfl, _⟩ := hv.form
    clear hok ho hv
    go_enter Tryz.func204, Tryz.ntmps204
    go_wp2_with fail
    refine wp_loop_rounds 1 ?_
    rw [rounds_succ]
    go_wp2_with fail
    refine (HOK.out w (Below.refl _ _)).mono ?_
    rintro e w1 ⟨rfl, hb1⟩
    have hz1 := hb1.size
    go_wp2_with fail
    go_ret2
    rw [HG.out]
    exact ⟨rfl, hb1⟩
  · rw [ho] at hok
    have HG := Lib.hid (getOf_yes (k := key) ho)
    have HOK := Lib.hid hok
    obtain ⟨A, c, rfl, hA⟩ := hv.form
    have HA := Lib.hid hA
    clear hok ho hv hA
    go_enter Tryz.func204, Tryz.ntmps204
    go_wp2_with fail
    go_loopw [6] (fun s6 wr => ∃ (k : Nat), k ≤ l.length ∧ s6 = .int .i64 k ∧ findK l key = findK (l.drop k) key ∧ Below w.heap.size w wr) (fun s6 _ => (l.length - intOf s6).toNat)
    case atStart => exact ⟨0, by omega, rfl, by rw [List.drop_zero], Below.refl _ _⟩
    case round =>
      obtain ⟨k, hk, rfl, hF, hB⟩ := hrel
      have HF := Lib.hid hF
      have hzr := hB.size
      clear hF
      by_cases hlt : k < l.length
      · obtain ⟨b, off, rfl, hbw, hat⟩ := HA.out (by omega)
        obtain ⟨r, hr⟩ : ∃ r, l[k]? = some r := ⟨_, List.getElem?_eq_getElem hlt⟩
        have HD := Lib.hid (drop_at hr)
        have hlti : (k : Int) < (l.length : Int) := by omega
        go_wp2_with fail
        refine (HOK.out wr hB).mono ?_
        rintro e w1 ⟨rfl, hb1⟩
        have hz1 := hb1.size
        have hB1 : Below w.heap.size w w1 := (by repeat' (first | exact Below.refl _ _ | refine Below.alloc ?_ ?_ _ | refine Below.setCell ?_ ?_ _ | refine Below.drew ?_ | (apply below_step; assumption) | (simp; done) | (simp; omega) | omega))
        obtain ⟨q0, q1⟩ := (hat.below hB1 hbw) k r hr
        clear hat hr
        by_cases hkk : r.k = key
        · have HK := Lib.hid hkk
          have hkb : (r.k == key) = true := by simpa using hkk
          clear hkk
          go_wp2_with fail
          go_ret2
          rw [HG.out, HF.out, HD.out, findK_hit HK.out]
          exact ⟨rfl, hB1⟩
        · have HK := Lib.hid hkk
          have hkb : (r.k == key) = false := by simpa using hkk
          clear hkk
          go_wp2_with fail
          go_roundw
          case rel =>
            refine ⟨k + 1, by omega, by go_num, ?_, hB1⟩
            rw [HF.out, HD.out, findK_miss HK.out]
          case measure => simp [intOf]; omega
      · have hkl : k = l.length := by omega
        have HX : Hid (findK l key = (0, false)) := by
          show _ = _
          rw [HF.out, hkl, List.drop_length]; rfl
        clear hkl
        have hlti : ¬ (k : Int) < (l.length : Int) := by omega
        go_wp2_with fail
        refine (HOK.out wr hB).mono ?_
        rintro e w1 ⟨rfl, hb1⟩
        have hz1 := hb1.size
        have hB1 : Below w.heap.size w w1 := (by repeat' (first | exact Below.refl _ _ | refine Below.alloc ?_ ?_ _ | refine Below.setCell ?_ ?_ _ | refine Below.drew ?_ | (apply below_step; assumption) | (simp; done) | (simp; omega) | omega))
        go_wp2_with fail
        go_ret2
        rw [HG.out, HX.out]
        exact ⟨rfl, hB1⟩

theorem hasAllOf_yes {a r : List LV} {x : LV} (h1 : (findK a x.k).2 = true) (h2 : (findK a x.k).1 = x.v) : hasAllOf a (x :: r) = hasAllOf a r := by simp [hasAllOf, h1, h2]
theorem hasAllOf_no1 {a r : List LV} {x : LV} (h1 : (findK a x.k).2 = false) : hasAllOf a (x :: r) = false := by simp [hasAllOf, h1]
theorem hasAllOf_no2 {a r : List LV} {x : LV} (h2 : (findK a x.k).1 ≠ x.v) : hasAllOf a (x :: r) = false := by simp [hasAllOf, h2]
theorem matchOf_both {a b : List LV} (ha : labsOk a = true) (hb : labsOk b = true) : matchOf a b = hasAllOf a b := by simp [matchOf, ha, hb]

set_option maxHeartbeats 1600000 in
theorem sLabsMatch_any (v1 v2 : Value) (a b : List LV) (w : World) (h1 : LabSl w v1 a) (h2 : LabSl w v2 b) (hl1 : a.length ≤ 1048576) (hl2 : b.length ≤ 1048576) :
    Calls Tryz.prog 192 #[v1, v2] w fun e w' => e = .returned (.bool (matchOf a b)) ∧ Below w.heap.size w w' := by
  have r1 := sLabsOk_any v1 a w h1 hl1
  have r2 := fun w1 (hb : Below w.heap.size w w1) => sLabsOk_any v2 b w1 (h2.below hb) hl2
  have r3 := fun key w1 (hb : Below w.heap.size w w1) => sLabsGet_any v1 a key w1 (h1.below hb) hl1
  cases ha : labsOk a
  · rw [ha] at r1
    have R1 := Lib.hid r1
    have HM := Lib.hid (matchOf_no1 (b := b) ha)
    clear r1 r2 r3 ha h1 h2
    go_enter Tryz.func192, Tryz.ntmps192
    go_wp2_with fail
    refine R1.out.mono ?_
    rintro e w1 ⟨rfl, hb1⟩
    have hz1 := hb1.size
    go_wp2_with fail
    go_ret
    rw [HM.out]
    exact ⟨rfl, hb1⟩
  · rw [ha] at r1
    cases hb : labsOk b
    · rw [hb] at r2
      have R1 := Lib.hid r1
      have R2 := Lib.hid r2
      have HM := Lib.hid (matchOf_no2 (a := a) hb)
      clear r1 r2 r3 ha hb h1 h2
      go_enter Tryz.func192, Tryz.ntmps192
      go_wp2_with fail
      refine R1.out.mono ?_
      rintro e w1 ⟨rfl, hb1⟩
      have hz1 := hb1.size
      go_wp2_with fail
      refine (R2.out w1 hb1).mono ?_
      rintro e w2 ⟨rfl, hb2⟩
      have hz2 := hb2.size
      go_wp2_with fail
      go_ret
      rw [HM.out]
      exact ⟨rfl, (by repeat' (first | exact Below.refl _ _ | refine Below.alloc ?_ ?_ _ | refine Below.setCell ?_ ?_ _ | refine Below.drew ?_ | (apply below_step; assumption) | (simp; done) | (simp; omega) | omega))⟩
    · rw [hb] at r2
      have R1 := Lib.hid r1
      have R2 := Lib.hid r2
      have R3 := Lib.hid r3
      have HM := Lib.hid (matchOf_both ha hb)
      have HG := Lib.hid (fun k => getOf_yes (k := k) ha)
      obtain ⟨A, c, rfl, hA⟩ := h2.form
      have HA := Lib.hid hA
      clear r1 r2 r3 ha hb hA h1 h2
      go_enter Tryz.func192, Tryz.ntmps192
      go_wp2_with fail
      refine R1.out.mono ?_
      rintro e w1 ⟨rfl, hb1⟩
      have hz1 := hb1.size
      go_wp2_with fail
      refine (R2.out w1 hb1).mono ?_
      rintro e w2 ⟨rfl, hb2⟩
      have hz2 := hb2.size
      have hB2 : Below w.heap.size w w2 := (by repeat' (first | exact Below.refl _ _ | refine Below.alloc ?_ ?_ _ | refine Below.setCell ?_ ?_ _ | refine Below.drew ?_ | (apply below_step; assumption) | (simp; done) | (simp; omega) | omega))
      go_wp2_with fail
      go_loopw [5] (fun s5 wr => ∃ (k : Nat), k ≤ b.length ∧ s5 = .int .i64 k ∧ hasAllOf a b = hasAllOf a (b.drop k) ∧ Below w.heap.size w wr) (fun s5 _ => (b.length - intOf s5).toNat)
      case atStart => exact ⟨0, by omega, rfl, by rw [List.drop_zero], hB2⟩
      case round =>
        obtain ⟨k, hk, rfl, hF, hB⟩ := hrel
        have HF := Lib.hid hF
        have hzr := hB.size
        clear hF
        by_cases hlt : k < b.length
        · obtain ⟨g, off, rfl, hbw, hat⟩ := HA.out (by omega)
          obtain ⟨r, hr⟩ : ∃ r, b[k]? = some r := ⟨_, List.getElem?_eq_getElem hlt⟩
          have HD := Lib.hid (drop_at hr)
          have hlti : (k : Int) < (b.length : Int) := by omega
          obtain ⟨q0, q1⟩ := (hat.below hB hbw) k r hr
          have HAT := Lib.hid hat
          have HRR := Lib.hid hr
          clear hat hr
          have r3 := R3.out r.k
          rw [HG.out] at r3
          cases hf : (findK a r.k).2
          · have HN := Lib.hid (hasAllOf_no1 (r := b.drop (k + 1)) hf)
            rw [show findK a r.k = ((findK a r.k).1, false) by rw [← hf]] at r3
            have R := Lib.hid r3
            generalize (findK a r.k).1 = z at R
            clear r3 hf
            go_wp2_with fail
            refine (R.out wr hB).mono ?_
            rintro e w3 ⟨rfl, hb3⟩
            have hz3 := hb3.size
            go_wp2_with fail
            go_ret
            rw [HM.out, HF.out, HD.out, HN.out]
            exact ⟨rfl, (by repeat' (first | exact Below.refl _ _ | refine Below.alloc ?_ ?_ _ | refine Below.setCell ?_ ?_ _ | refine Below.drew ?_ | (apply below_step; assumption) | (simp; done) | (simp; omega) | omega))⟩
          · by_cases hv : (findK a r.k).1 = r.v
            · have HN := Lib.hid (hasAllOf_yes (r := b.drop (k + 1)) hf hv)
              rw [show findK a r.k = (r.v, true) by rw [← hf, ← hv]] at r3
              have R := Lib.hid r3
              clear r3 hf hv
              go_wp2_with fail
              refine (R.out wr hB).mono ?_
              rintro e w3 ⟨rfl, hb3⟩
              have hz3 := hb3.size
              have hB3 : Below w.heap.size w w3 := (by repeat' (first | exact Below.refl _ _ | refine Below.alloc ?_ ?_ _ | refine Below.setCell ?_ ?_ _ | refine Below.drew ?_ | (apply below_step; assumption) | (simp; done) | (simp; omega) | omega))
              obtain ⟨p0, p1⟩ := (HAT.out.below hB3 hbw) k r HRR.out
              have hne : (r.v != r.v) = false := by simp
              go_wp2_with fail
              go_roundw
              case rel =>
                refine ⟨k + 1, by omega, by go_num, ?_, hB3⟩
                rw [HF.out, HD.out, HN.out]
              case measure => simp [intOf]; omega
            · have HN := Lib.hid (hasAllOf_no2 (r := b.drop (k + 1)) hv)
              rw [show findK a r.k = ((findK a r.k).1, true) by rw [← hf]] at r3
              have R := Lib.hid r3
              have HV := Lib.hid hv
              generalize (findK a r.k).1 = z at R HV
              clear r3 hf hv
              go_wp2_with fail
              refine (R.out wr hB).mono ?_
              rintro e w3 ⟨rfl, hb3⟩
              have hz3 := hb3.size
              have hB3 : Below w.heap.size w w3 := (by repeat' (first | exact Below.refl _ _ | refine Below.alloc ?_ ?_ _ | refine Below.setCell ?_ ?_ _ | refine Below.drew ?_ | (apply below_step; assumption) | (simp; done) | (simp; omega) | omega))
              obtain ⟨p0, p1⟩ := (HAT.out.below hB3 hbw) k r HRR.out
              have hne : (z != r.v) = true := by simpa using HV.out
              go_wp2_with fail
              go_ret
              rw [HM.out, HF.out, HD.out, HN.out]
              exact ⟨rfl, hB3⟩
        · have hkl : k = b.length := by omega
          have HX : Hid (hasAllOf a b = true) := by
            show _ = _
            rw [HF.out, hkl, List.drop_length]; rfl
          clear hkl
          go_wp2_with fail
          go_ret
          rw [HM.out, HX.out]
          exact ⟨rfl, hB⟩
end Go.Proofs.YtcegofdmdemcbaaGreatDoor

namespace Go.Proofs.YtcegofdmdemcbaaGreatDoor
open Go.RowKit

theorem sTaintsOk_long (A : Option Addr) (n c : Nat) (w : World) (h : 6 < n) (hm : n ≤ 1048576) :
    Calls Tryz.prog 171 #[.slice A n c] w fun e w' => e = .returned (.bool false) ∧ Below w.heap.size w w' := by
  have h6 : (6 : Int) < (n : Int) := by omega
  go_enter Tryz.func171, Tryz.ntmps171
  go_wp2_with fail
  go_ret
  exact ⟨rfl, (by repeat' (first | exact Below.refl _ _ | refine Below.alloc ?_ ?_ _ | refine Below.setCell ?_ ?_ _ | refine Below.drew ?_ | (apply below_step; assumption) | (simp; done) | (simp; omega) | omega))⟩

def lastT (l : List Int) (k : Nat) : Int := if k = 0 then -1 else l.getD (k - 1) 0
theorem tl_cons (z : Int) (r : List Int) : tl (z :: r) = ⟨z, 0⟩ :: tl r := rfl

set_option maxHeartbeats 3200000 in
theorem sTaintsOk_short (v : Value) (l : List Int) (w : World) (hv : IntSl w v l) (hlen : l.length ≤ 6) :
    Calls Tryz.prog 171 #[v] w fun e w' => e = .returned (.bool (labsOk (tl l))) ∧ Below w.heap.size w w' := by
  obtain ⟨A, c, rfl, hA⟩ := hv.form
  have HA := Lib.hid hA
  have HO := Lib.hid (labsOk_short (l := tl l) (by rw [tl_len]; exact hlen))
  clear hA hv
  have hl6 : (l.length : Int) ≤ 6 := by omega
  go_enter Tryz.func171, Tryz.ntmps171
  go_wp2_with fail
  go_loopw [3] (fun s3 wr => ∃ (k : Nat), k ≤ l.length ∧ s3 = .int .i64 k ∧ labsFrom (-1) (tl l) = labsFrom (lastT l k) (tl (l.drop k)) ∧ Below w.heap.size w wr) (fun s3 _ => (l.length - intOf s3).toNat)
  case atStart => exact ⟨0, by omega, rfl, by rw [List.drop_zero]; rfl, Below.refl _ _⟩
  case round =>
    obtain ⟨k, hk, rfl, hF, hB⟩ := hrel
    have HF := Lib.hid hF
    have hzr := hB.size
    clear hF
    by_cases hlt : k < l.length
    · obtain ⟨b, off, rfl, hbw, hat⟩ := HA.out (by omega)
      obtain ⟨r, hr⟩ : ∃ r, l[k]? = some r := ⟨_, List.getElem?_eq_getElem hlt⟩
      have HD := Lib.hid ((congrArg tl (dropI_at hr)).trans (tl_cons r _))
      have HN : Hid (lastT l (k + 1) = r) := by
        show _ = _
        simp [lastT, List.getD, hr]
      have q0 := (hat.below hB hbw) k r hr
      have hlti : (k : Int) < (l.length : Int) := by omega
      have hbr : b < wr.heap.size := by omega
      rcases (show r < 0 ∨ (0 ≤ r ∧ 9 < r) ∨ (0 ≤ r ∧ r ≤ 9) by omega) with g | g | g
      case inr.inr =>
        obtain ⟨g0, g1⟩ := g
        have HR : Hid (LV.ok ⟨r, 0⟩ = true) := LV.ok_iff.2 ⟨g0, g1, by simp, by simp⟩
        have b0 : decide (r < 0) = false := by simp; omega
        have b1 : decide (9 < r) = false := by simp; omega
        by_cases hk0 : k = 0
        · have HL : Hid (lastT l k < r) := by
            show _ < _
            rw [hk0]; simp [lastT]; omega
          have hkb : decide (0 < k) = false := by simp; omega
          clear hat hr hk0 g0 g1
          go_wp2_with fail
          go_quiet (fail)
          go_wp2_with fail
          go_roundw
          case rel =>
            refine ⟨k + 1, by omega, by go_num, ?_, (by repeat' (first | exact Below.refl _ _ | refine Below.alloc ?_ ?_ _ | refine Below.setCell ?_ ?_ _ | refine Below.drew ?_ | refine below_drewN ?_ _ | (apply below_step; assumption) | (simp; done) | (simp; omega) | omega))⟩
            rw [HF.out, HD.out, HN.out, labsFrom_yes HR.out HL.out]
          case measure => simp [intOf]; omega
        · obtain ⟨q, hq⟩ : ∃ q, l[k - 1]? = some q := ⟨_, List.getElem?_eq_getElem (by omega)⟩
          have p0 := (hat.below hB hbw) (k - 1) q hq
          have HL : Hid (lastT l k = q) := by
            show _ = _
            simp [lastT, List.getD, hq, hk0]
          have hkb : decide (0 < k) = true := by simp; omega
          have n1 : (0 : Int) ≤ (k : Int) - 1 := by omega
          have n2 : (1 : Int) ≤ (k : Int) := by omega
          have n3 : (k : Int) - 1 < (l.length : Int) := by omega
          have n4 : ((k : Int) - 1).toNat = k - 1 := by omega
          have n5 : IntKind.i64.wrap ((k : Int) - 1) = (k : Int) - 1 := IntWalk.i64_in _ (by omega)
          by_cases hle : r ≤ q
          · have HLE := Lib.hid hle
            have b4 : decide (r ≤ q) = true := by simpa using hle
            clear hat hr hk0 g0 g1 hq hle
            go_wp2_with fail
            go_quiet (fail)
            go_wp2_with fail
            have HX : Hid (labsOk (tl l) = false) := by
              show _ = _
              rw [HO.out, HF.out, HD.out, labsFrom_low (by rw [HL.out]; exact HLE.out)]
            go_ret
            rw [HX.out]
            exact ⟨rfl, (by repeat' (first | exact Below.refl _ _ | refine Below.alloc ?_ ?_ _ | refine Below.setCell ?_ ?_ _ | refine Below.drew ?_ | refine below_drewN ?_ _ | (apply below_step; assumption) | (simp; done) | (simp; omega) | omega))⟩
          · have HLE := Lib.hid (show q < r by omega)
            have b4 : decide (r ≤ q) = false := by simp; omega
            clear hat hr hk0 g0 g1 hq hle
            go_wp2_with fail
            go_quiet (fail)
            go_wp2_with fail
            clear n4 n5
            go_roundw
            case rel =>
              refine ⟨k + 1, by omega, by go_num, ?_, (by repeat' (first | exact Below.refl _ _ | refine Below.alloc ?_ ?_ _ | refine Below.setCell ?_ ?_ _ | refine Below.drew ?_ | refine below_drewN ?_ _ | (apply below_step; assumption) | (simp; done) | (simp; omega) | omega))⟩
              rw [HF.out, HD.out, HN.out, labsFrom_yes HR.out (by rw [HL.out]; exact HLE.out)]
            case measure => simp [intOf]; omega
      · have HR : Hid (LV.ok ⟨r, 0⟩ = false) := LV.bad_iff.2 (fun h => by have := h.1; simp at this; omega)
        have b0 : decide (r < 0) = true := by simp; omega
        clear hat hr g
        go_wp2_with fail
        go_quiet (fail)
        go_wp2_with fail
        have HX : Hid (labsOk (tl l) = false) := by
          show _ = _
          rw [HO.out, HF.out, HD.out, labsFrom_bad HR.out]
        go_ret
        rw [HX.out]
        exact ⟨rfl, (by repeat' (first | exact Below.refl _ _ | refine Below.alloc ?_ ?_ _ | refine Below.setCell ?_ ?_ _ | refine Below.drew ?_ | refine below_drewN ?_ _ | (apply below_step; assumption) | (simp; done) | (simp; omega) | omega))⟩
      · have HR : Hid (LV.ok ⟨r, 0⟩ = false) := LV.bad_iff.2 (fun h => by have := h.2.1; simp at this; omega)
        have b0 : decide (r < 0) = false := by simp; omega
        have b1 : decide (9 < r) = true := by simp; omega
        clear hat hr g
        go_wp2_with fail
        go_quiet (fail)
        go_wp2_with fail
        have HX : Hid (labsOk (tl l) = false) := by
          show _ = _
          rw [HO.out, HF.out, HD.out, labsFrom_bad HR.out]
        go_ret
        rw [HX.out]
        exact ⟨rfl, (by repeat' (first | exact Below.refl _ _ | refine Below.alloc ?_ ?_ _ | refine Below.setCell ?_ ?_ _ | refine Below.drew ?_ | refine below_drewN ?_ _ | (apply below_step; assumption) | (simp; done) | (simp; omega) | omega))⟩
    · have hkl : k = l.length := by omega
      have HX : Hid (labsOk (tl l) = true) := by
        show _ = _
        rw [HO.out, HF.out, hkl, List.drop_length]; rfl
      clear hkl
      go_wp2_with fail
      go_ret
      rw [HX.out]
      exact ⟨rfl, hB⟩
theorem sTaintsOk_any (v : Value) (l : List Int) (w : World) (hv : IntSl w v l) (hlen : l.length ≤ 1048576) :
    Calls Tryz.prog 171 #[v] w fun e w' => e = .returned (.bool (labsOk (tl l))) ∧ Below w.heap.size w w' := by
  by_cases h : l.length ≤ 6
  · exact sTaintsOk_short v l w hv h
  · obtain ⟨A, c, rfl, _⟩ := hv.form
    rw [labsOk_long (by rw [tl_len]; omega)]
    exact sTaintsOk_long A l.length c w (by omega) hlen

def inIntsL : List Int → Int → Bool
  | [], _ => false
  | y :: r, z => if y = z then true else inIntsL r z
theorem inIntsL_hit {y z : Int} {r : List Int} (h : y = z) : inIntsL (y :: r) z = true := by simp [inIntsL, h]
theorem inIntsL_miss {y z : Int} {r : List Int} (h : y ≠ z) : inIntsL (y :: r) z = inIntsL r z := by simp [inIntsL, h]
theorem find_tl (b : List Int) (z : Int) : findK (tl b) z = (0, inIntsL b z) := by
  induction b with
  | nil => rfl
  | cons y r ih =>
    rw [tl_cons]
    by_cases h : y = z
    · rw [findK_hit h, inIntsL_hit h]
    · rw [findK_miss h, inIntsL_miss h, ih]

set_option maxHeartbeats 1600000 in
theorem l02In_any (v : Value) (l : List Int) (z : Int) (w : World) (hv : IntSl w v l) (hlen : l.length ≤ 1048576) :
    Calls Tryz.prog 205 #[v, .int .i64 z] w fun e w' => e = .returned (.bool (inIntsL l z)) ∧ Below w.heap.size w w' := by
  obtain ⟨A, c, rfl, hA⟩ := hv.form
  have HA := Lib.hid hA
  clear hA hv
  go_enter Tryz.func205, Tryz.ntmps205
  go_wp2_with fail
  go_loopw [5] (fun s5 wr => ∃ (k : Nat), k ≤ l.length ∧ s5 = .int .i64 k ∧ inIntsL l z = inIntsL (l.drop k) z ∧ Below w.heap.size w wr) (fun s5 _ => (l.length - intOf s5).toNat)
  case atStart => exact ⟨0, by omega, rfl, by rw [List.drop_zero], Below.refl _ _⟩
  case round =>
    obtain ⟨k, hk, rfl, hF, hB⟩ := hrel
    have HF := Lib.hid hF
    have hzr := hB.size
    clear hF
    by_cases hlt : k < l.length
    · obtain ⟨b, off, rfl, hbw, hat⟩ := HA.out (by omega)
      obtain ⟨r, hr⟩ : ∃ r, l[k]? = some r := ⟨_, List.getElem?_eq_getElem hlt⟩
      have HD := Lib.hid (dropI_at hr)
      have hlti : (k : Int) < (l.length : Int) := by omega
      have q0 := (hat.below hB hbw) k r hr
      clear hat hr
      by_cases hkk : r = z
      · have HK := Lib.hid hkk
        have hkb : (r == z) = true := by simpa using hkk
        clear hkk
        go_wp2_with fail
        go_ret
        rw [HF.out, HD.out, inIntsL_hit HK.out]
        exact ⟨rfl, hB⟩
      · have HK := Lib.hid hkk
        have hkb : (r == z) = false := by simpa using hkk
        clear hkk
        go_wp2_with fail
        go_roundw
        case rel =>
          refine ⟨k + 1, by omega, by go_num, ?_, hB⟩
          rw [HF.out, HD.out, inIntsL_miss HK.out]
        case measure => simp [intOf]; omega
    · have hkl : k = l.length := by omega
      have HX : Hid (inIntsL l z = false) := by
        show _ = _
        rw [HF.out, hkl, List.drop_length]; rfl
      clear hkl
      go_wp2_with fail
      go_ret
      rw [HX.out]
      exact ⟨rfl, hB⟩

theorem tolHas_yes {b r : List Int} {z : Int} (h : inIntsL b z = true) : hasAllOf (tl b) (tl (z :: r)) = hasAllOf (tl b) (tl r) := by
  rw [tl_cons, hasAllOf_yes (by rw [find_tl]; exact h) (by rw [find_tl])]
theorem tolHas_no {b r : List Int} {z : Int} (h : inIntsL b z = false) : hasAllOf (tl b) (tl (z :: r)) = false := by
  rw [tl_cons, hasAllOf_no1 (by rw [find_tl]; exact h)]

set_option maxHeartbeats 1600000 in
theorem sTolerates_any (v1 v2 : Value) (a b : List Int) (w : World) (h1 : IntSl w v1 a) (h2 : IntSl w v2 b) (hl1 : a.length ≤ 1048576) (hl2 : b.length ≤ 1048576) :
    Calls Tryz.prog 193 #[v1, v2] w fun e w' => e = .returned (.bool (tolOf a b)) ∧ Below w.heap.size w w' := by
  have r1 := sTaintsOk_any v1 a w h1 hl1
  have r2 := fun w1 (hb : Below w.heap.size w w1) => sTaintsOk_any v2 b w1 (h2.below hb) hl2
  have r3 := fun z w1 (hb : Below w.heap.size w w1) => l02In_any v2 b z w1 (h2.below hb) hl2
  unfold tolOf
  cases ha : labsOk (tl a)
  · rw [ha] at r1
    have R1 := Lib.hid r1
    have HM := Lib.hid (matchOf_no2 (a := tl b) ha)
    clear r1 r2 r3 ha h1 h2
    go_enter Tryz.func193, Tryz.ntmps193
    go_wp2_with fail
    refine R1.out.mono ?_
    rintro e w1 ⟨rfl, hb1⟩
    have hz1 := hb1.size
    go_wp2_with fail
    go_ret
    rw [HM.out]
    exact ⟨rfl, hb1⟩
  · rw [ha] at r1
    cases hb : labsOk (tl b)
    · rw [hb] at r2
      have R1 := Lib.hid r1
      have R2 := Lib.hid r2
      have HM := Lib.hid (matchOf_no1 (b := tl a) hb)
      clear r1 r2 r3 ha hb h1 h2
      go_enter Tryz.func193, Tryz.ntmps193
      go_wp2_with fail
      refine R1.out.mono ?_
      rintro e w1 ⟨rfl, hb1⟩
      have hz1 := hb1.size
      go_wp2_with fail
      refine (R2.out w1 hb1).mono ?_
      rintro e w2 ⟨rfl, hb2⟩
      have hz2 := hb2.size
      go_wp2_with fail
      go_ret
      rw [HM.out]
      exact ⟨rfl, (by repeat' (first | exact Below.refl _ _ | refine Below.alloc ?_ ?_ _ | refine Below.setCell ?_ ?_ _ | refine Below.drew ?_ | (apply below_step; assumption) | (simp; done) | (simp; omega) | omega))⟩
    · rw [hb] at r2
      have R1 := Lib.hid r1
      have R2 := Lib.hid r2
      have R3 := Lib.hid r3
      have HM := Lib.hid (matchOf_both hb ha)
      obtain ⟨A, c, rfl, hA⟩ := h1.form
      have HA := Lib.hid hA
      clear r1 r2 r3 ha hb hA h1 h2
      go_enter Tryz.func193, Tryz.ntmps193
      go_wp2_with fail
      refine R1.out.mono ?_
      rintro e w1 ⟨rfl, hb1⟩
      have hz1 := hb1.size
      go_wp2_with fail
      refine (R2.out w1 hb1).mono ?_
      rintro e w2 ⟨rfl, hb2⟩
      have hz2 := hb2.size
      have hB2 : Below w.heap.size w w2 := (by repeat' (first | exact Below.refl _ _ | refine Below.alloc ?_ ?_ _ | refine Below.setCell ?_ ?_ _ | refine Below.drew ?_ | (apply below_step; assumption) | (simp; done) | (simp; omega) | omega))
      go_wp2_with fail
      go_loopw [5] (fun s5 wr => ∃ (k : Nat), k ≤ a.length ∧ s5 = .int .i64 k ∧ hasAllOf (tl b) (tl a) = hasAllOf (tl b) (tl (a.drop k)) ∧ Below w.heap.size w wr) (fun s5 _ => (a.length - intOf s5).toNat)
      case atStart => exact ⟨0, by omega, rfl, by rw [List.drop_zero], hB2⟩
      case round =>
        obtain ⟨k, hk, rfl, hF, hB⟩ := hrel
        have HF := Lib.hid hF
        have hzr := hB.size
        clear hF
        by_cases hlt : k < a.length
        · obtain ⟨g, off, rfl, hbw, hat⟩ := HA.out (by omega)
          obtain ⟨r, hr⟩ : ∃ r, a[k]? = some r := ⟨_, List.getElem?_eq_getElem hlt⟩
          have HD := Lib.hid (dropI_at hr)
          have hlti : (k : Int) < (a.length : Int) := by omega
          have q0 := (hat.below hB hbw) k r hr
          clear hat hr
          have r3 := R3.out r
          cases hf : inIntsL b r
          · rw [hf] at r3
            have HN := Lib.hid (tolHas_no (r := a.drop (k + 1)) hf)
            have R := Lib.hid r3
            clear r3 hf
            go_wp2_with fail
            refine (R.out wr hB).mono ?_
            rintro e w3 ⟨rfl, hb3⟩
            have hz3 := hb3.size
            go_wp2_with fail
            go_ret
            rw [HM.out, HF.out, HD.out, HN.out]
            exact ⟨rfl, (by repeat' (first | exact Below.refl _ _ | refine Below.alloc ?_ ?_ _ | refine Below.setCell ?_ ?_ _ | refine Below.drew ?_ | (apply below_step; assumption) | (simp; done) | (simp; omega) | omega))⟩
          · rw [hf] at r3
            have HN := Lib.hid (tolHas_yes (r := a.drop (k + 1)) hf)
            have R := Lib.hid r3
            clear r3 hf
            go_wp2_with fail
            refine (R.out wr hB).mono ?_
            rintro e w3 ⟨rfl, hb3⟩
            have hz3 := hb3.size
            have hB3 : Below w.heap.size w w3 := (by repeat' (first | exact Below.refl _ _ | refine Below.alloc ?_ ?_ _ | refine Below.setCell ?_ ?_ _ | refine Below.drew ?_ | (apply below_step; assumption) | (simp; done) | (simp; omega) | omega))
            go_wp2_with fail
            go_roundw
            case rel =>
              refine ⟨k + 1, by omega, by go_num, ?_, hB3⟩
              rw [HF.out, HD.out, HN.out]
            case measure => simp [intOf]; omega
        · have hkl : k = a.length := by omega
          have HX : Hid (hasAllOf (tl b) (tl a) = true) := by
            show _ = _
            rw [HF.out, hkl, List.drop_length]; rfl
          clear hkl
          go_wp2_with fail
          go_ret
          rw [HM.out, HX.out]
          exact ⟨rfl, hB⟩
end Go.Proofs.YtcegofdmdemcbaaGreatDoor

namespace Go.Proofs.YtcegofdmdemcbaaGreatDoor
open Go.RowKit

theorem sId_any (n : Int) (w : World) : Calls Tryz.prog 125 #[.int .i64 n] w fun e w' => e = .returned (.bool (idOk n)) ∧ w = w' := by
  by_cases h1 : 1 ≤ n
  · by_cases h2 : n ≤ 99
    · have H := Lib.hid (idOk_iff.2 ⟨h1, h2⟩)
      go_enter Tryz.func125, Tryz.ntmps125
      go_wp2
      go_ret
      exact ⟨by rw [H.out]; simp, rfl⟩
    · have H := Lib.hid (idBad_iff.2 (fun h => h2 h.2))
      have h3 : 99 < n := by omega
      clear h2
      go_enter Tryz.func125, Tryz.ntmps125
      go_wp2
      go_ret
      exact ⟨by rw [H.out]; simp; omega, rfl⟩
  · have H := Lib.hid (idBad_iff.2 (fun h => h1 h.1))
    have h2 : n < 1 := by omega
    clear h1
    go_enter Tryz.func125, Tryz.ntmps125
    go_wp2
    go_ret
    exact ⟨by rw [H.out]; rfl, rfl⟩

set_option maxHeartbeats 1600000 in
theorem sTaskOk_any (t : TV) (v1 v2 : Value) (w : World) (h1 : LabSl w v1 t.want) (h2 : IntSl w v2 t.tols) (l1 : t.want.length ≤ 1048576) (l2 : t.tols.length ≤ 1048576) :
    Calls Tryz.prog 119 #[.agg #[.int .i64 t.id, .int .i64 t.prio, .int .i64 t.need.c, .int .i64 t.need.m, .int .i64 t.need.p, v1, v2]] w fun e w' => e = .returned (.bool t.ok) ∧ Below w.heap.size w w' := by
  have HL := Lib.hid h1
  have HI := Lib.hid h2
  have HE := Lib.hid (tv_ok_eq t)
  have hid := sId_any t.id
  have hne : ∀ w, Calls Tryz.prog 169 #[.agg #[.int .i64 t.need.c, .int .i64 t.need.m, .int .i64 t.need.p]] w fun e w' => e = .returned (.bool t.need.ok) ∧ Below w.heap.size w w' := fun w => sResOk_any t.need w
  have hla : ∀ w (h : LabSl w v1 t.want), Calls Tryz.prog 170 #[v1] w fun e w' => e = .returned (.bool (labsOk t.want)) ∧ Below w.heap.size w w' := fun w h => sLabsOk_any v1 t.want w h l1
  have hta : ∀ w (h : IntSl w v2 t.tols), Calls Tryz.prog 171 #[v2] w fun e w' => e = .returned (.bool (labsOk (tl t.tols))) ∧ Below w.heap.size w w' := fun w h => sTaintsOk_any v2 t.tols w h l2
  generalize t.ok = ok at *
  generalize e1 : idOk t.id = b1 at hid
  generalize e2 : decide (0 ≤ t.prio) = b2
  generalize e3 : decide (t.prio ≤ 9) = b3
  generalize e4 : t.need.ok = b4 at hne
  generalize e5 : labsOk t.want = b5 at hla
  generalize e6 : labsOk (tl t.tols) = b6 at hta
  have HE' := Lib.hid (HE.out _ _ _ _ _ _ e1 e2 e3 e4 e5 e6)
  have HID := Lib.hid hid
  have HNE := Lib.hid hne
  have HLA := Lib.hid hla
  have HTA := Lib.hid hta
  clear h1 h2 hid hne hla hta e1 e4 e5 e6 HE l1 l2
  go_enter Tryz.func119, Tryz.ntmps119
  go_wp2_with fail
  refine (HID.out _).mono ?_
  rintro e w1 ⟨rfl, rfl⟩
  cases b1
  · go_wp2_with fail
    go_ret
    exact ⟨by rw [HE'.out]; simp, (by repeat' (first | exact Below.refl _ _ | refine Below.alloc ?_ ?_ _ | refine Below.setCell ?_ ?_ _ | refine Below.drew ?_ | (apply below_step; assumption) | (simp; done) | (simp; omega) | omega))⟩
  cases b2
  · go_wp2_with fail
    go_ret
    exact ⟨by rw [HE'.out]; simp, (by repeat' (first | exact Below.refl _ _ | refine Below.alloc ?_ ?_ _ | refine Below.setCell ?_ ?_ _ | refine Below.drew ?_ | (apply below_step; assumption) | (simp; done) | (simp; omega) | omega))⟩
  cases b3
  · go_wp2_with fail
    go_ret
    exact ⟨by rw [HE'.out]; simp, (by repeat' (first | exact Below.refl _ _ | refine Below.alloc ?_ ?_ _ | refine Below.setCell ?_ ?_ _ | refine Below.drew ?_ | (apply below_step; assumption) | (simp; done) | (simp; omega) | omega))⟩
  go_wp2_with fail
  refine (HNE.out _).mono ?_
  rintro e w2 ⟨rfl, hb2⟩
  have hz2 := hb2.size
  simp at hz2
  obtain ⟨hc2, hf2⟩ := bcell hb2
  have hC2 : Below w.heap.size w w2 := ((Below.refl _ _).alloc (Nat.le_refl _) _).trans (hb2.mono (by simp))
  cases b4
  · go_wp2_with fail
    go_ret
    exact ⟨by rw [HE'.out]; simp, hC2⟩
  go_wp2_with fail
  refine (HLA.out _ (HL.out.below hC2)).mono ?_
  rintro e w3 ⟨rfl, hb3⟩
  have hz3 := hb3.size
  obtain ⟨hc3, hf3⟩ := bcell hb3
  have hs2 : w.heap.size < w2.heap.size := by omega
  have hC3 : Below w.heap.size w w3 := hC2.trans (hb3.mono hC2.size)
  cases b5
  · go_wp2_with fail
    go_ret
    exact ⟨by rw [HE'.out]; simp, hC3⟩
  go_wp2_with fail
  refine (HTA.out _ (HI.out.below hC3)).mono ?_
  rintro e w4 ⟨rfl, hb4⟩
  have hC4 : Below w.heap.size w w4 := hC3.trans (hb4.mono hC3.size)
  go_wp2_with fail
  go_ret
  exact ⟨by rw [HE'.out]; simp, hC4⟩
set_option maxHeartbeats 1600000 in
theorem sNodeOk_any (t : NV) (v1 v2 : Value) (w : World) (h1 : LabSl w v1 t.labs) (h2 : IntSl w v2 t.taints) (l1 : t.labs.length ≤ 1048576) (l2 : t.taints.length ≤ 1048576) :
    Calls Tryz.prog 121 #[.agg #[.int .i64 t.id, .int .i64 t.pool, .int .i64 t.cap.c, .int .i64 t.cap.m, .int .i64 t.cap.p, v1, v2, .bool t.cordon]] w fun e w' => e = .returned (.bool t.ok) ∧ Below w.heap.size w w' := by
  have HL := Lib.hid h1
  have HI := Lib.hid h2
  have HE := Lib.hid (nv_ok_eq t)
  have hid := sId_any t.id
  have hne : ∀ w, Calls Tryz.prog 169 #[.agg #[.int .i64 t.cap.c, .int .i64 t.cap.m, .int .i64 t.cap.p]] w fun e w' => e = .returned (.bool t.cap.ok) ∧ Below w.heap.size w w' := fun w => sResOk_any t.cap w
  have hla : ∀ w (h : LabSl w v1 t.labs), Calls Tryz.prog 170 #[v1] w fun e w' => e = .returned (.bool (labsOk t.labs)) ∧ Below w.heap.size w w' := fun w h => sLabsOk_any v1 t.labs w h l1
  have hta : ∀ w (h : IntSl w v2 t.taints), Calls Tryz.prog 171 #[v2] w fun e w' => e = .returned (.bool (labsOk (tl t.taints))) ∧ Below w.heap.size w w' := fun w h => sTaintsOk_any v2 t.taints w h l2
  generalize t.ok = ok at *
  generalize e1 : idOk t.id = b1 at hid
  generalize e2 : decide (0 ≤ t.pool) = b2
  generalize e3 : decide (t.pool < 5) = b3
  generalize e4 : t.cap.ok = b4 at hne
  generalize e5 : labsOk t.labs = b5 at hla
  generalize e6 : labsOk (tl t.taints) = b6 at hta
  have HE' := Lib.hid (HE.out _ _ _ _ _ _ e1 e2 e3 e4 e5 e6)
  have HID := Lib.hid hid
  have HNE := Lib.hid hne
  have HLA := Lib.hid hla
  have HTA := Lib.hid hta
  clear h1 h2 hid hne hla hta e1 e4 e5 e6 HE l1 l2
  go_enter Tryz.func121, Tryz.ntmps121
  go_wp2_with fail
  refine (HID.out _).mono ?_
  rintro e w1 ⟨rfl, rfl⟩
  cases b1
  · go_wp2_with fail
    go_ret
    exact ⟨by rw [HE'.out]; simp, (by repeat' (first | exact Below.refl _ _ | refine Below.alloc ?_ ?_ _ | refine Below.setCell ?_ ?_ _ | refine Below.drew ?_ | (apply below_step; assumption) | (simp; done) | (simp; omega) | omega))⟩
  cases b2
  · go_wp2_with fail
    go_ret
    exact ⟨by rw [HE'.out]; simp, (by repeat' (first | exact Below.refl _ _ | refine Below.alloc ?_ ?_ _ | refine Below.setCell ?_ ?_ _ | refine Below.drew ?_ | (apply below_step; assumption) | (simp; done) | (simp; omega) | omega))⟩
  cases b3
  · go_wp2_with fail
    go_ret
    exact ⟨by rw [HE'.out]; simp, (by repeat' (first | exact Below.refl _ _ | refine Below.alloc ?_ ?_ _ | refine Below.setCell ?_ ?_ _ | refine Below.drew ?_ | (apply below_step; assumption) | (simp; done) | (simp; omega) | omega))⟩
  go_wp2_with fail
  refine (HNE.out _).mono ?_
  rintro e w2 ⟨rfl, hb2⟩
  have hz2 := hb2.size
  simp at hz2
  obtain ⟨hc2, hf2⟩ := bcell hb2
  have hC2 : Below w.heap.size w w2 := ((Below.refl _ _).alloc (Nat.le_refl _) _).trans (hb2.mono (by simp))
  cases b4
  · go_wp2_with fail
    go_ret
    exact ⟨by rw [HE'.out]; simp, hC2⟩
  go_wp2_with fail
  refine (HLA.out _ (HL.out.below hC2)).mono ?_
  rintro e w3 ⟨rfl, hb3⟩
  have hz3 := hb3.size
  obtain ⟨hc3, hf3⟩ := bcell hb3
  have hs2 : w.heap.size < w2.heap.size := by omega
  have hC3 : Below w.heap.size w w3 := hC2.trans (hb3.mono hC2.size)
  cases b5
  · go_wp2_with fail
    go_ret
    exact ⟨by rw [HE'.out]; simp, hC3⟩
  go_wp2_with fail
  refine (HTA.out _ (HI.out.below hC3)).mono ?_
  rintro e w4 ⟨rfl, hb4⟩
  have hC4 : Below w.heap.size w w4 := hC3.trans (hb4.mono hC3.size)
  go_wp2_with fail
  go_ret
  exact ⟨by rw [HE'.out]; simp, hC4⟩


theorem hosts_eq (n : NV) (t : TV) (b3 b4 : Bool) (h3 : matchOf n.labs t.want = b3) (h4 : tolOf n.taints t.tols = b4) : hosts n t = (b3 && b4) := by
  subst h3 h4; rfl
set_option maxHeartbeats 1600000 in
theorem sHosts_any (n : NV) (t : TV) (u1 u2 v1 v2 : Value) (w : World) (k1 : LabSl w u1 n.labs) (k2 : IntSl w u2 n.taints) (h1 : LabSl w v1 t.want) (h2 : IntSl w v2 t.tols)
    (m1 : n.labs.length ≤ 1048576) (m2 : n.taints.length ≤ 1048576) (l1 : t.want.length ≤ 1048576) (l2 : t.tols.length ≤ 1048576) :
    Calls Tryz.prog 172 #[.agg #[.int .i64 n.id, .int .i64 n.pool, .int .i64 n.cap.c, .int .i64 n.cap.m, .int .i64 n.cap.p, u1, u2, .bool n.cordon], .agg #[.int .i64 t.id, .int .i64 t.prio, .int .i64 t.need.c, .int .i64 t.need.m, .int .i64 t.need.p, v1, v2]] w fun e w' => e = .returned (.bool (hosts n t)) ∧ Below w.heap.size w w' := by
  have K1 := Lib.hid k1
  have K2 := Lib.hid k2
  have H1 := Lib.hid h1
  have H2 := Lib.hid h2
  have hla : ∀ w (k : LabSl w u1 n.labs) (h : LabSl w v1 t.want), Calls Tryz.prog 192 #[u1, v1] w fun e w' => e = .returned (.bool (matchOf n.labs t.want)) ∧ Below w.heap.size w w' := fun w k h => sLabsMatch_any u1 v1 n.labs t.want w k h m1 l1
  have hta : ∀ w (k : IntSl w u2 n.taints) (h : IntSl w v2 t.tols), Calls Tryz.prog 193 #[u2, v2] w fun e w' => e = .returned (.bool (tolOf n.taints t.tols)) ∧ Below w.heap.size w w' := fun w k h => sTolerates_any u2 v2 n.taints t.tols w k h m2 l2
  have HE := Lib.hid (hosts_eq n t)
  generalize hosts n t = ok at *
  generalize e3 : matchOf n.labs t.want = b3 at hla
  generalize e4 : tolOf n.taints t.tols = b4 at hta
  have HE' := Lib.hid (HE.out _ _ e3 e4)
  have HLA := Lib.hid hla
  have HTA := Lib.hid hta
  clear k1 k2 h1 h2 hla hta e3 e4 HE m1 m2 l1 l2
  go_enter Tryz.func172, Tryz.ntmps172
  go_wp2_with fail
  have hC0 : Below w.heap.size w ((w.alloc (.cells #[.int .i64 n.id, .int .i64 n.pool, .int .i64 n.cap.c, .int .i64 n.cap.m, .int .i64 n.cap.p, u1, u2, .bool n.cordon] 78)).alloc (.cells #[.int .i64 t.id, .int .i64 t.prio, .int .i64 t.need.c, .int .i64 t.need.m, .int .i64 t.need.p, v1, v2] 154)) := (by repeat' (first | exact Below.refl _ _ | refine Below.alloc ?_ ?_ _ | refine Below.setCell ?_ ?_ _ | refine Below.drew ?_ | (apply below_step; assumption) | (simp; done) | (simp; omega) | omega))
  refine (HLA.out _ (K1.out.below hC0) (H1.out.below hC0)).mono ?_
  rintro e w1 ⟨rfl, hb1⟩
  have hz1 := hb1.size
  simp at hz1
  obtain ⟨hc1, hf1⟩ := bcell hb1
  have hC1 : Below w.heap.size w w1 := hC0.trans (hb1.mono hC0.size)
  cases b3
  · go_wp2_with fail
    go_ret
    exact ⟨by rw [HE'.out]; simp, hC1⟩
  go_wp2_with fail
  refine (HTA.out _ (K2.out.below hC1) (H2.out.below hC1)).mono ?_
  rintro e w2 ⟨rfl, hb2⟩
  have hC2 : Below w.heap.size w w2 := hC1.trans (hb2.mono hC1.size)
  go_wp2_with fail
  go_ret
  exact ⟨by rw [HE'.out]; simp, hC2⟩

theorem sch_eq (n : NV) (t : TV) (b1 b2 b3 : Bool) (h1 : n.ok = b1) (h2 : t.ok = b2) (h3 : hosts n t = b3) : canHost n t = (b1 && b2 && b3) := by
  subst h1 h2 h3; rfl
set_option maxHeartbeats 1600000 in
theorem sCanHost_any (n : NV) (t : TV) (u1 u2 v1 v2 : Value) (w : World) (k1 : LabSl w u1 n.labs) (k2 : IntSl w u2 n.taints) (h1 : LabSl w v1 t.want) (h2 : IntSl w v2 t.tols)
    (m1 : n.labs.length ≤ 1048576) (m2 : n.taints.length ≤ 1048576) (l1 : t.want.length ≤ 1048576) (l2 : t.tols.length ≤ 1048576) :
    Calls Tryz.prog 122 #[.agg #[.int .i64 n.id, .int .i64 n.pool, .int .i64 n.cap.c, .int .i64 n.cap.m, .int .i64 n.cap.p, u1, u2, .bool n.cordon], .agg #[.int .i64 t.id, .int .i64 t.prio, .int .i64 t.need.c, .int .i64 t.need.m, .int .i64 t.need.p, v1, v2]] w fun e w' => e = .returned (.bool (canHost n t)) ∧ Below w.heap.size w w' := by
  have K1 := Lib.hid k1
  have K2 := Lib.hid k2
  have H1 := Lib.hid h1
  have H2 := Lib.hid h2
  have hn : ∀ w (h1 : LabSl w u1 n.labs) (h2 : IntSl w u2 n.taints), Calls Tryz.prog 121 #[.agg #[.int .i64 n.id, .int .i64 n.pool, .int .i64 n.cap.c, .int .i64 n.cap.m, .int .i64 n.cap.p, u1, u2, .bool n.cordon]] w fun e w' => e = .returned (.bool n.ok) ∧ Below w.heap.size w w' := fun w h1 h2 => sNodeOk_any n u1 u2 w h1 h2 m1 m2
  have ht : ∀ w (h1 : LabSl w v1 t.want) (h2 : IntSl w v2 t.tols), Calls Tryz.prog 119 #[.agg #[.int .i64 t.id, .int .i64 t.prio, .int .i64 t.need.c, .int .i64 t.need.m, .int .i64 t.need.p, v1, v2]] w fun e w' => e = .returned (.bool t.ok) ∧ Below w.heap.size w w' := fun w h1 h2 => sTaskOk_any t v1 v2 w h1 h2 l1 l2
  have hh : ∀ w (k1 : LabSl w u1 n.labs) (k2 : IntSl w u2 n.taints) (h1 : LabSl w v1 t.want) (h2 : IntSl w v2 t.tols), Calls Tryz.prog 172 #[.agg #[.int .i64 n.id, .int .i64 n.pool, .int .i64 n.cap.c, .int .i64 n.cap.m, .int .i64 n.cap.p, u1, u2, .bool n.cordon], .agg #[.int .i64 t.id, .int .i64 t.prio, .int .i64 t.need.c, .int .i64 t.need.m, .int .i64 t.need.p, v1, v2]] w fun e w' => e = .returned (.bool (hosts n t)) ∧ Below w.heap.size w w' := fun w k1 k2 h1 h2 => sHosts_any n t u1 u2 v1 v2 w k1 k2 h1 h2 m1 m2 l1 l2
  have HE := Lib.hid (sch_eq n t)
  generalize canHost n t = ok at *
  generalize e1 : n.ok = b1 at hn
  generalize e2 : t.ok = b2 at ht
  generalize e3 : hosts n t = b3 at hh
  have HE' := Lib.hid (HE.out _ _ _ e1 e2 e3)
  have HN := Lib.hid hn
  have HT := Lib.hid ht
  have HH := Lib.hid hh
  clear k1 k2 h1 h2 hn ht hh e1 e2 e3 HE m1 m2 l1 l2
  go_enter Tryz.func122, Tryz.ntmps122
  go_wp2_with fail
  have hC0 : Below w.heap.size w ((w.alloc (.cells #[.int .i64 n.id, .int .i64 n.pool, .int .i64 n.cap.c, .int .i64 n.cap.m, .int .i64 n.cap.p, u1, u2, .bool n.cordon] 78)).alloc (.cells #[.int .i64 t.id, .int .i64 t.prio, .int .i64 t.need.c, .int .i64 t.need.m, .int .i64 t.need.p, v1, v2] 154)) := (by repeat' (first | exact Below.refl _ _ | refine Below.alloc ?_ ?_ _ | refine Below.setCell ?_ ?_ _ | refine Below.drew ?_ | (apply below_step; assumption) | (simp; done) | (simp; omega) | omega))
  refine (HT.out _ (H1.out.below hC0) (H2.out.below hC0)).mono ?_
  rintro e w1 ⟨rfl, hb1⟩
  have hz1 := hb1.size
  simp at hz1
  obtain ⟨hc1, hf1⟩ := bcell hb1
  have hC1 : Below w.heap.size w w1 := hC0.trans (hb1.mono hC0.size)
  cases b2
  · go_wp2_with fail
    go_ret
    exact ⟨by rw [HE'.out]; simp, hC1⟩
  go_wp2_with fail
  refine (HN.out _ (K1.out.below hC1) (K2.out.below hC1)).mono ?_
  rintro e w2 ⟨rfl, hb2⟩
  have hz2 := hb2.size
  obtain ⟨hc2, hf2⟩ := bcell hb2
  have hs1 : w.heap.size < w1.heap.size := by omega
  have hs1' : w.heap.size + 1 < w1.heap.size := by omega
  have hC2 : Below w.heap.size w w2 := hC1.trans (hb2.mono hC1.size)
  cases b1
  · go_wp2_with fail
    go_ret
    exact ⟨by rw [HE'.out]; simp, hC2⟩
  go_wp2_with fail
  refine (HH.out _ (K1.out.below hC2) (K2.out.below hC2) (H1.out.below hC2) (H2.out.below hC2)).mono ?_
  rintro e w3 ⟨rfl, hb3⟩
  have hC3 : Below w.heap.size w w3 := hC2.trans (hb3.mono hC2.size)
  go_wp2_with fail
  go_ret
  exact ⟨by rw [HE'.out]; simp, hC3⟩
end Go.Proofs.YtcegofdmdemcbaaGreatDoor

namespace Go.Proofs.YtcegofdmdemcbaaGreatDoor
open Go.RowKit

structure PV where
  id : Int
  min : Int
  max : Int
  prio : Int
  shape : NV
def PV.zero : PV := ⟨0, 0, 0, 0, NV.zero⟩
def PV.ok (p : PV) : Bool := decide (0 ≤ p.id) && decide (p.id < 5) && decide (0 ≤ p.min) && decide (p.min ≤ p.max) && decide (p.max ≤ 20) && decide (0 ≤ p.prio) && decide (p.prio ≤ 9) && p.shape.ok && (p.shape.id == 1) && (p.shape.pool == p.id) && !p.shape.cordon
theorem pv_ok_eq (p : PV) (b1 b2 b3 b4 b5 b6 b7 b8 b9 ba bb : Bool) (h1 : decide (0 ≤ p.id) = b1) (h2 : decide (p.id < 5) = b2) (h3 : decide (0 ≤ p.min) = b3) (h4 : decide (p.min ≤ p.max) = b4) (h5 : decide (p.max ≤ 20) = b5) (h6 : decide (0 ≤ p.prio) = b6) (h7 : decide (p.prio ≤ 9) = b7) (h8 : p.shape.ok = b8) (h9 : (p.shape.id == 1) = b9) (ha : (p.shape.pool == p.id) = ba) (hb : p.shape.cordon = bb) :
    p.ok = (b1 && b2 && b3 && b4 && b5 && b6 && b7 && b8 && b9 && ba && !bb) := by
  subst h1 h2 h3 h4 h5 h6 h7 h8 h9 ha hb; rfl
def PoolR (w : World) (t : PV) (cs : List Value) : Prop := ∃ v1 v2, cs = [.int .i64 t.id, .int .i64 t.min, .int .i64 t.max, .int .i64 t.prio, .int .i64 t.shape.id, .int .i64 t.shape.pool, .int .i64 t.shape.cap.c, .int .i64 t.shape.cap.m, .int .i64 t.shape.cap.p, v1, v2, .bool t.shape.cordon] ∧ LabSl w v1 t.shape.labs ∧ IntSl w v2 t.shape.taints ∧ t.shape.labs.length ≤ 1048576 ∧ t.shape.taints.length ≤ 1048576
theorem PoolR.kept : Kept PoolR := fun _ _ _ _ hb ⟨v1, v2, e, h1, h2, h3⟩ => ⟨v1, v2, e, h1.below hb, h2.below hb, h3⟩
def PoolSl (w : World) (v : Value) (l : List PV) : Prop := GSl PoolR 12 w v l
theorem PoolSl.below {w w' : World} {v : Value} {l : List PV} (h : PoolSl w v l) (hb : Below w.heap.size w w') : PoolSl w' v l := GSl.below PoolR.kept h hb
theorem PoolSl.form {w : World} {v : Value} {l : List PV} (h : PoolSl w v l) : ∃ A c, v = .slice A l.length c ∧ (0 < l.length → ∃ b off, A = some ⟨b, off, none⟩ ∧ b < w.heap.size ∧ SeqAt PoolR 12 w b off l) := GSl.form h
theorem pool_cells {w : World} {b o : Nat} {u0 u1 u2 u3 u4 u5 u6 u7 u8 u9 u10 u11 : Value} (h : CellsAt w b o [u0, u1, u2, u3, u4, u5, u6, u7, u8, u9, u10, u11]) : w.cell? ⟨b, o, none⟩ = some u0 ∧ w.cell? ⟨b, o + 1, none⟩ = some u1 ∧ w.cell? ⟨b, o + 2, none⟩ = some u2 ∧ w.cell? ⟨b, o + 3, none⟩ = some u3 ∧ w.cell? ⟨b, o + 4, none⟩ = some u4 ∧ w.cell? ⟨b, o + 5, none⟩ = some u5 ∧ w.cell? ⟨b, o + 6, none⟩ = some u6 ∧ w.cell? ⟨b, o + 7, none⟩ = some u7 ∧ w.cell? ⟨b, o + 8, none⟩ = some u8 ∧ w.cell? ⟨b, o + 9, none⟩ = some u9 ∧ w.cell? ⟨b, o + 10, none⟩ = some u10 ∧ w.cell? ⟨b, o + 11, none⟩ = some u11 :=
  ⟨h 0 _ rfl, h 1 _ rfl, h 2 _ rfl, h 3 _ rfl, h 4 _ rfl, h 5 _ rfl, h 6 _ rfl, h 7 _ rfl, h 8 _ rfl, h 9 _ rfl, h 10 _ rfl, h 11 _ rfl⟩
set_option maxHeartbeats 1600000 in
theorem PoolOk_any (p : PV) (v1 v2 : Value) (w : World) (x : Addr) (hg : ErrAt x w) (h1 : LabSl w v1 p.shape.labs) (h2 : IntSl w v2 p.shape.taints) (l1 : p.shape.labs.length ≤ 1048576) (l2 : p.shape.taints.length ≤ 1048576) :
    Calls Tryz.prog 139 #[.agg #[.int .i64 p.id, .int .i64 p.min, .int .i64 p.max, .int .i64 p.prio, .int .i64 p.shape.id, .int .i64 p.shape.pool, .int .i64 p.shape.cap.c, .int .i64 p.shape.cap.m, .int .i64 p.shape.cap.p, v1, v2, .bool p.shape.cordon]] w fun e w' => e = .returned (.bool p.ok) ∧ Below w.heap.size w w' := by
  have HL := Lib.hid h1
  have HI := Lib.hid h2
  have HE := Lib.hid (pv_ok_eq p)
  have HG := Lib.hid hg
  have hno := fun w hg a b => NodeOk_any p.shape v1 v2 w x hg a b l1 l2
  generalize p.ok = ok at *
  generalize e1 : decide (0 ≤ p.id) = b1
  generalize e2 : decide (p.id < 5) = b2
  generalize e3 : decide (0 ≤ p.min) = b3
  generalize e4 : decide (p.min ≤ p.max) = b4
  generalize e5 : decide (p.max ≤ 20) = b5
  generalize e6 : decide (0 ≤ p.prio) = b6
  generalize e7 : decide (p.prio ≤ 9) = b7
  generalize e8 : p.shape.ok = b8 at hno
  generalize e9 : (p.shape.id == 1) = b9
  generalize ea : (p.shape.pool == p.id) = ba
  generalize eb : p.shape.cordon = bb at hno ⊢
  have HE' := Lib.hid (HE.out _ _ _ _ _ _ _ _ _ _ _ e1 e2 e3 e4 e5 e6 e7 e8 e9 ea eb)
  have HNO := Lib.hid hno
  clear h1 h2 hno e8 HE l1 l2 eb hg
  go_enter Tryz.func139, Tryz.ntmps139
  cases b1
  · go_wp2_with fail
    go_ret
    exact ⟨by rw [HE'.out]; simp, (by repeat' (first | exact Below.refl _ _ | refine Below.alloc ?_ ?_ _ | refine Below.setCell ?_ ?_ _ | refine Below.drew ?_ | (apply below_step; assumption) | (simp; done) | (simp; omega) | omega))⟩
  cases b2
  · go_wp2_with fail
    go_ret
    exact ⟨by rw [HE'.out]; simp, (by repeat' (first | exact Below.refl _ _ | refine Below.alloc ?_ ?_ _ | refine Below.setCell ?_ ?_ _ | refine Below.drew ?_ | (apply below_step; assumption) | (simp; done) | (simp; omega) | omega))⟩
  cases b3
  · go_wp2_with fail
    go_ret
    exact ⟨by rw [HE'.out]; simp, (by repeat' (first | exact Below.refl _ _ | refine Below.alloc ?_ ?_ _ | refine Below.setCell ?_ ?_ _ | refine Below.drew ?_ | (apply below_step; assumption) | (simp; done) | (simp; omega) | omega))⟩
  cases b4
  · go_wp2_with fail
    go_ret
    exact ⟨by rw [HE'.out]; simp, (by repeat' (first | exact Below.refl _ _ | refine Below.alloc ?_ ?_ _ | refine Below.setCell ?_ ?_ _ | refine Below.drew ?_ | (apply below_step; assumption) | (simp; done) | (simp; omega) | omega))⟩
  cases b5
  · go_wp2_with fail
    go_ret
    exact ⟨by rw [HE'.out]; simp, (by repeat' (first | exact Below.refl _ _ | refine Below.alloc ?_ ?_ _ | refine Below.setCell ?_ ?_ _ | refine Below.drew ?_ | (apply below_step; assumption) | (simp; done) | (simp; omega) | omega))⟩
  cases b6
  · go_wp2_with fail
    go_ret
    exact ⟨by rw [HE'.out]; simp, (by repeat' (first | exact Below.refl _ _ | refine Below.alloc ?_ ?_ _ | refine Below.setCell ?_ ?_ _ | refine Below.drew ?_ | (apply below_step; assumption) | (simp; done) | (simp; omega) | omega))⟩
  cases b7
  · go_wp2_with fail
    go_ret
    exact ⟨by rw [HE'.out]; simp, (by repeat' (first | exact Below.refl _ _ | refine Below.alloc ?_ ?_ _ | refine Below.setCell ?_ ?_ _ | refine Below.drew ?_ | (apply below_step; assumption) | (simp; done) | (simp; omega) | omega))⟩
  go_wp2_with fail
  have hX : Below w.heap.size w (w.alloc (.cells #[.int .i64 p.id, .int .i64 p.min, .int .i64 p.max, .int .i64 p.prio, .int .i64 p.shape.id, .int .i64 p.shape.pool, .int .i64 p.shape.cap.c, .int .i64 p.shape.cap.m, .int .i64 p.shape.cap.p, v1, v2, .bool bb] 80)) := (by repeat' (first | exact Below.refl _ _ | refine Below.alloc ?_ ?_ _ | refine Below.setCell ?_ ?_ _ | refine Below.drew ?_ | (apply below_step; assumption) | (simp; done) | (simp; omega) | omega))
  refine (HNO.out _ (HG.out.below hX (Nat.le_refl _)) (HL.out.below hX) (HI.out.below hX)).mono ?_
  rintro e w1 ⟨rfl, hb1⟩
  have hC1 := below_of hX hb1
  have B1 := (BlockIs.new w 80 #[.int .i64 p.id, .int .i64 p.min, .int .i64 p.max, .int .i64 p.prio, .int .i64 p.shape.id, .int .i64 p.shape.pool, .int .i64 p.shape.cap.c, .int .i64 p.shape.cap.m, .int .i64 p.shape.cap.p, v1, v2, .bool bb]).below hb1 (by simp)
  have g0 := B1.cell 0
  have g4 := B1.cell 4
  have g5 := B1.cell 5
  have g11 := B1.cell 11
  simp at g0 g4 g5 g11
  clear B1 hb1 hX
  cases b8
  · go_wp2_with fail
    go_ret
    exact ⟨by rw [HE'.out]; simp, hC1⟩
  cases b9
  · go_wp2_with fail
    go_ret
    exact ⟨by rw [HE'.out]; simp, hC1⟩
  cases ba
  · go_wp2_with fail
    go_ret
    exact ⟨by rw [HE'.out]; simp, hC1⟩
  go_wp2_with fail
  go_ret
  exact ⟨by rw [HE'.out]; simp, hC1⟩
set_option maxHeartbeats 1600000 in
theorem sPoolOk_any (p : PV) (v1 v2 : Value) (w : World) (h1 : LabSl w v1 p.shape.labs) (h2 : IntSl w v2 p.shape.taints) (l1 : p.shape.labs.length ≤ 1048576) (l2 : p.shape.taints.length ≤ 1048576) :
    Calls Tryz.prog 118 #[.agg #[.int .i64 p.id, .int .i64 p.min, .int .i64 p.max, .int .i64 p.prio, .int .i64 p.shape.id, .int .i64 p.shape.pool, .int .i64 p.shape.cap.c, .int .i64 p.shape.cap.m, .int .i64 p.shape.cap.p, v1, v2, .bool p.shape.cordon]] w fun e w' => e = .returned (.bool p.ok) ∧ Below w.heap.size w w' := by
  have HL := Lib.hid h1
  have HI := Lib.hid h2
  have HE := Lib.hid (pv_ok_eq p)
  have hno := fun w a b => sNodeOk_any p.shape v1 v2 w a b l1 l2
  generalize p.ok = ok at *
  generalize e1 : decide (0 ≤ p.id) = b1
  generalize e2 : decide (p.id < 5) = b2
  generalize e3 : decide (0 ≤ p.min) = b3
  generalize e4 : decide (p.min ≤ p.max) = b4
  generalize e5 : decide (p.max ≤ 20) = b5
  generalize e6 : decide (0 ≤ p.prio) = b6
  generalize e7 : decide (p.prio ≤ 9) = b7
  generalize e8 : p.shape.ok = b8 at hno
  generalize e9 : (p.shape.id == 1) = b9
  generalize ea : (p.shape.pool == p.id) = ba
  generalize eb : p.shape.cordon = bb at hno ⊢
  have HE' := Lib.hid (HE.out _ _ _ _ _ _ _ _ _ _ _ e1 e2 e3 e4 e5 e6 e7 e8 e9 ea eb)
  have HNO := Lib.hid hno
  clear h1 h2 hno e8 HE l1 l2 eb
  go_enter Tryz.func118, Tryz.ntmps118
  cases b1
  · go_wp2_with fail
    go_ret
    exact ⟨by rw [HE'.out]; simp, (by repeat' (first | exact Below.refl _ _ | refine Below.alloc ?_ ?_ _ | refine Below.setCell ?_ ?_ _ | refine Below.drew ?_ | (apply below_step; assumption) | (simp; done) | (simp; omega) | omega))⟩
  cases b2
  · go_wp2_with fail
    go_ret
    exact ⟨by rw [HE'.out]; simp, (by repeat' (first | exact Below.refl _ _ | refine Below.alloc ?_ ?_ _ | refine Below.setCell ?_ ?_ _ | refine Below.drew ?_ | (apply below_step; assumption) | (simp; done) | (simp; omega) | omega))⟩
  cases b3
  · go_wp2_with fail
    go_ret
    exact ⟨by rw [HE'.out]; simp, (by repeat' (first | exact Below.refl _ _ | refine Below.alloc ?_ ?_ _ | refine Below.setCell ?_ ?_ _ | refine Below.drew ?_ | (apply below_step; assumption) | (simp; done) | (simp; omega) | omega))⟩
  cases b4
  · go_wp2_with fail
    go_ret
    exact ⟨by rw [HE'.out]; simp, (by repeat' (first | exact Below.refl _ _ | refine Below.alloc ?_ ?_ _ | refine Below.setCell ?_ ?_ _ | refine Below.drew ?_ | (apply below_step; assumption) | (simp; done) | (simp; omega) | omega))⟩
  cases b5
  · go_wp2_with fail
    go_ret
    exact ⟨by rw [HE'.out]; simp, (by repeat' (first | exact Below.refl _ _ | refine Below.alloc ?_ ?_ _ | refine Below.setCell ?_ ?_ _ | refine Below.drew ?_ | (apply below_step; assumption) | (simp; done) | (simp; omega) | omega))⟩
  cases b6
  · go_wp2_with fail
    go_ret
    exact ⟨by rw [HE'.out]; simp, (by repeat' (first | exact Below.refl _ _ | refine Below.alloc ?_ ?_ _ | refine Below.setCell ?_ ?_ _ | refine Below.drew ?_ | (apply below_step; assumption) | (simp; done) | (simp; omega) | omega))⟩
  cases b7
  · go_wp2_with fail
    go_ret
    exact ⟨by rw [HE'.out]; simp, (by repeat' (first | exact Below.refl _ _ | refine Below.alloc ?_ ?_ _ | refine Below.setCell ?_ ?_ _ | refine Below.drew ?_ | (apply below_step; assumption) | (simp; done) | (simp; omega) | omega))⟩
  go_wp2_with fail
  have hX : Below w.heap.size w (w.alloc (.cells #[.int .i64 p.id, .int .i64 p.min, .int .i64 p.max, .int .i64 p.prio, .int .i64 p.shape.id, .int .i64 p.shape.pool, .int .i64 p.shape.cap.c, .int .i64 p.shape.cap.m, .int .i64 p.shape.cap.p, v1, v2, .bool bb] 80)) := (by repeat' (first | exact Below.refl _ _ | refine Below.alloc ?_ ?_ _ | refine Below.setCell ?_ ?_ _ | refine Below.drew ?_ | (apply below_step; assumption) | (simp; done) | (simp; omega) | omega))
  refine (HNO.out _ (HL.out.below hX) (HI.out.below hX)).mono ?_
  rintro e w1 ⟨rfl, hb1⟩
  have hC1 := below_of hX hb1
  have B1 := (BlockIs.new w 80 #[.int .i64 p.id, .int .i64 p.min, .int .i64 p.max, .int .i64 p.prio, .int .i64 p.shape.id, .int .i64 p.shape.pool, .int .i64 p.shape.cap.c, .int .i64 p.shape.cap.m, .int .i64 p.shape.cap.p, v1, v2, .bool bb]).below hb1 (by simp)
  have g0 := B1.cell 0
  have g4 := B1.cell 4
  have g5 := B1.cell 5
  have g11 := B1.cell 11
  simp at g0 g4 g5 g11
  clear B1 hb1 hX
  cases b8
  · go_wp2_with fail
    go_ret
    exact ⟨by rw [HE'.out]; simp, hC1⟩
  cases b9
  · go_wp2_with fail
    go_ret
    exact ⟨by rw [HE'.out]; simp, hC1⟩
  cases ba
  · go_wp2_with fail
    go_ret
    exact ⟨by rw [HE'.out]; simp, hC1⟩
  go_wp2_with fail
  go_ret
  exact ⟨by rw [HE'.out]; simp, hC1⟩
end Go.Proofs.YtcegofdmdemcbaaGreatDoor

namespace Go.Proofs.YtcegofdmdemcbaaGreatDoor
open Go.RowKit

def RetO {α : Type} (R : World → α → List Value → List Nat → Prop) (w : World) (t : α) (e : Ending) (w' : World) : Prop := ∃ ds bs, e = .returned (.agg ds.toArray) ∧ R w' t ds bs ∧ bs.Nodup ∧ (∀ b ∈ bs, w.heap.size ≤ b) ∧ Below w.heap.size w w'
end Go.Proofs.YtcegofdmdemcbaaGreatDoor

namespace Go.Proofs.YtcegofdmdemcbaaGreatDoor
open Go.RowKit

structure KeepB (g : Nat) (w w' : World) : Prop where
  os : w'.os = w.os
  tape : w'.tape = w.tape
  output : w'.output = w.output
  size : w.heap.size ≤ w'.heap.size
  block : ∀ k, k < w.heap.size → k ≠ g → w'.heap[k]? = w.heap[k]?
section
variable {g : Nat} {w w' w'' : World}
theorem KeepB.refl (g : Nat) (w : World) : KeepB g w w := ⟨rfl, rfl, rfl, Nat.le_refl _, fun _ _ _ => rfl⟩
theorem KeepB.trans (h : KeepB g w w') (k : KeepB g w' w'') : KeepB g w w'' :=
  ⟨k.os.trans h.os, k.tape.trans h.tape, k.output.trans h.output, Nat.le_trans h.size k.size, fun b hb hne => (k.block b (Nat.lt_of_lt_of_le hb h.size) hne).trans (h.block b hb hne)⟩
theorem KeepB.step (h : KeepB g w w') (hb : Below w'.heap.size w' w'') : KeepB g w w'' := h.trans ⟨hb.os, hb.tape, hb.output, hb.size, fun k hk _ => hb.block k hk⟩
theorem KeepB.put (h : KeepB g w w') (o : Nat) (u : Value) : KeepB g w (w'.setCell ⟨g, o, none⟩ u) := h.trans ⟨rfl, rfl, rfl, by simp [World.setCell], fun k _ hne => Below.heap_setCell _ _ _ k hne⟩
theorem KeepB.grown (h : KeepB g w w') {row : Option Nat} (hg : w'.grownBy w'' row) (hr : ∀ k, row = some k → w.heap.size ≤ k) : KeepB g w w'' :=
  ⟨hg.os.trans h.os, hg.tape.trans h.tape, hg.output.trans h.output, Nat.le_trans h.size hg.size, fun k hk hne => (hg.block k (Nat.lt_of_lt_of_le hk h.size) (fun e => by have := hr k e.symm; omega)).trans (h.block k hk hne)⟩
theorem KeepB.below {B : Nat} (h : KeepB g w w') (hB : B ≤ w.heap.size) (hg : B ≤ g) : Below B w w' := ⟨h.os, h.tape, h.output, h.size, fun k hk => h.block k (by omega) (by omega)⟩
end

section
variable {P : Program} {ops : Array Oper} {o : Oper} {a : Act} {Q : Exit → Act → World → Prop}
end
def CluO (w : World) (c : CV) (a0 a1 a2 : Value) (bs : List Nat) : Prop := ∃ b0 b1 b2, RowO TaskO 154 7 w a0 c.tasks b0 ∧ RowO NodeO 78 8 w a1 c.nodes b1 ∧ RowO BindO 157 2 w a2 c.binds b2 ∧ bs = b0 ++ (b1 ++ b2) ∧ bs.Nodup ∧ c.tasks.length ≤ 1048576 ∧ c.nodes.length ≤ 1048576 ∧ c.binds.length ≤ 1048576
theorem CluO.agree {w w' : World} {c : CV} {a0 a1 a2 : Value} {bs : List Nat} (h : CluO w c a0 a1 a2 bs) (ha : Agree bs w w') : CluO w' c a0 a1 a2 bs := by
  obtain ⟨b0, b1, b2, h0, h1, h2, rfl, h3⟩ := h
  exact ⟨b0, b1, b2, h0.agree TaskO.framed ha.left, h1.agree NodeO.framed ha.right.left, h2.agree BindO.framed ha.right.right, rfl, h3⟩
theorem CluO.clu {w : World} {c : CV} {a0 a1 a2 : Value} {bs : List Nat} (h : CluO w c a0 a1 a2 bs) : CluR w c a0 a1 a2 := by
  obtain ⟨b0, b1, b2, h0, h1, h2, _, _, l⟩ := h
  exact ⟨h0.sl (fun _ _ _ h => h.len) (fun _ _ _ h => h.r), h1.sl (fun _ _ _ h => h.len) (fun _ _ _ h => h.r), h2.sl (fun _ _ _ h => h.len) (fun _ _ _ h => h.r), l⟩
theorem rowO_lt {α : Type} {R : World → α → List Value → List Nat → Prop} {ty : TypeId} {n : Nat} {w : World} {v : Value} {l : List α} {bs : List Nat} (hR : ∀ x cs b, R w x cs b → ∀ c ∈ b, c < w.heap.size) (h : RowO R ty n w v l bs) : ∀ b ∈ bs, b < w.heap.size := by
  obtain ⟨xs, b, h1, h2, rfl⟩ := h
  intro c hc
  rcases List.mem_append.1 hc with h | h
  · exact own_lt h1 c h
  · exact elems_lt hR h2 c h
def RetClu (w : World) (c : CV) (e : Ending) (w' : World) : Prop := ∃ a0 a1 a2 bs, e = .returned (.agg #[a0, a1, a2]) ∧ CluO w' c a0 a1 a2 bs ∧ (∀ b ∈ bs, w.heap.size ≤ b) ∧ Below w.heap.size w w'

end Go.Proofs.YtcegofdmdemcbaaGreatDoor

namespace Go.Proofs.YtcegofdmdemcbaaGreatDoor

def szTask (t : TV) : Int := 5 + 2 * t.want.length + t.tols.length
def szNode (n : NV) : Int := 6 + 2 * n.labs.length + n.taints.length
def allTask (l : List TV) : Prop := ∀ t ∈ l, t.want.length ≤ 1048576 ∧ t.tols.length ≤ 1048576
def allNode (l : List NV) : Prop := ∀ t ∈ l, t.labs.length ≤ 1048576 ∧ t.taints.length ≤ 1048576
end Go.Proofs.YtcegofdmdemcbaaGreatDoor

namespace Go.Proofs.YtcegofdmdemcbaaGreatDoor
open Go.RowKit

theorem own_cell {w : World} {e : TypeId} {size n g c : Nat} {xs : List Value} (h : w.ownsRow 0 e size (.slice (some ⟨g, 0, none⟩) n c) n xs) {j : Nat} {u : Value} (hu : xs[j]? = some u) : w.cell? ⟨g, j, none⟩ = some u := by
  rcases Nat.eq_zero_or_pos n with h0 | hp
  · have := h.1
    rw [h0, Nat.zero_mul] at this
    rw [List.eq_nil_of_length_eq_zero this] at hu; simp at hu
  · obtain ⟨g', cap, e, _, hc, _⟩ := own_cells h hp
    simp only [Value.slice.injEq, Option.some.injEq, Addr.mk.injEq] at e
    obtain ⟨⟨rfl, -, -⟩, -, -⟩ := e
    exact hc j u hu
theorem own_frozen {w : World} {e : TypeId} {size n g c : Nat} {xs : List Value} (h : w.ownsRow 0 e size (.slice (some ⟨g, 0, none⟩) n c) n xs) (hp : 0 < n) (o : Nat) : w.frozen? ⟨g, o, none⟩ = false := by
  obtain ⟨g', cap, e, _, _, hf⟩ := own_cells h hp
  simp only [Value.slice.injEq, Option.some.injEq, Addr.mk.injEq] at e
  obtain ⟨⟨rfl, -, -⟩, -, -⟩ := e
  exact hf o
theorem elems_allTask {w : World} {l : List TV} {xs : List Value} {bs : List Nat} (h : Elems TaskO w l xs bs) : allTask l := by
  induction l generalizing xs bs with
  | nil => intro t ht; cases ht
  | cons x r ih =>
    obtain ⟨cs, ys, b1, b2, rfl, rfl, ⟨v1, v2, _, _, _, _, m⟩, h2⟩ := h
    intro t ht
    rcases List.mem_cons.1 ht with rfl | ht
    · exact m
    · exact ih h2 t ht
theorem elems_allNode {w : World} {l : List NV} {xs : List Value} {bs : List Nat} (h : Elems NodeO w l xs bs) : allNode l := by
  induction l generalizing xs bs with
  | nil => intro t ht; cases ht
  | cons x r ih =>
    obtain ⟨cs, ys, b1, b2, rfl, rfl, ⟨v1, v2, _, _, _, _, m⟩, h2⟩ := h
    intro t ht
    rcases List.mem_cons.1 ht with rfl | ht
    · exact m
    · exact ih h2 t ht
end Go.Proofs.YtcegofdmdemcbaaGreatDoor
