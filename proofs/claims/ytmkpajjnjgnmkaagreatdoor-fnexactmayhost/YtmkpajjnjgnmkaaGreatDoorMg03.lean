/- The laws' helpers over clusters: toTaskS, toNodeS, toBindS, toCluster. The contracts of chapter 1's functions: outOfRange, checkBoth, keepValid, ResOk, ResAdd, ResSub, ResFits. The contracts of ResOk, ResAdd, ResSub, ResFits. append of a label to a slice of the call's own; the contract of marks.labs. The contracts of LabsOk, LabsGet, LabsMatch. The contracts of readTaints, TaintsOk, Tolerates. The contracts of idOk, TaskOk, NodeOk, CanHost. The contracts of tasksOk and nodesOk. Words for memory: a block that is known whole; a slice of amounts. The contract of ResSum. append of an amount to a slice of the call's own. The tasks on a node: tasksOn, which is ranged over, and usedOn. The iterator that tasksOn hands back. The contract of usedOn. The contracts of usedOn, freeOn, needsFit, ClusterOk. A law over two amounts: what holds of the world while its drawn regions run: the boxes at g and g + 1 hold a and b, and nothing has turned since X. The contract of the model's ResSum. The contracts of the model's LabsOk, LabsGet, LabsMatch. The contracts of the model's LabsGet and LabsMatch. The contracts of the model's TaintsOk, l02In, Tolerates. The contracts of the model's TaskOk, NodeOk, CanHost. -/
import Derived.Test.YtmkpajjnjgnmkaaGreatDoorMg02
import Derived.Deep.AppendLies
import Derived.OwnWalk
import Derived.Laws.OwnMore
import Derived.Deep.RegionHeld3
import Derived.Deep.RegionLaw
import Derived.Deep.DrawnRows
import Derived.RangeFuncNested
import Derived.RangeFuncBound
import Derived.RangeFuncCalls
import Derived.RangeFuncLeaves
import Derived.Shelf.Abstract
import Derived.Shelf.RegionOpen
import Derived.OwnWalkIn
import Derived.TacticsInMore
import Derived.LoopNIn
import Derived.LoopIn
import Derived.Deep.DeepCutAuto
import Derived.IntWalk
namespace Go.Proofs.YtmkpajjnjgnmkaaGreatDoor
open Go.RowKit

def setAll (cs : Array Value) (o : Nat) : List Value → Array Value
  | [] => cs
  | u :: r => setAll (cs.setIfInBounds o u) (o + 1) r
def putAll (w : World) (g o : Nat) : List Value → World
  | [] => w
  | u :: r => putAll (w.setCell ⟨g, o, none⟩ u) g (o + 1) r
theorem setAll_size (cs : Array Value) (o : Nat) (ds : List Value) : (setAll cs o ds).size = cs.size := by
  induction ds generalizing cs o with
  | nil => rfl
  | cons u r ih => simp [setAll, ih]
theorem setAll_far {cs : Array Value} {o i : Nat} {ds : List Value} (h : i < o ∨ o + ds.length ≤ i) : (setAll cs o ds)[i]? = cs[i]? := by
  induction ds generalizing cs o with
  | nil => rfl
  | cons u r ih =>
    simp only [List.length_cons] at h
    rw [setAll, ih (by omega), Array.getElem?_setIfInBounds_ne (by omega)]
theorem setAll_at {cs : Array Value} {o j : Nat} {ds : List Value} {u : Value} (hj : ds[j]? = some u) (h : o + ds.length ≤ cs.size) : (setAll cs o ds)[o + j]? = some u := by
  induction ds generalizing cs o j with
  | nil => simp at hj
  | cons x r ih =>
    simp only [List.length_cons] at h
    cases j with
    | zero =>
      simp at hj; subst hj
      rw [setAll, setAll_far (by omega), Nat.add_zero, Array.getElem?_setIfInBounds_self_of_lt (by omega)]
    | succ j =>
      have := ih (cs := cs.setIfInBounds o x) (o := o + 1) (j := j) (by simpa using hj) (by simp; omega)
      rw [setAll, show o + (j + 1) = o + 1 + j by omega]
      exact this
theorem BlockIs.putAll {w : World} {g o : Nat} {t : TypeId} {cs : Array Value} {ds : List Value} (h : BlockIs w g t cs) : BlockIs (putAll w g o ds) g t (setAll cs o ds) := by
  induction ds generalizing w o cs with
  | nil => exact h
  | cons u r ih => exact ih (h.put o u)
theorem BlockIs.putFar {w : World} {g b o : Nat} {t : TypeId} {cs : Array Value} {ds : List Value} (h : BlockIs w b t cs) (hne : b ≠ g) : BlockIs (Go.Proofs.YtmkpajjnjgnmkaaGreatDoor.putAll w g o ds) b t cs := by
  induction ds generalizing w o with
  | nil => exact h
  | cons u r ih => exact ih (h.far hne u)
theorem IntAt.putFar {w : World} {g b o off : Nat} {l : List Int} {ds : List Value} (h : IntAt w b off l) (hne : b ≠ g) : IntAt (putAll w g o ds) b off l := by
  induction ds generalizing w o with
  | nil => exact h
  | cons u r ih => exact ih (h.far hne u)
theorem putAll_size {w : World} {g o : Nat} {ds : List Value} : (putAll w g o ds).heap.size = w.heap.size := by
  induction ds generalizing w o with
  | nil => rfl
  | cons u r ih => rw [putAll, ih]; simp [World.setCell]
theorem putAll_below {B : Nat} {a w : World} {g o : Nat} {ds : List Value} (h : Below B a w) (hg : B ≤ g) : Below B a (putAll w g o ds) := by
  induction ds generalizing w o with
  | nil => exact h
  | cons u r ih => exact ih (h.setCell hg u)

def TaskN (base : Nat) (w : World) (t : TV) (cs : List Value) : Prop := ∃ g1 g2, cs = [.int .i64 t.id, .int .i64 t.prio, .int .i64 t.need.c, .int .i64 t.need.m, .int .i64 t.need.p, .slice (some ⟨g1, 0, none⟩) t.want.length t.want.length, .slice (some ⟨g2, 0, none⟩) t.tols.length t.tols.length] ∧
  base ≤ g1 ∧ base ≤ g2 ∧ g2 < w.heap.size ∧ BlockIs w g1 119 (labL t.want).toArray ∧ IntAt w g2 0 t.tols ∧ t.want.length ≤ 1048576 ∧ t.tols.length ≤ 1048576
def NodeN (base : Nat) (w : World) (t : NV) (cs : List Value) : Prop := ∃ g1 g2, cs = [.int .i64 t.id, .int .i64 t.pool, .int .i64 t.cap.c, .int .i64 t.cap.m, .int .i64 t.cap.p, .slice (some ⟨g1, 0, none⟩) t.labs.length t.labs.length, .slice (some ⟨g2, 0, none⟩) t.taints.length t.taints.length, .bool t.cordon] ∧
  base ≤ g1 ∧ base ≤ g2 ∧ g2 < w.heap.size ∧ BlockIs w g1 119 (labL t.labs).toArray ∧ IntAt w g2 0 t.taints ∧ t.labs.length ≤ 1048576 ∧ t.taints.length ≤ 1048576
def BindN (_ : Nat) (_ : World) (t : BV) (cs : List Value) : Prop := cs = [.int .i64 t.task, .int .i64 t.node]
theorem TaskN.kept (base : Nat) : Kept (TaskN base) := fun _ _ _ _ hb ⟨g1, g2, e, h1, h2, h3, h4, h5, h6⟩ => ⟨g1, g2, e, h1, h2, Nat.lt_of_lt_of_le h3 hb.size, h4.below hb h4.lt, h5.below hb h3, h6⟩
theorem TaskN.put {base g o : Nat} {w : World} {t : TV} {cs ds : List Value} (h : TaskN base w t cs) (hg : g < base) : TaskN base (putAll w g o ds) t cs := by
  obtain ⟨g1, g2, e, h1, h2, h3, h4, h5, h6⟩ := h
  exact ⟨g1, g2, e, h1, h2, by rw [putAll_size]; exact h3, h4.putFar (by omega), h5.putFar (by omega), h6⟩
theorem TaskN.r {base : Nat} {w : World} {t : TV} {cs : List Value} (h : TaskN base w t cs) : TaskR w t cs := by
  obtain ⟨g1, g2, e, h1, h2, h3, h4, h5, h6⟩ := h
  exact ⟨_, _, e, .inr ⟨g1, 0, _, rfl, h4.lt, LabAt.of_cells h4⟩, .inr ⟨g2, 0, _, rfl, h3, h5⟩, h6⟩
theorem TaskN.len {base : Nat} {w : World} {t : TV} {cs : List Value} (h : TaskN base w t cs) : cs.length = 7 := by
  obtain ⟨g1, g2, e, _⟩ := h; subst e; rfl
theorem NodeN.kept (base : Nat) : Kept (NodeN base) := fun _ _ _ _ hb ⟨g1, g2, e, h1, h2, h3, h4, h5, h6⟩ => ⟨g1, g2, e, h1, h2, Nat.lt_of_lt_of_le h3 hb.size, h4.below hb h4.lt, h5.below hb h3, h6⟩
theorem NodeN.put {base g o : Nat} {w : World} {t : NV} {cs ds : List Value} (h : NodeN base w t cs) (hg : g < base) : NodeN base (putAll w g o ds) t cs := by
  obtain ⟨g1, g2, e, h1, h2, h3, h4, h5, h6⟩ := h
  exact ⟨g1, g2, e, h1, h2, by rw [putAll_size]; exact h3, h4.putFar (by omega), h5.putFar (by omega), h6⟩
theorem NodeN.r {base : Nat} {w : World} {t : NV} {cs : List Value} (h : NodeN base w t cs) : NodeR w t cs := by
  obtain ⟨g1, g2, e, h1, h2, h3, h4, h5, h6⟩ := h
  exact ⟨_, _, e, .inr ⟨g1, 0, _, rfl, h4.lt, LabAt.of_cells h4⟩, .inr ⟨g2, 0, _, rfl, h3, h5⟩, h6⟩
theorem NodeN.len {base : Nat} {w : World} {t : NV} {cs : List Value} (h : NodeN base w t cs) : cs.length = 8 := by
  obtain ⟨g1, g2, e, _⟩ := h; subst e; rfl
theorem BindN.kept (base : Nat) : Kept (BindN base) := fun _ _ _ _ _ h => h
theorem BindN.put {base g o : Nat} {w : World} {t : BV} {cs ds : List Value} (h : BindN base w t cs) (_ : g < base) : BindN base (putAll w g o ds) t cs := h
theorem BindN.r {base : Nat} {w : World} {t : BV} {cs : List Value} (h : BindN base w t cs) : BindR w t cs := h
theorem BindN.len {base : Nat} {w : World} {t : BV} {cs : List Value} (h : BindN base w t cs) : cs.length = 2 := by rw [h]; rfl

def CopyG {α : Type} (R : World → α → List Value → Prop) (n : Nat) (ty : TypeId) (w : World) (g : Nat) (l : List α) (k : Nat) : Prop :=
  ∃ cs : Array Value, BlockIs w g ty cs ∧ cs.size = l.length * n ∧ ∀ (i : Nat) (x : α), i < k → l[i]? = some x → ∃ ds, R w x ds ∧ ds.length = n ∧ ∀ (j : Nat) (u : Value), ds[j]? = some u → cs[i * n + j]? = some u
section
variable {α : Type} {R : World → α → List Value → Prop} {n g k : Nat} {ty : TypeId} {w w' : World} {l : List α}
theorem CopyG.lt (h : CopyG R n ty w g l k) : g < w.heap.size := by obtain ⟨cs, hb, _⟩ := h; exact hb.lt
theorem CopyG.below (hR : Kept R) (h : CopyG R n ty w g l k) (hb : Below w.heap.size w w') : CopyG R n ty w' g l k := by
  obtain ⟨cs, h1, h2, h3⟩ := h
  refine ⟨cs, h1.below hb h1.lt, h2, fun i x hi hx => ?_⟩
  obtain ⟨ds, a, b⟩ := h3 i x hi hx
  exact ⟨ds, hR _ _ _ _ hb a, b⟩
theorem CopyG.step {x : α} {ds : List Value} (h : CopyG R n ty w g l k) (hx : l[k]? = some x) (hd : R (putAll w g (k * n) ds) x ds) (hn : ds.length = n) (hp : ∀ y es, R w y es → R (putAll w g (k * n) ds) y es) : CopyG R n ty (putAll w g (k * n) ds) g l (k + 1) := by
  obtain ⟨cs, h1, h2, h3⟩ := h
  have hk : k < l.length := (List.getElem?_eq_some_iff.1 hx).1
  have hkn : k * n + n ≤ l.length * n := by
    have := Nat.mul_le_mul_right n (show k + 1 ≤ l.length from hk)
    rw [Nat.add_mul, Nat.one_mul] at this; exact this
  refine ⟨_, h1.putAll, by rw [setAll_size, h2], fun i y hi hy => ?_⟩
  by_cases e : i = k
  · subst e
    obtain rfl := Option.some.inj (hx.symm.trans hy)
    exact ⟨ds, hd, hn, fun j u hu => setAll_at hu (by omega)⟩
  · obtain ⟨es, a, b, d⟩ := h3 i y (by omega) hy
    refine ⟨es, hp y es a, b, fun j u hu => ?_⟩
    have hj : j < n := by rw [← b]; exact (List.getElem?_eq_some_iff.1 hu).1
    have hin : i * n + n ≤ k * n := by
      have := Nat.mul_le_mul_right n (show i + 1 ≤ k by omega)
      rw [Nat.add_mul, Nat.one_mul] at this; exact this
    rw [setAll_far (by omega)]; exact d j u hu
theorem CopyG.sl {S : World → α → List Value → Prop} (hRS : ∀ x cs, R w x cs → S w x cs) (h : CopyG R n ty w g l l.length) : GSl S n w (.slice (some ⟨g, 0, none⟩) l.length l.length) l := by
  obtain ⟨cs, h1, h2, h3⟩ := h
  refine .inr ⟨g, 0, _, rfl, h1.lt, fun i x hx => ?_⟩
  obtain ⟨ds, a, b, d⟩ := h3 i x (List.getElem?_eq_some_iff.1 hx).1 hx
  exact ⟨ds, hRS _ _ a, CellsAt.of_block h1 (fun j u hu => by rw [Nat.zero_add]; exact d j u hu)⟩
end

theorem toBind_any (r : BV) (w : World) :
    Calls Tryz.prog 118 #[.agg #[.int .i64 r.task, .int .i64 r.node]] w fun e w' => e = .returned (.agg #[.int .i64 r.task, .int .i64 r.node]) ∧ Below w.heap.size w w' := by
  go_enter Tryz.func118, Tryz.ntmps118
  go_wp2
  exact bodyPost_ret (v := .agg #[.int .i64 r.task, .int .i64 r.node]) (by simp [results, Tryz.results118, go_sem]) rfl ⟨rfl, (by repeat' (first | exact Below.refl _ _ | refine Below.alloc ?_ ?_ _ | refine Below.setCell ?_ ?_ _ | refine Below.drew ?_ | (apply below_step; assumption) | (simp; done) | (simp; omega) | omega))⟩
def RetN {α : Type} (N : Nat → World → α → List Value → Prop) (w : World) (t : α) (e : Ending) (w' : World) : Prop := ∃ cs : List Value, e = .returned (.agg cs.toArray) ∧ N w.heap.size w' t cs ∧ Below w.heap.size w w'
theorem toTask_n (t : TV) (cs : List Value) (w : World) (h : TaskR w t cs) : Calls Tryz.prog 116 #[.agg cs.toArray] w (RetN TaskN w t) := by
  obtain ⟨v1, v2, rfl, h1, h2, l1, l2⟩ := h
  exact (toTask_any t v1 v2 w h1 h2 l1 l2).mono fun _ _ ⟨g1, g2, e, k1, k2, k3, bl, it, hb⟩ => ⟨_, e, ⟨g1, g2, rfl, k1, k2, k3, bl, it, l1, l2⟩, hb⟩
theorem toNode_n (t : NV) (cs : List Value) (w : World) (h : NodeR w t cs) : Calls Tryz.prog 117 #[.agg cs.toArray] w (RetN NodeN w t) := by
  obtain ⟨v1, v2, rfl, h1, h2, l1, l2⟩ := h
  exact (toNode_any t v1 v2 w h1 h2 l1 l2).mono fun _ _ ⟨g1, g2, e, k1, k2, k3, bl, it, hb⟩ => ⟨_, e, ⟨g1, g2, rfl, k1, k2, k3, bl, it, l1, l2⟩, hb⟩
theorem toBind_n (t : BV) (cs : List Value) (w : World) (h : BindR w t cs) : Calls Tryz.prog 118 #[.agg cs.toArray] w (RetN BindN w t) := by
  obtain rfl := h
  exact (toBind_any t w).mono fun _ _ ⟨e, hb⟩ => ⟨_, e, rfl, hb⟩

theorem Tryz.infoTask : (Tryz.prog.info? 88).map (fun i => (i.zero, i.size, i.bytes)) = some (some (.agg #[.int .i64 0, .int .i64 0, .int .i64 0, .int .i64 0, .int .i64 0, .slice none 0 0, .slice none 0 0]), 7, 88) := by kernel_rfl
theorem Tryz.infoNode : (Tryz.prog.info? 83).map (fun i => (i.zero, i.size, i.bytes)) = some (some (.agg #[.int .i64 0, .int .i64 0, .int .i64 0, .int .i64 0, .int .i64 0, .slice none 0 0, .slice none 0 0, .bool false]), 8, 96) := by kernel_rfl
theorem Tryz.infoBind : (Tryz.prog.info? 100).map (fun i => (i.zero, i.size, i.bytes)) = some (some (.agg #[.int .i64 0, .int .i64 0]), 2, 16) := by kernel_rfl
theorem make_task (n : Nat) (h : n ≤ 1048576) (w : World) : (Instr.makeSlice 31 (.int .i64 (n : Int)) (.int .i64 (n : Int))).run Tryz.prog w = .ok (.slice (some ⟨w.heap.size, 0, none⟩) n n) (w.alloc (.cells (madeCells #[.int .i64 0, .int .i64 0, .int .i64 0, .int .i64 0, .int .i64 0, .slice none 0 0, .slice none 0 0] (n * 7)) 88)) := by
  obtain ⟨i, hi, hzz⟩ := Option.map_eq_some_iff.1 Tryz.infoTask
  simp only [Prod.mk.injEq] at hzz
  obtain ⟨hz, hs, hb⟩ := hzz
  have := run_make (P := Tryz.prog) w 31 88 i _ Tryz.underlying31 hi hz .i64 .i64 n n (by omega) (Int.le_refl _) (by rw [hb]; omega) (by omega)
  rw [this, hs]
  simp [Value.cells]
def NewTaskS (w : World) (l : List TV) (e : Ending) (w' : World) : Prop := e = .returned (.slice (some ⟨w.heap.size, 0, none⟩) l.length l.length) ∧ CopyG (TaskN (w.heap.size + 1)) 7 88 w' w.heap.size l l.length ∧ Below w.heap.size w w'

set_option maxHeartbeats 1600000 in
theorem toTaskS_any (v : Value) (l : List TV) (w : World) (hv : TaskSl w v l) (hlen : l.length ≤ 1048576) :
    Calls Tryz.prog 59 #[v] w (NewTaskS w l) := by
  obtain ⟨A, c, rfl, hA⟩ := hv.form
  have HA := Lib.hid hA
  clear hA hv
  have hmk := make_task l.length hlen
  go_enter Tryz.func59, Tryz.ntmps59
  go_wp2_with fail
  go_loopw [4] (fun s4 wr => ∃ k : Nat, k ≤ l.length ∧ s4 = .int .i64 k ∧ CopyG (TaskN (w.heap.size + 1)) 7 88 wr w.heap.size l k ∧ Below w.heap.size w wr) (fun s4 _ => (l.length - intOf s4).toNat)
  case atStart =>
    exact ⟨0, by omega, rfl, ⟨_, BlockIs.new _ _ _, size_madeCells _ _, fun i r hi => absurd hi (by omega)⟩, (by repeat' (first | exact Below.refl _ _ | refine Below.alloc ?_ ?_ _ | refine Below.setCell ?_ ?_ _ | refine Below.drew ?_ | (apply below_step; assumption) | (simp; done) | (simp; omega) | omega))⟩
  case round =>
    obtain ⟨k, hk, rfl, hcp, hB⟩ := hrel
    have HCP := Lib.hid hcp
    have hgl := hcp.lt
    have hzr := hB.size
    clear hcp
    by_cases hlt : k < l.length
    · obtain ⟨b, off, rfl, hbw, hat⟩ := HA.out (by omega)
      obtain ⟨t, ht⟩ : ∃ t, l[k]? = some t := ⟨_, List.getElem?_eq_getElem hlt⟩
      obtain ⟨cs, hR, hC⟩ := (hat.below TaskR.kept hB hbw) k t ht
      have HTK := Lib.hid ht
      have HR := Lib.hid (toTask_n t cs wr hR)
      obtain ⟨v1, v2, rfl, sl, si, m1, m2⟩ := hR; obtain ⟨A1, c1, rfl, _⟩ := sl.form; obtain ⟨A2, c2, rfl, _⟩ := si.form
      clear sl si m1 m2
      obtain ⟨q0, q1, q2, q3, q4, q5, q6⟩ := task_cells hC
      clear hat hC ht
      go_wp2_with fail
      refine HR.out.mono ?_
      rintro e w3 ⟨ds, rfl, hN, hb3⟩
      have hz3 := hb3.size
      have hC3 := below_of hB hb3
      have hcp := HCP.out.below (TaskN.kept _) hb3
      have HN := Lib.hid (show TaskN (w.heap.size + 1) w3 t ds from by obtain ⟨g1, g2, e, h1, h2, h3⟩ := hN; exact ⟨g1, g2, e, by omega, by omega, h3⟩)
      have HCP3 := Lib.hid hcp
      obtain ⟨cs3, hblk, hsz, _⟩ := hcp
      have hk7 : k * 7 + 7 ≤ cs3.size := by omega
      have x0 : w3.cell? ⟨w.heap.size, k * 7 + 0, none⟩ = some (cs3[k * 7 + 0]'(by omega)) := (by rw [hblk.cell]; exact Array.getElem?_eq_getElem (by omega)); have x1 : w3.cell? ⟨w.heap.size, k * 7 + 1, none⟩ = some (cs3[k * 7 + 1]'(by omega)) := (by rw [hblk.cell]; exact Array.getElem?_eq_getElem (by omega)); have x2 : w3.cell? ⟨w.heap.size, k * 7 + 2, none⟩ = some (cs3[k * 7 + 2]'(by omega)) := (by rw [hblk.cell]; exact Array.getElem?_eq_getElem (by omega)); have x3 : w3.cell? ⟨w.heap.size, k * 7 + 3, none⟩ = some (cs3[k * 7 + 3]'(by omega)) := (by rw [hblk.cell]; exact Array.getElem?_eq_getElem (by omega)); have x4 : w3.cell? ⟨w.heap.size, k * 7 + 4, none⟩ = some (cs3[k * 7 + 4]'(by omega)) := (by rw [hblk.cell]; exact Array.getElem?_eq_getElem (by omega)); have x5 : w3.cell? ⟨w.heap.size, k * 7 + 5, none⟩ = some (cs3[k * 7 + 5]'(by omega)) := (by rw [hblk.cell]; exact Array.getElem?_eq_getElem (by omega)); have x6 : w3.cell? ⟨w.heap.size, k * 7 + 6, none⟩ = some (cs3[k * 7 + 6]'(by omega)) := (by rw [hblk.cell]; exact Array.getElem?_eq_getElem (by omega))
      generalize cs3[k * 7 + 0]'(by omega) = y0 at x0; generalize cs3[k * 7 + 1]'(by omega) = y1 at x1; generalize cs3[k * 7 + 2]'(by omega) = y2 at x2; generalize cs3[k * 7 + 3]'(by omega) = y3 at x3; generalize cs3[k * 7 + 4]'(by omega) = y4 at x4; generalize cs3[k * 7 + 5]'(by omega) = y5 at x5; generalize cs3[k * 7 + 6]'(by omega) = y6 at x6
      rw [Nat.add_zero] at x0
      have uf := hblk.frozen
      have hl3 := hblk.lt
      clear hblk hsz hk7 hN hb3
      obtain ⟨g1, g2, rfl, _⟩ := HN.out
      go_wp2_with fail
      go_roundw
      case rel =>
        have st := HCP3.out.step HTK.out (HN.out.put (by omega)) HN.out.len (fun y es h => h.put (by omega))
        exact ⟨k + 1, by omega, by go_num, st, putAll_below (ds := [_, _, _, _, _, _, _]) hC3 (Nat.le_refl _)⟩
      case measure => simp [intOf]; omega
    · have hkl : k = l.length := by omega
      have HF := Lib.hid (show CopyG (TaskN (w.heap.size + 1)) 7 88 wr w.heap.size l l.length by rw [← hkl]; exact HCP.out)
      clear hkl
      go_wp2_with fail
      go_ret
      exact ⟨rfl, HF.out, hB⟩
theorem make_node (n : Nat) (h : n ≤ 1048576) (w : World) : (Instr.makeSlice 32 (.int .i64 (n : Int)) (.int .i64 (n : Int))).run Tryz.prog w = .ok (.slice (some ⟨w.heap.size, 0, none⟩) n n) (w.alloc (.cells (madeCells #[.int .i64 0, .int .i64 0, .int .i64 0, .int .i64 0, .int .i64 0, .slice none 0 0, .slice none 0 0, .bool false] (n * 8)) 83)) := by
  obtain ⟨i, hi, hzz⟩ := Option.map_eq_some_iff.1 Tryz.infoNode
  simp only [Prod.mk.injEq] at hzz
  obtain ⟨hz, hs, hb⟩ := hzz
  have := run_make (P := Tryz.prog) w 32 83 i _ Tryz.underlying32 hi hz .i64 .i64 n n (by omega) (Int.le_refl _) (by rw [hb]; omega) (by omega)
  rw [this, hs]
  simp [Value.cells]
def NewNodeS (w : World) (l : List NV) (e : Ending) (w' : World) : Prop := e = .returned (.slice (some ⟨w.heap.size, 0, none⟩) l.length l.length) ∧ CopyG (NodeN (w.heap.size + 1)) 8 83 w' w.heap.size l l.length ∧ Below w.heap.size w w'

set_option maxHeartbeats 1600000 in
theorem toNodeS_any (v : Value) (l : List NV) (w : World) (hv : NodeSl w v l) (hlen : l.length ≤ 1048576) :
    Calls Tryz.prog 60 #[v] w (NewNodeS w l) := by
  obtain ⟨A, c, rfl, hA⟩ := hv.form
  have HA := Lib.hid hA
  clear hA hv
  have hmk := make_node l.length hlen
  go_enter Tryz.func60, Tryz.ntmps60
  go_wp2_with fail
  go_loopw [4] (fun s4 wr => ∃ k : Nat, k ≤ l.length ∧ s4 = .int .i64 k ∧ CopyG (NodeN (w.heap.size + 1)) 8 83 wr w.heap.size l k ∧ Below w.heap.size w wr) (fun s4 _ => (l.length - intOf s4).toNat)
  case atStart =>
    exact ⟨0, by omega, rfl, ⟨_, BlockIs.new _ _ _, size_madeCells _ _, fun i r hi => absurd hi (by omega)⟩, (by repeat' (first | exact Below.refl _ _ | refine Below.alloc ?_ ?_ _ | refine Below.setCell ?_ ?_ _ | refine Below.drew ?_ | (apply below_step; assumption) | (simp; done) | (simp; omega) | omega))⟩
  case round =>
    obtain ⟨k, hk, rfl, hcp, hB⟩ := hrel
    have HCP := Lib.hid hcp
    have hgl := hcp.lt
    have hzr := hB.size
    clear hcp
    by_cases hlt : k < l.length
    · obtain ⟨b, off, rfl, hbw, hat⟩ := HA.out (by omega)
      obtain ⟨t, ht⟩ : ∃ t, l[k]? = some t := ⟨_, List.getElem?_eq_getElem hlt⟩
      obtain ⟨cs, hR, hC⟩ := (hat.below NodeR.kept hB hbw) k t ht
      have HTK := Lib.hid ht
      have HR := Lib.hid (toNode_n t cs wr hR)
      obtain ⟨v1, v2, rfl, sl, si, m1, m2⟩ := hR; obtain ⟨A1, c1, rfl, _⟩ := sl.form; obtain ⟨A2, c2, rfl, _⟩ := si.form
      clear sl si m1 m2
      obtain ⟨q0, q1, q2, q3, q4, q5, q6, q7⟩ := node_cells hC
      clear hat hC ht
      go_wp2_with fail
      refine HR.out.mono ?_
      rintro e w3 ⟨ds, rfl, hN, hb3⟩
      have hz3 := hb3.size
      have hC3 := below_of hB hb3
      have hcp := HCP.out.below (NodeN.kept _) hb3
      have HN := Lib.hid (show NodeN (w.heap.size + 1) w3 t ds from by obtain ⟨g1, g2, e, h1, h2, h3⟩ := hN; exact ⟨g1, g2, e, by omega, by omega, h3⟩)
      have HCP3 := Lib.hid hcp
      obtain ⟨cs3, hblk, hsz, _⟩ := hcp
      have hk8 : k * 8 + 8 ≤ cs3.size := by omega
      have x0 : w3.cell? ⟨w.heap.size, k * 8 + 0, none⟩ = some (cs3[k * 8 + 0]'(by omega)) := (by rw [hblk.cell]; exact Array.getElem?_eq_getElem (by omega)); have x1 : w3.cell? ⟨w.heap.size, k * 8 + 1, none⟩ = some (cs3[k * 8 + 1]'(by omega)) := (by rw [hblk.cell]; exact Array.getElem?_eq_getElem (by omega)); have x2 : w3.cell? ⟨w.heap.size, k * 8 + 2, none⟩ = some (cs3[k * 8 + 2]'(by omega)) := (by rw [hblk.cell]; exact Array.getElem?_eq_getElem (by omega)); have x3 : w3.cell? ⟨w.heap.size, k * 8 + 3, none⟩ = some (cs3[k * 8 + 3]'(by omega)) := (by rw [hblk.cell]; exact Array.getElem?_eq_getElem (by omega)); have x4 : w3.cell? ⟨w.heap.size, k * 8 + 4, none⟩ = some (cs3[k * 8 + 4]'(by omega)) := (by rw [hblk.cell]; exact Array.getElem?_eq_getElem (by omega)); have x5 : w3.cell? ⟨w.heap.size, k * 8 + 5, none⟩ = some (cs3[k * 8 + 5]'(by omega)) := (by rw [hblk.cell]; exact Array.getElem?_eq_getElem (by omega)); have x6 : w3.cell? ⟨w.heap.size, k * 8 + 6, none⟩ = some (cs3[k * 8 + 6]'(by omega)) := (by rw [hblk.cell]; exact Array.getElem?_eq_getElem (by omega)); have x7 : w3.cell? ⟨w.heap.size, k * 8 + 7, none⟩ = some (cs3[k * 8 + 7]'(by omega)) := (by rw [hblk.cell]; exact Array.getElem?_eq_getElem (by omega))
      generalize cs3[k * 8 + 0]'(by omega) = y0 at x0; generalize cs3[k * 8 + 1]'(by omega) = y1 at x1; generalize cs3[k * 8 + 2]'(by omega) = y2 at x2; generalize cs3[k * 8 + 3]'(by omega) = y3 at x3; generalize cs3[k * 8 + 4]'(by omega) = y4 at x4; generalize cs3[k * 8 + 5]'(by omega) = y5 at x5; generalize cs3[k * 8 + 6]'(by omega) = y6 at x6; generalize cs3[k * 8 + 7]'(by omega) = y7 at x7
      rw [Nat.add_zero] at x0
      have uf := hblk.frozen
      have hl3 := hblk.lt
      clear hblk hsz hk8 hN hb3
      obtain ⟨g1, g2, rfl, _⟩ := HN.out
      go_wp2_with fail
      go_roundw
      case rel =>
        have st := HCP3.out.step HTK.out (HN.out.put (by omega)) HN.out.len (fun y es h => h.put (by omega))
        exact ⟨k + 1, by omega, by go_num, st, putAll_below (ds := [_, _, _, _, _, _, _, _]) hC3 (Nat.le_refl _)⟩
      case measure => simp [intOf]; omega
    · have hkl : k = l.length := by omega
      have HF := Lib.hid (show CopyG (NodeN (w.heap.size + 1)) 8 83 wr w.heap.size l l.length by rw [← hkl]; exact HCP.out)
      clear hkl
      go_wp2_with fail
      go_ret
      exact ⟨rfl, HF.out, hB⟩
theorem make_bind (n : Nat) (h : n ≤ 1048576) (w : World) : (Instr.makeSlice 33 (.int .i64 (n : Int)) (.int .i64 (n : Int))).run Tryz.prog w = .ok (.slice (some ⟨w.heap.size, 0, none⟩) n n) (w.alloc (.cells (madeCells #[.int .i64 0, .int .i64 0] (n * 2)) 100)) := by
  obtain ⟨i, hi, hzz⟩ := Option.map_eq_some_iff.1 Tryz.infoBind
  simp only [Prod.mk.injEq] at hzz
  obtain ⟨hz, hs, hb⟩ := hzz
  have := run_make (P := Tryz.prog) w 33 100 i _ Tryz.underlying33 hi hz .i64 .i64 n n (by omega) (Int.le_refl _) (by rw [hb]; omega) (by omega)
  rw [this, hs]
  simp [Value.cells]
def NewBindS (w : World) (l : List BV) (e : Ending) (w' : World) : Prop := e = .returned (.slice (some ⟨w.heap.size, 0, none⟩) l.length l.length) ∧ CopyG (BindN (w.heap.size + 1)) 2 100 w' w.heap.size l l.length ∧ Below w.heap.size w w'

set_option maxHeartbeats 1600000 in
theorem toBindS_any (v : Value) (l : List BV) (w : World) (hv : BindSl w v l) (hlen : l.length ≤ 1048576) :
    Calls Tryz.prog 61 #[v] w (NewBindS w l) := by
  obtain ⟨A, c, rfl, hA⟩ := hv.form
  have HA := Lib.hid hA
  clear hA hv
  have hmk := make_bind l.length hlen
  go_enter Tryz.func61, Tryz.ntmps61
  go_wp2_with fail
  go_loopw [4] (fun s4 wr => ∃ k : Nat, k ≤ l.length ∧ s4 = .int .i64 k ∧ CopyG (BindN (w.heap.size + 1)) 2 100 wr w.heap.size l k ∧ Below w.heap.size w wr) (fun s4 _ => (l.length - intOf s4).toNat)
  case atStart =>
    exact ⟨0, by omega, rfl, ⟨_, BlockIs.new _ _ _, size_madeCells _ _, fun i r hi => absurd hi (by omega)⟩, (by repeat' (first | exact Below.refl _ _ | refine Below.alloc ?_ ?_ _ | refine Below.setCell ?_ ?_ _ | refine Below.drew ?_ | (apply below_step; assumption) | (simp; done) | (simp; omega) | omega))⟩
  case round =>
    obtain ⟨k, hk, rfl, hcp, hB⟩ := hrel
    have HCP := Lib.hid hcp
    have hgl := hcp.lt
    have hzr := hB.size
    clear hcp
    by_cases hlt : k < l.length
    · obtain ⟨b, off, rfl, hbw, hat⟩ := HA.out (by omega)
      obtain ⟨t, ht⟩ : ∃ t, l[k]? = some t := ⟨_, List.getElem?_eq_getElem hlt⟩
      obtain ⟨cs, hR, hC⟩ := (hat.below BindR.kept hB hbw) k t ht
      have HTK := Lib.hid ht
      have HR := Lib.hid (toBind_n t cs wr hR)
      obtain rfl := hR
      skip
      obtain ⟨q0, q1⟩ := bind_cells hC
      clear hat hC ht
      go_wp2_with fail
      refine HR.out.mono ?_
      rintro e w3 ⟨ds, rfl, hN, hb3⟩
      have hz3 := hb3.size
      have hC3 := below_of hB hb3
      have hcp := HCP.out.below (BindN.kept _) hb3
      have HN := Lib.hid (show BindN (w.heap.size + 1) w3 t ds from hN)
      have HCP3 := Lib.hid hcp
      obtain ⟨cs3, hblk, hsz, _⟩ := hcp
      have hk2 : k * 2 + 2 ≤ cs3.size := by omega
      have x0 : w3.cell? ⟨w.heap.size, k * 2 + 0, none⟩ = some (cs3[k * 2 + 0]'(by omega)) := (by rw [hblk.cell]; exact Array.getElem?_eq_getElem (by omega)); have x1 : w3.cell? ⟨w.heap.size, k * 2 + 1, none⟩ = some (cs3[k * 2 + 1]'(by omega)) := (by rw [hblk.cell]; exact Array.getElem?_eq_getElem (by omega))
      generalize cs3[k * 2 + 0]'(by omega) = y0 at x0; generalize cs3[k * 2 + 1]'(by omega) = y1 at x1
      rw [Nat.add_zero] at x0
      have uf := hblk.frozen
      have hl3 := hblk.lt
      clear hblk hsz hk2 hN hb3
      obtain rfl := HN.out
      go_wp2_with fail
      go_roundw
      case rel =>
        have st := HCP3.out.step HTK.out (HN.out.put (by omega)) HN.out.len (fun y es h => h.put (by omega))
        exact ⟨k + 1, by omega, by go_num, st, putAll_below (ds := [_, _]) hC3 (Nat.le_refl _)⟩
      case measure => simp [intOf]; omega
    · have hkl : k = l.length := by omega
      have HF := Lib.hid (show CopyG (BindN (w.heap.size + 1)) 2 100 wr w.heap.size l l.length by rw [← hkl]; exact HCP.out)
      clear hkl
      go_wp2_with fail
      go_ret
      exact ⟨rfl, HF.out, hB⟩
end Go.Proofs.YtmkpajjnjgnmkaaGreatDoor
namespace Go.Proofs.YtmkpajjnjgnmkaaGreatDoor
open Go.RowKit

section
variable {α : Type} {R S : World → α → List Value → Prop} {n g k : Nat} {ty : TypeId} {w w' : World} {l : List α}
theorem CopyG.weaken (h : CopyG R n ty w g l k) (hRS : ∀ x cs, R w x cs → S w x cs) : CopyG S n ty w g l k := by
  obtain ⟨cs, h1, h2, h3⟩ := h
  refine ⟨cs, h1, h2, fun i x hi hx => ?_⟩
  obtain ⟨ds, a, b⟩ := h3 i x hi hx
  exact ⟨ds, hRS _ _ a, b⟩
theorem CopyG.putFar {b o : Nat} {es : List Value} (h : CopyG R n ty w g l k) (hne : g ≠ b) (hp : ∀ y ds, R w y ds → R (putAll w b o es) y ds) : CopyG R n ty (putAll w b o es) g l k := by
  obtain ⟨cs, h1, h2, h3⟩ := h
  refine ⟨cs, h1.putFar hne, h2, fun i x hi hx => ?_⟩
  obtain ⟨ds, a, b⟩ := h3 i x hi hx
  exact ⟨ds, hp _ _ a, b⟩
end
theorem TaskN.lower {b base : Nat} {w : World} {t : TV} {cs : List Value} (h : TaskN base w t cs) (hb : b ≤ base) : TaskN b w t cs := by
  obtain ⟨g1, g2, e, h1, h2, h3⟩ := h; exact ⟨g1, g2, e, by omega, by omega, h3⟩
theorem NodeN.lower {b base : Nat} {w : World} {t : NV} {cs : List Value} (h : NodeN base w t cs) (hb : b ≤ base) : NodeN b w t cs := by
  obtain ⟨g1, g2, e, h1, h2, h3⟩ := h; exact ⟨g1, g2, e, by omega, by omega, h3⟩
theorem BindN.lower {b base : Nat} {w : World} {t : BV} {cs : List Value} (h : BindN base w t cs) (_ : b ≤ base) : BindN b w t cs := h
def CluN (base : Nat) (w : World) (c : CV) (g0 g1 g2 : Nat) : Prop := base ≤ g0 ∧ base ≤ g1 ∧ base ≤ g2 ∧ CopyG (TaskN base) 7 88 w g0 c.tasks c.tasks.length ∧ CopyG (NodeN base) 8 83 w g1 c.nodes c.nodes.length ∧ CopyG (BindN base) 2 100 w g2 c.binds c.binds.length ∧
  c.tasks.length ≤ 1048576 ∧ c.nodes.length ≤ 1048576 ∧ c.binds.length ≤ 1048576
theorem CluN.below {base : Nat} {w w' : World} {c : CV} {g0 g1 g2 : Nat} (h : CluN base w c g0 g1 g2) (hb : Below w.heap.size w w') : CluN base w' c g0 g1 g2 := by
  obtain ⟨a0, a1, a2, h0, h1, h2, l⟩ := h
  exact ⟨a0, a1, a2, h0.below (TaskN.kept _) hb, h1.below (NodeN.kept _) hb, h2.below (BindN.kept _) hb, l⟩
theorem CluN.clu {base : Nat} {w : World} {c : CV} {g0 g1 g2 : Nat} (h : CluN base w c g0 g1 g2) : CluR w c (.slice (some ⟨g0, 0, none⟩) c.tasks.length c.tasks.length) (.slice (some ⟨g1, 0, none⟩) c.nodes.length c.nodes.length) (.slice (some ⟨g2, 0, none⟩) c.binds.length c.binds.length) := by
  obtain ⟨a0, a1, a2, h0, h1, h2, l⟩ := h
  exact ⟨h0.sl (fun _ _ h => h.r), h1.sl (fun _ _ h => h.r), h2.sl (fun _ _ h => h.r), l⟩
def NewClu (w : World) (c : CV) (e : Ending) (w' : World) : Prop := ∃ g0 g1 g2, e = .returned (.agg #[.slice (some ⟨g0, 0, none⟩) c.tasks.length c.tasks.length, .slice (some ⟨g1, 0, none⟩) c.nodes.length c.nodes.length, .slice (some ⟨g2, 0, none⟩) c.binds.length c.binds.length]) ∧ CluN w.heap.size w' c g0 g1 g2 ∧ Below w.heap.size w w'

set_option maxHeartbeats 1600000 in
theorem toCluster_any (c : CV) (a0 a1 a2 : Value) (w : World) (hc : CluR w c a0 a1 a2) :
    Calls Tryz.prog 17 #[.agg #[a0, a1, a2]] w (NewClu w c) := by
  have HC := Lib.hid hc
  obtain ⟨h0, h1, h2, l0, l1, l2⟩ := hc
  obtain ⟨D0, e0, rfl, _⟩ := h0.form
  obtain ⟨D1, e1, rfl, _⟩ := h1.form
  obtain ⟨D2, e2, rfl, _⟩ := h2.form
  have L := Lib.hid (And.intro l0 (And.intro l1 l2))
  clear h0 h1 h2 l0 l1 l2
  go_enter Tryz.func17, Tryz.ntmps17
  go_wp2_with fail
  have hX : Below w.heap.size w (((w.alloc (.cells #[.slice D0 c.tasks.length e0, .slice D1 c.nodes.length e1, .slice D2 c.binds.length e2] 26)).alloc (.cells #[.slice none 0 0, .slice none 0 0, .slice none 0 0] 35)).alloc (.cells #[.slice none 0 0, .slice none 0 0, .slice none 0 0] 35)) := (by repeat' (first | exact Below.refl _ _ | refine Below.alloc ?_ ?_ _ | refine Below.setCell ?_ ?_ _ | refine Below.drew ?_ | (apply below_step; assumption) | (simp; done) | (simp; omega) | omega))
  refine (toTaskS_any _ c.tasks _ (HC.out.below hX).1 L.out.1).mono ?_
  rintro e w1 ⟨rfl, hg1, hb1⟩
  have hs1 : (((w.alloc (.cells #[.slice D0 c.tasks.length e0, .slice D1 c.nodes.length e1, .slice D2 c.binds.length e2] 26)).alloc (.cells #[.slice none 0 0, .slice none 0 0, .slice none 0 0] 35)).alloc (.cells #[.slice none 0 0, .slice none 0 0, .slice none 0 0] 35)).heap.size = w.heap.size + 3 := by simp
  have B0 : BlockIs w1 w.heap.size 26 #[.slice D0 c.tasks.length e0, .slice D1 c.nodes.length e1, .slice D2 c.binds.length e2] := (((BlockIs.new w _ _).alloc _).alloc _).below hb1 (by simp; omega)
  have B1 : BlockIs w1 (w.heap.size + 1) 35 #[.slice none 0 0, .slice none 0 0, .slice none 0 0] := (BlockIs.alloc (BlockIs.new' (by simp)) _).below hb1 (by simp)
  have B2 : BlockIs w1 (w.heap.size + 1 + 1) 35 #[.slice none 0 0, .slice none 0 0, .slice none 0 0] := (BlockIs.new' (by simp)).below hb1 (by simp)
  have hC1 := below_of hX hb1
  have hz1 := hb1.size
  rw [hs1] at hz1
  generalize hX3 : (((w.alloc (.cells #[.slice D0 c.tasks.length e0, .slice D1 c.nodes.length e1, .slice D2 c.binds.length e2] 26)).alloc (.cells #[.slice none 0 0, .slice none 0 0, .slice none 0 0] 35)).alloc (.cells #[.slice none 0 0, .slice none 0 0, .slice none 0 0] 35)).heap.size = G0 at hg1 hs1 ⊢
  subst hs1
  have T1 := hg1.weaken (S := TaskN (w.heap.size + 3)) (fun _ _ h => h.lower (by omega))
  have c1 := B0.cell 1
  have d0 := B2.cell 0
  have f2 := B2.frozen
  simp at c1 d0
  have HB0 := Lib.hid B0
  have HB1 := Lib.hid B1
  have HB2 := Lib.hid B2
  have HT1 := Lib.hid T1
  clear B0 B1 B2 hb1 hX hg1 T1 hX3
  go_wp2_with fail
  have hC1' : Below w.heap.size w (w1.setCell ⟨w.heap.size + 1 + 1, 0, none⟩ (.slice (some ⟨w.heap.size + 3, 0, none⟩) c.tasks.length c.tasks.length)) := hC1.setCell (by dsimp only; omega) _
  refine (toNodeS_any _ c.nodes _ (HC.out.below hC1').2.1 L.out.2.1).mono ?_
  rintro e w2 ⟨rfl, hg2, hb2⟩
  have hsz1 : (w1.setCell ⟨w.heap.size + 1 + 1, 0, none⟩ (.slice (some ⟨w.heap.size + 3, 0, none⟩) c.tasks.length c.tasks.length)).heap.size = w1.heap.size := by simp [World.setCell]
  have hC2 := below_of hC1' hb2
  have T2 := (HT1.out.putFar (b := w.heap.size + 1 + 1) (o := 0) (es := [.slice (some ⟨w.heap.size + 3, 0, none⟩) c.tasks.length c.tasks.length]) (by omega) (fun y ds h => h.put (by omega))).below (TaskN.kept _) hb2
  have B0 := (HB0.out.far (p := ⟨w.heap.size + 1 + 1, 0, none⟩) (by dsimp only; omega) (.slice (some ⟨w.heap.size + 3, 0, none⟩) c.tasks.length c.tasks.length)).below hb2 (by rw [hsz1]; omega)
  have B1 := (HB1.out.far (p := ⟨w.heap.size + 1 + 1, 0, none⟩) (by dsimp only; omega) (.slice (some ⟨w.heap.size + 3, 0, none⟩) c.tasks.length c.tasks.length)).below hb2 (by rw [hsz1]; omega)
  have B2 := (HB2.out.put 0 (.slice (some ⟨w.heap.size + 3, 0, none⟩) c.tasks.length c.tasks.length)).below hb2 (by rw [hsz1]; omega)
  have hz2 := hb2.size
  rw [hsz1] at hz2 hg2 ⊢
  have N2 := hg2.weaken (S := NodeN (w.heap.size + 3)) (fun _ _ h => h.lower (by omega))
  have c2 := B0.cell 2
  have d1 := B2.cell 1
  have f2 := B2.frozen
  simp at c2 d1
  have HB1 := Lib.hid B1
  have HB2 := Lib.hid B2
  have HT2 := Lib.hid T2
  have HN2 := Lib.hid N2
  clear B0 B1 B2 hb2 hg2 T2 N2 HB0 hC1 hC1' c1 d0 hsz1
  go_wp2_with fail
  have hC2' : Below w.heap.size w (w2.setCell ⟨w.heap.size + 1 + 1, 1, none⟩ (.slice (some ⟨w1.heap.size, 0, none⟩) c.nodes.length c.nodes.length)) := hC2.setCell (by dsimp only; omega) _
  refine (toBindS_any _ c.binds _ (HC.out.below hC2').2.2.1 L.out.2.2).mono ?_
  rintro e w3 ⟨rfl, hg3, hb3⟩
  have hsz2 : (w2.setCell ⟨w.heap.size + 1 + 1, 1, none⟩ (.slice (some ⟨w1.heap.size, 0, none⟩) c.nodes.length c.nodes.length)).heap.size = w2.heap.size := by simp [World.setCell]
  have hC3 := below_of hC2' hb3
  have T3 := (HT2.out.putFar (b := w.heap.size + 1 + 1) (o := 1) (es := [.slice (some ⟨w1.heap.size, 0, none⟩) c.nodes.length c.nodes.length]) (by omega) (fun y ds h => h.put (by omega))).below (TaskN.kept _) hb3
  have N3 := (HN2.out.putFar (b := w.heap.size + 1 + 1) (o := 1) (es := [.slice (some ⟨w1.heap.size, 0, none⟩) c.nodes.length c.nodes.length]) (by omega) (fun y ds h => h.put (by omega))).below (NodeN.kept _) hb3
  have B1 := (HB1.out.far (p := ⟨w.heap.size + 1 + 1, 1, none⟩) (by dsimp only; omega) (.slice (some ⟨w1.heap.size, 0, none⟩) c.nodes.length c.nodes.length)).below hb3 (by rw [hsz2]; omega)
  have B2 := (HB2.out.put 1 (.slice (some ⟨w1.heap.size, 0, none⟩) c.nodes.length c.nodes.length)).below hb3 (by rw [hsz2]; omega)
  have hz3 := hb3.size
  rw [hsz2] at hz3 hg3 ⊢
  have K3 := hg3.weaken (S := BindN (w.heap.size + 3)) (fun _ _ h => h.lower (by omega))
  have d0 := B2.cell 0
  have d1 := B2.cell 1
  have d2 := B2.cell 2
  have f2 := B2.frozen
  have x0 := B1.cell 0
  have x1 := B1.cell 1
  have x2 := B1.cell 2
  have f1 := B1.frozen
  simp at d0 d1 d2 x0 x1 x2
  have HB1 := Lib.hid B1
  have HT3 := Lib.hid T3
  have HN3 := Lib.hid N3
  have HK3 := Lib.hid K3
  clear B1 B2 hb3 hg3 T3 N3 K3 HB2 HT2 HN2 hC2 hC2' c2 hsz2 HT1
  go_wp2_with fail
  have hZ : BlockIs ((((w3.setCell ⟨w.heap.size + 1 + 1, 2, none⟩ (.slice (some ⟨w2.heap.size, 0, none⟩) c.binds.length c.binds.length)).setCell ⟨w.heap.size + 1, 0, none⟩ (.slice (some ⟨w.heap.size + 3, 0, none⟩) c.tasks.length c.tasks.length)).setCell ⟨w.heap.size + 1, 1, none⟩ (.slice (some ⟨w1.heap.size, 0, none⟩) c.nodes.length c.nodes.length)).setCell ⟨w.heap.size + 1, 2, none⟩ (.slice (some ⟨w2.heap.size, 0, none⟩) c.binds.length c.binds.length)) (w.heap.size + 1) 35 #[.slice (some ⟨w.heap.size + 3, 0, none⟩) c.tasks.length c.tasks.length, .slice (some ⟨w1.heap.size, 0, none⟩) c.nodes.length c.nodes.length, .slice (some ⟨w2.heap.size, 0, none⟩) c.binds.length c.binds.length] := by
    have := (((HB1.out.far (p := ⟨w.heap.size + 1 + 1, 2, none⟩) (by dsimp only; omega) (.slice (some ⟨w2.heap.size, 0, none⟩) c.binds.length c.binds.length)).put 0 (.slice (some ⟨w.heap.size + 3, 0, none⟩) c.tasks.length c.tasks.length)).put 1 (.slice (some ⟨w1.heap.size, 0, none⟩) c.nodes.length c.nodes.length)).put 2 (.slice (some ⟨w2.heap.size, 0, none⟩) c.binds.length c.binds.length)
    simpa using this
  have hN : CluN w.heap.size ((((w3.setCell ⟨w.heap.size + 1 + 1, 2, none⟩ (.slice (some ⟨w2.heap.size, 0, none⟩) c.binds.length c.binds.length)).setCell ⟨w.heap.size + 1, 0, none⟩ (.slice (some ⟨w.heap.size + 3, 0, none⟩) c.tasks.length c.tasks.length)).setCell ⟨w.heap.size + 1, 1, none⟩ (.slice (some ⟨w1.heap.size, 0, none⟩) c.nodes.length c.nodes.length)).setCell ⟨w.heap.size + 1, 2, none⟩ (.slice (some ⟨w2.heap.size, 0, none⟩) c.binds.length c.binds.length)) c (w.heap.size + 3) w1.heap.size w2.heap.size := by
    refine ⟨by omega, by omega, by omega, ?_, ?_, ?_, L.out⟩
    · exact ((HT3.out.putFar (b := w.heap.size + 1 + 1) (o := 2) (es := [.slice (some ⟨w2.heap.size, 0, none⟩) c.binds.length c.binds.length]) (by omega) (fun y ds h => h.put (by omega))).putFar (b := w.heap.size + 1) (o := 0) (es := [.slice (some ⟨w.heap.size + 3, 0, none⟩) c.tasks.length c.tasks.length, .slice (some ⟨w1.heap.size, 0, none⟩) c.nodes.length c.nodes.length, .slice (some ⟨w2.heap.size, 0, none⟩) c.binds.length c.binds.length]) (by omega) (fun y ds h => h.put (by omega))).weaken (fun _ _ h => h.lower (by omega))
    · exact ((HN3.out.putFar (b := w.heap.size + 1 + 1) (o := 2) (es := [.slice (some ⟨w2.heap.size, 0, none⟩) c.binds.length c.binds.length]) (by omega) (fun y ds h => h.put (by omega))).putFar (b := w.heap.size + 1) (o := 0) (es := [.slice (some ⟨w.heap.size + 3, 0, none⟩) c.tasks.length c.tasks.length, .slice (some ⟨w1.heap.size, 0, none⟩) c.nodes.length c.nodes.length, .slice (some ⟨w2.heap.size, 0, none⟩) c.binds.length c.binds.length]) (by omega) (fun y ds h => h.put (by omega))).weaken (fun _ _ h => h.lower (by omega))
    · exact ((HK3.out.putFar (b := w.heap.size + 1 + 1) (o := 2) (es := [.slice (some ⟨w2.heap.size, 0, none⟩) c.binds.length c.binds.length]) (by omega) (fun y ds h => h.put (by omega))).putFar (b := w.heap.size + 1) (o := 0) (es := [.slice (some ⟨w.heap.size + 3, 0, none⟩) c.tasks.length c.tasks.length, .slice (some ⟨w1.heap.size, 0, none⟩) c.nodes.length c.nodes.length, .slice (some ⟨w2.heap.size, 0, none⟩) c.binds.length c.binds.length]) (by omega) (fun y ds h => h.put (by omega))).weaken (fun _ _ h => h.lower (by omega))
  have hB : Below w.heap.size w ((((w3.setCell ⟨w.heap.size + 1 + 1, 2, none⟩ (.slice (some ⟨w2.heap.size, 0, none⟩) c.binds.length c.binds.length)).setCell ⟨w.heap.size + 1, 0, none⟩ (.slice (some ⟨w.heap.size + 3, 0, none⟩) c.tasks.length c.tasks.length)).setCell ⟨w.heap.size + 1, 1, none⟩ (.slice (some ⟨w1.heap.size, 0, none⟩) c.nodes.length c.nodes.length)).setCell ⟨w.heap.size + 1, 2, none⟩ (.slice (some ⟨w2.heap.size, 0, none⟩) c.binds.length c.binds.length)) := ((((hC3.setCell (by dsimp only; omega) _).setCell (by dsimp only; omega) _).setCell (by dsimp only; omega) _).setCell (by dsimp only; omega) _)
  generalize ((((w3.setCell ⟨w.heap.size + 1 + 1, 2, none⟩ (.slice (some ⟨w2.heap.size, 0, none⟩) c.binds.length c.binds.length)).setCell ⟨w.heap.size + 1, 0, none⟩ (.slice (some ⟨w.heap.size + 3, 0, none⟩) c.tasks.length c.tasks.length)).setCell ⟨w.heap.size + 1, 1, none⟩ (.slice (some ⟨w1.heap.size, 0, none⟩) c.nodes.length c.nodes.length)).setCell ⟨w.heap.size + 1, 2, none⟩ (.slice (some ⟨w2.heap.size, 0, none⟩) c.binds.length c.binds.length)) = X at hZ hN hB ⊢
  have z0 := hZ.cell 0
  have z1 := hZ.cell 1
  have z2 := hZ.cell 2
  simp at z0 z1 z2
  exact bodyPost_ret (v := .agg #[.slice (some ⟨w.heap.size + 3, 0, none⟩) c.tasks.length c.tasks.length, .slice (some ⟨w1.heap.size, 0, none⟩) c.nodes.length c.nodes.length, .slice (some ⟨w2.heap.size, 0, none⟩) c.binds.length c.binds.length]) (by simp [results, Tryz.results17, go_sem, z0, z1, z2]) rfl ⟨_, _, _, rfl, hN, hB⟩

theorem eqBind_same (t : BV) (w : World) : Calls Tryz.prog 130 #[.agg #[.int .i64 t.task, .int .i64 t.node], .agg #[.int .i64 t.task, .int .i64 t.node]] w fun e w' => e = .returned (.bool true) ∧ Below w.heap.size w w' := by
  have h1 : (t.task != t.task) = false := by simp
  have h2 : (t.node != t.node) = false := by simp
  go_enter Tryz.func130, Tryz.ntmps130
  go_wp2
  go_ret
  exact ⟨rfl, (by repeat' (first | exact Below.refl _ _ | refine Below.alloc ?_ ?_ _ | refine Below.setCell ?_ ?_ _ | refine Below.drew ?_ | (apply below_step; assumption) | (simp; done) | (simp; omega) | omega))⟩
theorem eqTask_r (t : TV) (cs ds : List Value) (w : World) (h : TaskR w t cs) (k : TaskR w t ds) : Calls Tryz.prog 128 #[.agg cs.toArray, .agg ds.toArray] w fun e w' => e = .returned (.bool true) ∧ Below w.heap.size w w' := by
  obtain ⟨v1, v2, rfl, h1, h2, l1, l2⟩ := h
  obtain ⟨u1, u2, rfl, k1, k2, _, _⟩ := k
  exact eqTask_same t v1 v2 u1 u2 w h1 h2 k1 k2 l1 l2
theorem eqNode_r (t : NV) (cs ds : List Value) (w : World) (h : NodeR w t cs) (k : NodeR w t ds) : Calls Tryz.prog 129 #[.agg cs.toArray, .agg ds.toArray] w fun e w' => e = .returned (.bool true) ∧ Below w.heap.size w w' := by
  obtain ⟨v1, v2, rfl, h1, h2, l1, l2⟩ := h
  obtain ⟨u1, u2, rfl, k1, k2, _, _⟩ := k
  exact eqNode_same t v1 v2 u1 u2 w h1 h2 k1 k2 l1 l2
theorem eqBind_r (t : BV) (cs ds : List Value) (w : World) (h : BindR w t cs) (k : BindR w t ds) : Calls Tryz.prog 130 #[.agg cs.toArray, .agg ds.toArray] w fun e w' => e = .returned (.bool true) ∧ Below w.heap.size w w' := by
  obtain rfl := h
  obtain rfl := k
  exact eqBind_same t w
set_option maxHeartbeats 1600000 in
set_option maxRecDepth 20000 in
theorem eqTaskS_same (v1 v2 : Value) (l : List TV) (w : World) (h1 : TaskSl w v1 l) (h2 : TaskSl w v2 l) (hlen : l.length ≤ 1048576) :
    Calls Tryz.prog 66 #[v1, v2] w fun e w' => e = .returned (.bool true) ∧ Below w.heap.size w w' := by
  obtain ⟨A, c, rfl, hA⟩ := h1.form
  obtain ⟨A', c', rfl, hA'⟩ := h2.form
  have HA := Lib.hid hA
  have HA' := Lib.hid hA'
  clear hA hA' h1 h2
  have hnn : ((l.length : Int) != (l.length : Int)) = false := by simp
  go_enter Tryz.func66, Tryz.ntmps66
  go_wp2_with fail
  go_loopw [5] (fun s5 wr => ∃ k : Nat, k ≤ l.length ∧ s5 = .int .i64 k ∧ Below w.heap.size w wr) (fun s5 _ => (l.length - intOf s5).toNat)
  case atStart => exact ⟨0, by omega, rfl, Below.refl _ _⟩
  case round =>
    obtain ⟨k, hk, rfl, hB⟩ := hrel
    have hzr := hB.size
    by_cases hlt : k < l.length
    · obtain ⟨b, off, rfl, hbw, hat⟩ := HA.out (by omega)
      obtain ⟨b', off', rfl, hbw', hat'⟩ := HA'.out (by omega)
      obtain ⟨t, ht⟩ : ∃ t, l[k]? = some t := ⟨_, List.getElem?_eq_getElem hlt⟩
      obtain ⟨ds, hR, hC⟩ := (hat'.below TaskR.kept hB hbw') k t ht
      have HR' := Lib.hid hR
      obtain ⟨v3, v4, rfl, sl, si, m1, m2⟩ := hR; obtain ⟨A3, c3, rfl, _⟩ := sl.form; obtain ⟨A4, c4, rfl, _⟩ := si.form; clear sl si m1 m2
      obtain ⟨p0, p1, p2, p3, p4, p5, p6⟩ := task_cells hC
      clear hC
      obtain ⟨cs, hR, hC⟩ := (hat.below TaskR.kept hB hbw) k t ht
      have HR := Lib.hid hR
      obtain ⟨v1, v2, rfl, sl, si, m1, m2⟩ := hR; obtain ⟨A1, c1, rfl, _⟩ := sl.form; obtain ⟨A2, c2, rfl, _⟩ := si.form
      clear sl si m1 m2
      obtain ⟨q0, q1, q2, q3, q4, q5, q6⟩ := task_cells hC
      have hbr : b < wr.heap.size := by omega
      have hbr' : b' < wr.heap.size := by omega
      have HK := Lib.hid (show ∀ w', Below wr.heap.size wr w' → Below wr.heap.size wr w' ∧ w'.cell? ⟨b, off + k * 7, none⟩ = some (.int .i64 t.id) ∧ w'.cell? ⟨b, off + k * 7 + 1, none⟩ = some (.int .i64 t.prio) ∧ w'.cell? ⟨b, off + k * 7 + 2, none⟩ = some (.int .i64 t.need.c) ∧ w'.cell? ⟨b, off + k * 7 + 3, none⟩ = some (.int .i64 t.need.m) ∧ w'.cell? ⟨b, off + k * 7 + 4, none⟩ = some (.int .i64 t.need.p) ∧ w'.cell? ⟨b, off + k * 7 + 5, none⟩ = some (.slice A1 t.want.length c1) ∧ w'.cell? ⟨b, off + k * 7 + 6, none⟩ = some (.slice A2 t.tols.length c2) ∧ w'.cell? ⟨b', off' + k * 7, none⟩ = some (.int .i64 t.id) ∧ w'.cell? ⟨b', off' + k * 7 + 1, none⟩ = some (.int .i64 t.prio) ∧ w'.cell? ⟨b', off' + k * 7 + 2, none⟩ = some (.int .i64 t.need.c) ∧ w'.cell? ⟨b', off' + k * 7 + 3, none⟩ = some (.int .i64 t.need.m) ∧ w'.cell? ⟨b', off' + k * 7 + 4, none⟩ = some (.int .i64 t.need.p) ∧ w'.cell? ⟨b', off' + k * 7 + 5, none⟩ = some (.slice A3 t.want.length c3) ∧ w'.cell? ⟨b', off' + k * 7 + 6, none⟩ = some (.slice A4 t.tols.length c4) from fun w' hb => ⟨hb, (hb.cell (p := ⟨_, _, none⟩) hbr).trans q0, (hb.cell (p := ⟨_, _, none⟩) hbr).trans q1, (hb.cell (p := ⟨_, _, none⟩) hbr).trans q2, (hb.cell (p := ⟨_, _, none⟩) hbr).trans q3, (hb.cell (p := ⟨_, _, none⟩) hbr).trans q4, (hb.cell (p := ⟨_, _, none⟩) hbr).trans q5, (hb.cell (p := ⟨_, _, none⟩) hbr).trans q6, (hb.cell (p := ⟨_, _, none⟩) hbr').trans p0, (hb.cell (p := ⟨_, _, none⟩) hbr').trans p1, (hb.cell (p := ⟨_, _, none⟩) hbr').trans p2, (hb.cell (p := ⟨_, _, none⟩) hbr').trans p3, (hb.cell (p := ⟨_, _, none⟩) hbr').trans p4, (hb.cell (p := ⟨_, _, none⟩) hbr').trans p5, (hb.cell (p := ⟨_, _, none⟩) hbr').trans p6⟩)
      have hlti : (k : Int) < (l.length : Int) := by omega
      have hk0 : (0 : Int) ≤ (k : Int) := by omega
      clear hat hat' ht hC q0 q1 q2 q3 q4 q5 q6 p0 p1 p2 p3 p4 p5 p6
      go_wp2_with fail
      refine wp_region_held_drew (S := (fun w' => Below wr.heap.size wr w' ∧ w'.cell? ⟨b, off + k * 7, none⟩ = some (.int .i64 t.id) ∧ w'.cell? ⟨b, off + k * 7 + 1, none⟩ = some (.int .i64 t.prio) ∧ w'.cell? ⟨b, off + k * 7 + 2, none⟩ = some (.int .i64 t.need.c) ∧ w'.cell? ⟨b, off + k * 7 + 3, none⟩ = some (.int .i64 t.need.m) ∧ w'.cell? ⟨b, off + k * 7 + 4, none⟩ = some (.int .i64 t.need.p) ∧ w'.cell? ⟨b, off + k * 7 + 5, none⟩ = some (.slice A1 t.want.length c1) ∧ w'.cell? ⟨b, off + k * 7 + 6, none⟩ = some (.slice A2 t.tols.length c2) ∧ w'.cell? ⟨b', off' + k * 7, none⟩ = some (.int .i64 t.id) ∧ w'.cell? ⟨b', off' + k * 7 + 1, none⟩ = some (.int .i64 t.prio) ∧ w'.cell? ⟨b', off' + k * 7 + 2, none⟩ = some (.int .i64 t.need.c) ∧ w'.cell? ⟨b', off' + k * 7 + 3, none⟩ = some (.int .i64 t.need.m) ∧ w'.cell? ⟨b', off' + k * 7 + 4, none⟩ = some (.int .i64 t.need.p) ∧ w'.cell? ⟨b', off' + k * 7 + 5, none⟩ = some (.slice A3 t.want.length c3) ∧ w'.cell? ⟨b', off' + k * 7 + 6, none⟩ = some (.slice A4 t.tols.length c4))) (by kernel_rfl) (by (try dsimp only); exact HK.out _ (by repeat' (first | exact Below.refl _ _ | refine Below.alloc ?_ ?_ _ | refine Below.setCell ?_ ?_ _ | refine Below.drew ?_ | (apply below_step; assumption) | (simp; done) | (simp; omega) | omega))) (fun hHeld => ?_)
      refine hT 0 ?_; simp only [Act.put, rhA, rhS, rhT]
      refine hT 1 ?_; simp only [Act.put, rhA, rhS, rhT]
      refine hT 2 ?_; simp only [Act.put, rhA, rhS, rhT]
      refine hT 3 ?_; simp only [Act.put, rhA, rhS, rhT]
      refine hT 4 ?_; simp only [Act.put, rhA, rhS, rhT]
      refine hT 5 ?_; simp only [Act.put, rhA, rhS, rhT]
      refine hT 6 ?_; simp only [Act.put, rhA, rhS, rhT]
      refine hT 7 ?_; simp only [Act.put, rhA, rhS, rhT]
      refine hCall (i := 8) (o := ?a10) ?b10 (by kernel_rfl) ?c10 (fun K hK => ?d10)
      case b10 => simp only [rhN, rhM]; try rfl
      case c10 => rfl
      go_simp
      refine (eqTask_r t _ _ _ (TaskR.kept _ _ _ _ (by repeat' (first | exact Below.refl _ _ | refine Below.alloc ?_ ?_ _ | refine Below.setCell ?_ ?_ _ | refine Below.drew ?_ | (apply below_step; assumption) | (simp; done) | (simp; omega) | omega)) HR.out) (TaskR.kept _ _ _ _ (by repeat' (first | exact Below.refl _ _ | refine Below.alloc ?_ ?_ _ | refine Below.setCell ?_ ?_ _ | refine Below.drew ?_ | (apply below_step; assumption) | (simp; done) | (simp; omega) | omega)) HR'.out)).mono ?_
      rintro e w3 ⟨rfl, hb3⟩
      have hz3 := hb3.size
      try simp at hz3
      go_wp2_with fail
      refine hK.out _ _ (by (try dsimp only); exact HK.out _ (by repeat' (first | exact Below.refl _ _ | refine Below.alloc ?_ ?_ _ | refine Below.setCell ?_ ?_ _ | refine Below.drew ?_ | (apply below_step; assumption) | (simp; done) | (simp; omega) | omega))) (fun hHeld => ?_)
      clear hK K
      try simp only [Act.put, rhA, rhS, rhT]
      refine hT 9 ?_; simp only [Act.put, rhA, rhS, rhT]
      refine wpAnyH_done (by kernel_rfl) ?_ _
      go_wp2_with fail
      go_roundw
      case rel => exact ⟨k + 1, by omega, by go_num, (by repeat' (first | exact Below.refl _ _ | refine Below.alloc ?_ ?_ _ | refine Below.setCell ?_ ?_ _ | refine Below.drew ?_ | (apply below_step; assumption) | (simp; done) | (simp; omega) | omega))⟩
      case measure => simp [intOf]; omega
    · go_wp2_with fail
      go_ret
      exact ⟨rfl, hB⟩
set_option maxHeartbeats 1600000 in
set_option maxRecDepth 20000 in
theorem eqNodeS_same (v1 v2 : Value) (l : List NV) (w : World) (h1 : NodeSl w v1 l) (h2 : NodeSl w v2 l) (hlen : l.length ≤ 1048576) :
    Calls Tryz.prog 67 #[v1, v2] w fun e w' => e = .returned (.bool true) ∧ Below w.heap.size w w' := by
  obtain ⟨A, c, rfl, hA⟩ := h1.form
  obtain ⟨A', c', rfl, hA'⟩ := h2.form
  have HA := Lib.hid hA
  have HA' := Lib.hid hA'
  clear hA hA' h1 h2
  have hnn : ((l.length : Int) != (l.length : Int)) = false := by simp
  go_enter Tryz.func67, Tryz.ntmps67
  go_wp2_with fail
  go_loopw [5] (fun s5 wr => ∃ k : Nat, k ≤ l.length ∧ s5 = .int .i64 k ∧ Below w.heap.size w wr) (fun s5 _ => (l.length - intOf s5).toNat)
  case atStart => exact ⟨0, by omega, rfl, Below.refl _ _⟩
  case round =>
    obtain ⟨k, hk, rfl, hB⟩ := hrel
    have hzr := hB.size
    by_cases hlt : k < l.length
    · obtain ⟨b, off, rfl, hbw, hat⟩ := HA.out (by omega)
      obtain ⟨b', off', rfl, hbw', hat'⟩ := HA'.out (by omega)
      obtain ⟨t, ht⟩ : ∃ t, l[k]? = some t := ⟨_, List.getElem?_eq_getElem hlt⟩
      obtain ⟨ds, hR, hC⟩ := (hat'.below NodeR.kept hB hbw') k t ht
      have HR' := Lib.hid hR
      obtain ⟨v3, v4, rfl, sl, si, m1, m2⟩ := hR; obtain ⟨A3, c3, rfl, _⟩ := sl.form; obtain ⟨A4, c4, rfl, _⟩ := si.form; clear sl si m1 m2
      obtain ⟨p0, p1, p2, p3, p4, p5, p6, p7⟩ := node_cells hC
      clear hC
      obtain ⟨cs, hR, hC⟩ := (hat.below NodeR.kept hB hbw) k t ht
      have HR := Lib.hid hR
      obtain ⟨v1, v2, rfl, sl, si, m1, m2⟩ := hR; obtain ⟨A1, c1, rfl, _⟩ := sl.form; obtain ⟨A2, c2, rfl, _⟩ := si.form
      clear sl si m1 m2
      obtain ⟨q0, q1, q2, q3, q4, q5, q6, q7⟩ := node_cells hC
      have hbr : b < wr.heap.size := by omega
      have hbr' : b' < wr.heap.size := by omega
      have HK := Lib.hid (show ∀ w', Below wr.heap.size wr w' → Below wr.heap.size wr w' ∧ w'.cell? ⟨b, off + k * 8, none⟩ = some (.int .i64 t.id) ∧ w'.cell? ⟨b, off + k * 8 + 1, none⟩ = some (.int .i64 t.pool) ∧ w'.cell? ⟨b, off + k * 8 + 2, none⟩ = some (.int .i64 t.cap.c) ∧ w'.cell? ⟨b, off + k * 8 + 3, none⟩ = some (.int .i64 t.cap.m) ∧ w'.cell? ⟨b, off + k * 8 + 4, none⟩ = some (.int .i64 t.cap.p) ∧ w'.cell? ⟨b, off + k * 8 + 5, none⟩ = some (.slice A1 t.labs.length c1) ∧ w'.cell? ⟨b, off + k * 8 + 6, none⟩ = some (.slice A2 t.taints.length c2) ∧ w'.cell? ⟨b, off + k * 8 + 7, none⟩ = some (.bool t.cordon) ∧ w'.cell? ⟨b', off' + k * 8, none⟩ = some (.int .i64 t.id) ∧ w'.cell? ⟨b', off' + k * 8 + 1, none⟩ = some (.int .i64 t.pool) ∧ w'.cell? ⟨b', off' + k * 8 + 2, none⟩ = some (.int .i64 t.cap.c) ∧ w'.cell? ⟨b', off' + k * 8 + 3, none⟩ = some (.int .i64 t.cap.m) ∧ w'.cell? ⟨b', off' + k * 8 + 4, none⟩ = some (.int .i64 t.cap.p) ∧ w'.cell? ⟨b', off' + k * 8 + 5, none⟩ = some (.slice A3 t.labs.length c3) ∧ w'.cell? ⟨b', off' + k * 8 + 6, none⟩ = some (.slice A4 t.taints.length c4) ∧ w'.cell? ⟨b', off' + k * 8 + 7, none⟩ = some (.bool t.cordon) from fun w' hb => ⟨hb, (hb.cell (p := ⟨_, _, none⟩) hbr).trans q0, (hb.cell (p := ⟨_, _, none⟩) hbr).trans q1, (hb.cell (p := ⟨_, _, none⟩) hbr).trans q2, (hb.cell (p := ⟨_, _, none⟩) hbr).trans q3, (hb.cell (p := ⟨_, _, none⟩) hbr).trans q4, (hb.cell (p := ⟨_, _, none⟩) hbr).trans q5, (hb.cell (p := ⟨_, _, none⟩) hbr).trans q6, (hb.cell (p := ⟨_, _, none⟩) hbr).trans q7, (hb.cell (p := ⟨_, _, none⟩) hbr').trans p0, (hb.cell (p := ⟨_, _, none⟩) hbr').trans p1, (hb.cell (p := ⟨_, _, none⟩) hbr').trans p2, (hb.cell (p := ⟨_, _, none⟩) hbr').trans p3, (hb.cell (p := ⟨_, _, none⟩) hbr').trans p4, (hb.cell (p := ⟨_, _, none⟩) hbr').trans p5, (hb.cell (p := ⟨_, _, none⟩) hbr').trans p6, (hb.cell (p := ⟨_, _, none⟩) hbr').trans p7⟩)
      have hlti : (k : Int) < (l.length : Int) := by omega
      have hk0 : (0 : Int) ≤ (k : Int) := by omega
      clear hat hat' ht hC q0 q1 q2 q3 q4 q5 q6 q7 p0 p1 p2 p3 p4 p5 p6 p7
      go_wp2_with fail
      refine wp_region_held_drew (S := (fun w' => Below wr.heap.size wr w' ∧ w'.cell? ⟨b, off + k * 8, none⟩ = some (.int .i64 t.id) ∧ w'.cell? ⟨b, off + k * 8 + 1, none⟩ = some (.int .i64 t.pool) ∧ w'.cell? ⟨b, off + k * 8 + 2, none⟩ = some (.int .i64 t.cap.c) ∧ w'.cell? ⟨b, off + k * 8 + 3, none⟩ = some (.int .i64 t.cap.m) ∧ w'.cell? ⟨b, off + k * 8 + 4, none⟩ = some (.int .i64 t.cap.p) ∧ w'.cell? ⟨b, off + k * 8 + 5, none⟩ = some (.slice A1 t.labs.length c1) ∧ w'.cell? ⟨b, off + k * 8 + 6, none⟩ = some (.slice A2 t.taints.length c2) ∧ w'.cell? ⟨b, off + k * 8 + 7, none⟩ = some (.bool t.cordon) ∧ w'.cell? ⟨b', off' + k * 8, none⟩ = some (.int .i64 t.id) ∧ w'.cell? ⟨b', off' + k * 8 + 1, none⟩ = some (.int .i64 t.pool) ∧ w'.cell? ⟨b', off' + k * 8 + 2, none⟩ = some (.int .i64 t.cap.c) ∧ w'.cell? ⟨b', off' + k * 8 + 3, none⟩ = some (.int .i64 t.cap.m) ∧ w'.cell? ⟨b', off' + k * 8 + 4, none⟩ = some (.int .i64 t.cap.p) ∧ w'.cell? ⟨b', off' + k * 8 + 5, none⟩ = some (.slice A3 t.labs.length c3) ∧ w'.cell? ⟨b', off' + k * 8 + 6, none⟩ = some (.slice A4 t.taints.length c4) ∧ w'.cell? ⟨b', off' + k * 8 + 7, none⟩ = some (.bool t.cordon))) (by kernel_rfl) (by (try dsimp only); exact HK.out _ (by repeat' (first | exact Below.refl _ _ | refine Below.alloc ?_ ?_ _ | refine Below.setCell ?_ ?_ _ | refine Below.drew ?_ | (apply below_step; assumption) | (simp; done) | (simp; omega) | omega))) (fun hHeld => ?_)
      refine hT 0 ?_; simp only [Act.put, rhA, rhS, rhT]
      refine hT 1 ?_; simp only [Act.put, rhA, rhS, rhT]
      refine hT 2 ?_; simp only [Act.put, rhA, rhS, rhT]
      refine hT 3 ?_; simp only [Act.put, rhA, rhS, rhT]
      refine hT 4 ?_; simp only [Act.put, rhA, rhS, rhT]
      refine hT 5 ?_; simp only [Act.put, rhA, rhS, rhT]
      refine hT 6 ?_; simp only [Act.put, rhA, rhS, rhT]
      refine hT 7 ?_; simp only [Act.put, rhA, rhS, rhT]
      refine hCall (i := 8) (o := ?a22) ?b22 (by kernel_rfl) ?c22 (fun K hK => ?d22)
      case b22 => simp only [rhN, rhM]; try rfl
      case c22 => rfl
      go_simp
      refine (eqNode_r t _ _ _ (NodeR.kept _ _ _ _ (by repeat' (first | exact Below.refl _ _ | refine Below.alloc ?_ ?_ _ | refine Below.setCell ?_ ?_ _ | refine Below.drew ?_ | (apply below_step; assumption) | (simp; done) | (simp; omega) | omega)) HR.out) (NodeR.kept _ _ _ _ (by repeat' (first | exact Below.refl _ _ | refine Below.alloc ?_ ?_ _ | refine Below.setCell ?_ ?_ _ | refine Below.drew ?_ | (apply below_step; assumption) | (simp; done) | (simp; omega) | omega)) HR'.out)).mono ?_
      rintro e w3 ⟨rfl, hb3⟩
      have hz3 := hb3.size
      try simp at hz3
      go_wp2_with fail
      refine hK.out _ _ (by (try dsimp only); exact HK.out _ (by repeat' (first | exact Below.refl _ _ | refine Below.alloc ?_ ?_ _ | refine Below.setCell ?_ ?_ _ | refine Below.drew ?_ | (apply below_step; assumption) | (simp; done) | (simp; omega) | omega))) (fun hHeld => ?_)
      clear hK K
      try simp only [Act.put, rhA, rhS, rhT]
      refine hT 9 ?_; simp only [Act.put, rhA, rhS, rhT]
      refine wpAnyH_done (by kernel_rfl) ?_ _
      go_wp2_with fail
      go_roundw
      case rel => exact ⟨k + 1, by omega, by go_num, (by repeat' (first | exact Below.refl _ _ | refine Below.alloc ?_ ?_ _ | refine Below.setCell ?_ ?_ _ | refine Below.drew ?_ | (apply below_step; assumption) | (simp; done) | (simp; omega) | omega))⟩
      case measure => simp [intOf]; omega
    · go_wp2_with fail
      go_ret
      exact ⟨rfl, hB⟩
set_option maxHeartbeats 1600000 in
set_option maxRecDepth 20000 in
theorem eqBindS_same (v1 v2 : Value) (l : List BV) (w : World) (h1 : BindSl w v1 l) (h2 : BindSl w v2 l) (hlen : l.length ≤ 1048576) :
    Calls Tryz.prog 68 #[v1, v2] w fun e w' => e = .returned (.bool true) ∧ Below w.heap.size w w' := by
  obtain ⟨A, c, rfl, hA⟩ := h1.form
  obtain ⟨A', c', rfl, hA'⟩ := h2.form
  have HA := Lib.hid hA
  have HA' := Lib.hid hA'
  clear hA hA' h1 h2
  have hnn : ((l.length : Int) != (l.length : Int)) = false := by simp
  go_enter Tryz.func68, Tryz.ntmps68
  go_wp2_with fail
  go_loopw [5] (fun s5 wr => ∃ k : Nat, k ≤ l.length ∧ s5 = .int .i64 k ∧ Below w.heap.size w wr) (fun s5 _ => (l.length - intOf s5).toNat)
  case atStart => exact ⟨0, by omega, rfl, Below.refl _ _⟩
  case round =>
    obtain ⟨k, hk, rfl, hB⟩ := hrel
    have hzr := hB.size
    by_cases hlt : k < l.length
    · obtain ⟨b, off, rfl, hbw, hat⟩ := HA.out (by omega)
      obtain ⟨b', off', rfl, hbw', hat'⟩ := HA'.out (by omega)
      obtain ⟨t, ht⟩ : ∃ t, l[k]? = some t := ⟨_, List.getElem?_eq_getElem hlt⟩
      obtain ⟨ds, hR, hC⟩ := (hat'.below BindR.kept hB hbw') k t ht
      have HR' := Lib.hid hR
      obtain rfl := hR
      obtain ⟨p0, p1⟩ := bind_cells hC
      clear hC
      obtain ⟨cs, hR, hC⟩ := (hat.below BindR.kept hB hbw) k t ht
      have HR := Lib.hid hR
      obtain rfl := hR
      skip
      obtain ⟨q0, q1⟩ := bind_cells hC
      have hbr : b < wr.heap.size := by omega
      have hbr' : b' < wr.heap.size := by omega
      have HK := Lib.hid (show ∀ w', Below wr.heap.size wr w' → Below wr.heap.size wr w' ∧ w'.cell? ⟨b, off + k * 2, none⟩ = some (.int .i64 t.task) ∧ w'.cell? ⟨b, off + k * 2 + 1, none⟩ = some (.int .i64 t.node) ∧ w'.cell? ⟨b', off' + k * 2, none⟩ = some (.int .i64 t.task) ∧ w'.cell? ⟨b', off' + k * 2 + 1, none⟩ = some (.int .i64 t.node) from fun w' hb => ⟨hb, (hb.cell (p := ⟨_, _, none⟩) hbr).trans q0, (hb.cell (p := ⟨_, _, none⟩) hbr).trans q1, (hb.cell (p := ⟨_, _, none⟩) hbr').trans p0, (hb.cell (p := ⟨_, _, none⟩) hbr').trans p1⟩)
      have hlti : (k : Int) < (l.length : Int) := by omega
      have hk0 : (0 : Int) ≤ (k : Int) := by omega
      clear hat hat' ht hC q0 q1 p0 p1
      go_wp2_with fail
      refine wp_region_held_drew (S := (fun w' => Below wr.heap.size wr w' ∧ w'.cell? ⟨b, off + k * 2, none⟩ = some (.int .i64 t.task) ∧ w'.cell? ⟨b, off + k * 2 + 1, none⟩ = some (.int .i64 t.node) ∧ w'.cell? ⟨b', off' + k * 2, none⟩ = some (.int .i64 t.task) ∧ w'.cell? ⟨b', off' + k * 2 + 1, none⟩ = some (.int .i64 t.node))) (by kernel_rfl) (by (try dsimp only); exact HK.out _ (by repeat' (first | exact Below.refl _ _ | refine Below.alloc ?_ ?_ _ | refine Below.setCell ?_ ?_ _ | refine Below.drew ?_ | (apply below_step; assumption) | (simp; done) | (simp; omega) | omega))) (fun hHeld => ?_)
      refine hT 0 ?_; simp only [Act.put, rhA, rhS, rhT]
      refine hT 1 ?_; simp only [Act.put, rhA, rhS, rhT]
      refine hT 2 ?_; simp only [Act.put, rhA, rhS, rhT]
      refine hT 3 ?_; simp only [Act.put, rhA, rhS, rhT]
      refine hT 4 ?_; simp only [Act.put, rhA, rhS, rhT]
      refine hT 5 ?_; simp only [Act.put, rhA, rhS, rhT]
      refine hT 6 ?_; simp only [Act.put, rhA, rhS, rhT]
      refine hT 7 ?_; simp only [Act.put, rhA, rhS, rhT]
      refine hCall (i := 8) (o := ?a34) ?b34 (by kernel_rfl) ?c34 (fun K hK => ?d34)
      case b34 => simp only [rhN, rhM]; try rfl
      case c34 => rfl
      go_simp
      refine (eqBind_r t _ _ _ (BindR.kept _ _ _ _ (by repeat' (first | exact Below.refl _ _ | refine Below.alloc ?_ ?_ _ | refine Below.setCell ?_ ?_ _ | refine Below.drew ?_ | (apply below_step; assumption) | (simp; done) | (simp; omega) | omega)) HR.out) (BindR.kept _ _ _ _ (by repeat' (first | exact Below.refl _ _ | refine Below.alloc ?_ ?_ _ | refine Below.setCell ?_ ?_ _ | refine Below.drew ?_ | (apply below_step; assumption) | (simp; done) | (simp; omega) | omega)) HR'.out)).mono ?_
      rintro e w3 ⟨rfl, hb3⟩
      have hz3 := hb3.size
      try simp at hz3
      go_wp2_with fail
      refine hK.out _ _ (by (try dsimp only); exact HK.out _ (by repeat' (first | exact Below.refl _ _ | refine Below.alloc ?_ ?_ _ | refine Below.setCell ?_ ?_ _ | refine Below.drew ?_ | (apply below_step; assumption) | (simp; done) | (simp; omega) | omega))) (fun hHeld => ?_)
      clear hK K
      try simp only [Act.put, rhA, rhS, rhT]
      refine hT 9 ?_; simp only [Act.put, rhA, rhS, rhT]
      refine wpAnyH_done (by kernel_rfl) ?_ _
      go_wp2_with fail
      go_roundw
      case rel => exact ⟨k + 1, by omega, by go_num, (by repeat' (first | exact Below.refl _ _ | refine Below.alloc ?_ ?_ _ | refine Below.setCell ?_ ?_ _ | refine Below.drew ?_ | (apply below_step; assumption) | (simp; done) | (simp; omega) | omega))⟩
      case measure => simp [intOf]; omega
    · go_wp2_with fail
      go_ret
      exact ⟨rfl, hB⟩

set_option maxHeartbeats 800000 in
theorem eqCluster_same (c : CV) (a0 a1 a2 b0 b1 b2 : Value) (w : World) (h : CluR w c a0 a1 a2) (k : CluR w c b0 b1 b2) :
    Calls Tryz.prog 20 #[.agg #[a0, a1, a2], .agg #[b0, b1, b2]] w fun e w' => e = .returned (.bool true) ∧ Below w.heap.size w w' := by
  have HC := Lib.hid h
  have HD := Lib.hid k
  obtain ⟨h0, h1, h2, l0, l1, l2⟩ := h
  obtain ⟨k0, k1, k2, _⟩ := k
  obtain ⟨D0, d0, rfl, _⟩ := h0.form
  obtain ⟨D1, d1, rfl, _⟩ := h1.form
  obtain ⟨D2, d2, rfl, _⟩ := h2.form
  obtain ⟨E0, e0, rfl, _⟩ := k0.form
  obtain ⟨E1, e1, rfl, _⟩ := k1.form
  obtain ⟨E2, e2, rfl, _⟩ := k2.form
  have L := Lib.hid (And.intro l0 (And.intro l1 l2))
  clear h0 h1 h2 k0 k1 k2 l0 l1 l2
  go_enter Tryz.func20, Tryz.ntmps20
  go_wp2_with fail
  have hX : Below w.heap.size w ((w.alloc (.cells #[.slice D0 c.tasks.length d0, .slice D1 c.nodes.length d1, .slice D2 c.binds.length d2] 35)).alloc (.cells #[.slice E0 c.tasks.length e0, .slice E1 c.nodes.length e1, .slice E2 c.binds.length e2] 35)) := (by repeat' (first | exact Below.refl _ _ | refine Below.alloc ?_ ?_ _ | refine Below.setCell ?_ ?_ _ | refine Below.drew ?_ | (apply below_step; assumption) | (simp; done) | (simp; omega) | omega))
  refine (eqTaskS_same _ _ c.tasks _ (HC.out.below hX).1 (HD.out.below hX).1 L.out.1).mono ?_
  rintro e w1 ⟨rfl, hb1⟩
  have hC1 := below_of hX hb1
  have B0 := ((BlockIs.new w 35 #[.slice D0 c.tasks.length d0, .slice D1 c.nodes.length d1, .slice D2 c.binds.length d2]).alloc (.cells #[.slice E0 c.tasks.length e0, .slice E1 c.nodes.length e1, .slice E2 c.binds.length e2] 35)).below hb1 (by simp; omega)
  have B1 : BlockIs w1 (w.heap.size + 1) 35 #[.slice E0 c.tasks.length e0, .slice E1 c.nodes.length e1, .slice E2 c.binds.length e2] := (BlockIs.new' (by simp)).below hb1 (by simp)
  have x1 := B0.cell 1
  have y1 := B1.cell 1
  simp at x1 y1
  have HB0 := Lib.hid B0
  have HB1 := Lib.hid B1
  clear B0 B1 hb1
  go_wp2_with fail
  refine (eqNodeS_same _ _ c.nodes _ (HC.out.below hC1).2.1 (HD.out.below hC1).2.1 L.out.2.1).mono ?_
  rintro e w2 ⟨rfl, hb2⟩
  have hC2 := below_of hC1 hb2
  have B0 := HB0.out.below hb2 HB0.out.lt
  have B1 := HB1.out.below hb2 HB1.out.lt
  have x2 := B0.cell 2
  have y2 := B1.cell 2
  simp at x2 y2
  clear B0 B1 hb2 x1 y1
  go_wp2_with fail
  refine (eqBindS_same _ _ c.binds _ (HC.out.below hC2).2.2.1 (HD.out.below hC2).2.2.1 L.out.2.2).mono ?_
  rintro e w3 ⟨rfl, hb3⟩
  have hC3 := below_of hC2 hb3
  go_wp2_with fail
  go_ret
  exact ⟨rfl, hC3⟩
end Go.Proofs.YtmkpajjnjgnmkaaGreatDoor

namespace Go.Proofs.YtmkpajjnjgnmkaaGreatDoor
open Go.RowKit

theorem outOfRange_nil (w : World) (a : Addr) (hg : ErrAt a w) :
    Calls Tryz.prog 203 #[.nilIface] w fun e w' => e = .returned (.bool false) ∧ w = w' := by
  unfold ErrAt at hg
  go_enter Tryz.func203, Tryz.ntmps203
  go_wp2_with (go_at_call 215; refine (is_nil a _).mono ?_; rintro e w1 ⟨rfl, rfl⟩)
  go_ret
  exact ⟨rfl, rfl⟩
theorem outOfRange_bad (s : ByteArray) (w : World) (a : Addr) (hg : ErrAt a w) :
    Calls Tryz.prog 203 #[.iface 248 (.agg #[.string s, .iface 270 (.pointer (some a))])] w fun e w' => e = .returned (.bool true) ∧ Below w.heap.size w w' := by
  unfold ErrAt at hg
  go_enter Tryz.func203, Tryz.ntmps203
  go_wp2_with (go_at_call 215; refine (is_field s a _).mono ?_; rintro e w1 ⟨rfl, hb⟩)
  go_ret
  exact ⟨rfl, hb⟩

theorem checkBoth_yes (a b : RV) (w : World) (ha : a.ok = true) (hb : b.ok = true) :
    Calls Tryz.prog 204 #[.agg #[.int .i64 a.c, .int .i64 a.m, .int .i64 a.p], .agg #[.int .i64 b.c, .int .i64 b.m, .int .i64 b.p]] w fun e w' => e = .returned .nilIface ∧ Below w.heap.size w w' := by
  have HA := Lib.hid ha
  have HB := Lib.hid hb
  clear ha hb
  go_enter Tryz.func204, Tryz.ntmps204
  go_wp2_with fail
  refine (checkRes_yes a _ HA.out).mono ?_
  rintro e w1 ⟨rfl, hb1⟩
  have hz1 := hb1.size
  simp at hz1
  obtain ⟨hc1, hf1⟩ := bcell hb1
  go_wp2_with fail
  refine (checkRes_yes b _ HB.out).mono ?_
  rintro e w2 ⟨rfl, hb2⟩
  have hz2 := hb2.size
  go_wp2_with fail
  go_ret
  exact ⟨rfl, (by repeat' (first | exact Below.refl _ _ | refine Below.alloc ?_ ?_ _ | refine Below.setCell ?_ ?_ _ | refine Below.drew ?_ | (apply below_step; assumption) | (simp; done) | (simp; omega) | omega))⟩

theorem checkBoth_no1 (a b : RV) (w : World) (x : Addr) (hg : ErrAt x w) (ha : a.ok = false) :
    Calls Tryz.prog 204 #[.agg #[.int .i64 a.c, .int .i64 a.m, .int .i64 a.p], .agg #[.int .i64 b.c, .int .i64 b.m, .int .i64 b.p]] w (BadAt x w) := by
  have HA := Lib.hid ha
  clear ha
  go_enter Tryz.func204, Tryz.ntmps204
  go_wp2_with fail
  refine (checkRes_no a _ x ((hg.alloc _).alloc _) HA.out).mono ?_
  rintro e w1 ⟨s, rfl, hb1⟩
  have hz1 := hb1.size
  simp at hz1
  go_wp2_with fail
  go_ret
  exact ⟨_, rfl, (by repeat' (first | exact Below.refl _ _ | refine Below.alloc ?_ ?_ _ | refine Below.setCell ?_ ?_ _ | refine Below.drew ?_ | (apply below_step; assumption) | (simp; done) | (simp; omega) | omega))⟩

theorem checkBoth_no2 (a b : RV) (w : World) (x : Addr) (hg : ErrAt x w) (ha : a.ok = true) (hb : b.ok = false) :
    Calls Tryz.prog 204 #[.agg #[.int .i64 a.c, .int .i64 a.m, .int .i64 a.p], .agg #[.int .i64 b.c, .int .i64 b.m, .int .i64 b.p]] w (BadAt x w) := by
  have HA := Lib.hid ha
  have HB := Lib.hid hb
  clear ha hb
  go_enter Tryz.func204, Tryz.ntmps204
  go_wp2_with fail
  refine (checkRes_yes a _ HA.out).mono ?_
  rintro e w1 ⟨rfl, hb1⟩
  have hz1 := hb1.size
  simp at hz1
  obtain ⟨hc1, hf1⟩ := bcell hb1
  go_wp2_with fail
  refine (checkRes_no b _ x (((hg.alloc _).alloc _).below hb1 (Nat.le_refl _)) HB.out).mono ?_
  rintro e w2 ⟨s, rfl, hb2⟩
  have hz2 := hb2.size
  go_wp2_with fail
  go_ret
  exact ⟨_, rfl, (by repeat' (first | exact Below.refl _ _ | refine Below.alloc ?_ ?_ _ | refine Below.setCell ?_ ?_ _ | refine Below.drew ?_ | (apply below_step; assumption) | (simp; done) | (simp; omega) | omega))⟩
theorem keepValid_yes (r : RV) (w : World) (x : Addr) (hg : ErrAt x w) (h : r.ok = true) :
    Calls Tryz.prog 205 #[.agg #[.int .i64 r.c, .int .i64 r.m, .int .i64 r.p]] w fun e w' => e = .returned (.tuple #[.agg #[.int .i64 r.c, .int .i64 r.m, .int .i64 r.p], .bool true]) ∧ Below w.heap.size w w' := by
  have H := Lib.hid h
  clear h
  go_enter Tryz.func205, Tryz.ntmps205
  go_wp2_with fail
  refine (checkRes_yes r _ H.out).mono ?_
  rintro e w1 ⟨rfl, hb1⟩
  have hz1 := hb1.size
  simp at hz1
  obtain ⟨hc1, hf1⟩ := bcell hb1
  go_wp2_with fail
  refine (outOfRange_nil _ x (((hg.alloc _).alloc _).below hb1 (Nat.le_refl _))).mono ?_
  rintro e w2 ⟨rfl, rfl⟩
  go_wp2_with fail
  exact bodyPost_ret (v := .tuple #[.agg #[.int .i64 r.c, .int .i64 r.m, .int .i64 r.p], .bool true]) (by simp [results, Tryz.results205, go_sem, hc1]) rfl ⟨rfl, (by repeat' (first | exact Below.refl _ _ | refine Below.alloc ?_ ?_ _ | refine Below.setCell ?_ ?_ _ | refine Below.drew ?_ | (apply below_step; assumption) | (simp; done) | (simp; omega) | omega))⟩

theorem keepValid_no (r : RV) (w : World) (x : Addr) (hg : ErrAt x w) (h : r.ok = false) :
    Calls Tryz.prog 205 #[.agg #[.int .i64 r.c, .int .i64 r.m, .int .i64 r.p]] w fun e w' => e = .returned (.tuple #[.agg #[.int .i64 0, .int .i64 0, .int .i64 0], .bool false]) ∧ Below w.heap.size w w' := by
  have H := Lib.hid h
  clear h
  go_enter Tryz.func205, Tryz.ntmps205
  go_wp2_with fail
  refine (checkRes_no r _ x ((hg.alloc _).alloc _) H.out).mono ?_
  rintro e w1 ⟨s, rfl, hb1⟩
  have hz1 := hb1.size
  simp at hz1
  obtain ⟨hc1, hf1⟩ := bcell hb1
  go_wp2_with fail
  refine (outOfRange_bad s _ x (((hg.alloc _).alloc _).below hb1 (Nat.le_refl _))).mono ?_
  rintro e w2 ⟨rfl, hb2⟩
  have hz2 := hb2.size
  obtain ⟨hc2, hf2⟩ := bcell hb2
  have hs1 : w.heap.size + 1 < w1.heap.size := by omega
  go_wp2_with fail
  exact bodyPost_ret (v := .tuple #[.agg #[.int .i64 0, .int .i64 0, .int .i64 0], .bool false]) (by simp [results, Tryz.results205, go_sem, hc1, hc2, hs1]) rfl ⟨rfl, (by repeat' (first | exact Below.refl _ _ | refine Below.alloc ?_ ?_ _ | refine Below.setCell ?_ ?_ _ | refine Below.drew ?_ | (apply below_step; assumption) | (simp; done) | (simp; omega) | omega))⟩
end Go.Proofs.YtmkpajjnjgnmkaaGreatDoor

namespace Go.Proofs.YtmkpajjnjgnmkaaGreatDoor
open Go.RowKit

theorem keepValid_any (r : RV) (w : World) (x : Addr) (hg : ErrAt x w) : Calls Tryz.prog 205 #[.agg #[.int .i64 r.c, .int .i64 r.m, .int .i64 r.p]] w (RetR r.kept r.ok w) := by
  cases h : r.ok
  · rw [RV.kept_no h]; exact keepValid_no r w x hg h
  · rw [RV.kept_yes h]; exact keepValid_yes r w x hg h
theorem ResOk_any (r : RV) (w : World) (x : Addr) (hg : ErrAt x w) :
    Calls Tryz.prog 199 #[.agg #[.int .i64 r.c, .int .i64 r.m, .int .i64 r.p]] w fun e w' => e = .returned (.bool r.ok) ∧ Below w.heap.size w w' := by
  cases h : r.ok
  · have H := Lib.hid h
    clear h
    go_enter Tryz.func199, Tryz.ntmps199
    go_wp2_with fail
    refine (checkRes_no r _ x (hg.alloc _) H.out).mono ?_
    rintro e w1 ⟨s, rfl, hb1⟩
    have hz1 := hb1.size
    simp at hz1
    go_wp2_with fail
    refine (outOfRange_bad s _ x ((hg.alloc _).below hb1 (Nat.le_refl _))).mono ?_
    rintro e w2 ⟨rfl, hb2⟩
    have hz2 := hb2.size
    go_wp2_with fail
    go_ret
    exact ⟨rfl, (by repeat' (first | exact Below.refl _ _ | refine Below.alloc ?_ ?_ _ | refine Below.setCell ?_ ?_ _ | refine Below.drew ?_ | (apply below_step; assumption) | (simp; done) | (simp; omega) | omega))⟩
  · have H := Lib.hid h
    clear h
    go_enter Tryz.func199, Tryz.ntmps199
    go_wp2_with fail
    refine (checkRes_yes r _ H.out).mono ?_
    rintro e w1 ⟨rfl, hb1⟩
    have hz1 := hb1.size
    simp at hz1
    go_wp2_with fail
    refine (outOfRange_nil _ x ((hg.alloc _).below hb1 (Nat.le_refl _))).mono ?_
    rintro e w2 ⟨rfl, rfl⟩
    go_wp2_with fail
    go_ret
    exact ⟨rfl, (by repeat' (first | exact Below.refl _ _ | refine Below.alloc ?_ ?_ _ | refine Below.setCell ?_ ?_ _ | refine Below.drew ?_ | (apply below_step; assumption) | (simp; done) | (simp; omega) | omega))⟩

theorem ResAdd_in (a b : RV) (w : World) (x : Addr) (hg : ErrAt x w) (ha : a.ok = true) (hb : b.ok = true) :
    Calls Tryz.prog 165 #[.agg #[.int .i64 a.c, .int .i64 a.m, .int .i64 a.p], .agg #[.int .i64 b.c, .int .i64 b.m, .int .i64 b.p]] w (RetR (a.add b).kept (a.add b).ok w) := by
  have hA := RV.ok_iff.1 ha
  have hB := RV.ok_iff.1 hb
  have HA := Lib.hid ha
  have HB := Lib.hid hb
  clear ha hb
  obtain ⟨a1, a2, a3, a4, a5, a6⟩ := hA
  obtain ⟨b1, b2, b3, b4, b5, b6⟩ := hB
  go_enter Tryz.func165, Tryz.ntmps165
  go_wp2_with fail
  refine (checkBoth_yes a b _ HA.out HB.out).mono ?_
  rintro e w1 ⟨rfl, hb1⟩
  have hz1 := hb1.size
  simp at hz1
  obtain ⟨hc1, hf1⟩ := bcell hb1
  have hg1 := (((hg.alloc _).alloc _).alloc _).below hb1 (Nat.le_refl _)
  go_wp2_with fail
  refine (outOfRange_nil _ x hg1).mono ?_
  rintro e w2 ⟨rfl, rfl⟩
  go_wp2_with fail
  refine (keepValid_any ⟨a.c + b.c, a.m + b.m, a.p + b.p⟩ _ x hg1).mono ?_
  rintro e w2 ⟨rfl, hb2⟩
  have hz2 := hb2.size
  obtain ⟨hc2, hf2⟩ := bcell hb2
  have hs1 : w.heap.size + 1 + 1 < w1.heap.size := by omega
  go_wp2_with fail
  refine bodyPost_ret (v := .tuple #[.agg #[.int .i64 (a.add b).kept.c, .int .i64 (a.add b).kept.m, .int .i64 (a.add b).kept.p], .bool (a.add b).ok]) (by simp [results, Tryz.results165, go_sem, hc1, hc2, hs1]; exact ⟨⟨rfl, rfl, rfl⟩, rfl⟩) rfl ⟨rfl, (by repeat' (first | exact Below.refl _ _ | refine Below.alloc ?_ ?_ _ | refine Below.setCell ?_ ?_ _ | refine Below.drew ?_ | (apply below_step; assumption) | (simp; done) | (simp; omega) | omega))⟩

theorem ResAdd_out (a b : RV) (w : World) (x : Addr) (hg : ErrAt x w) (h : a.ok = false ∨ b.ok = false) :
    Calls Tryz.prog 165 #[.agg #[.int .i64 a.c, .int .i64 a.m, .int .i64 a.p], .agg #[.int .i64 b.c, .int .i64 b.m, .int .i64 b.p]] w (RetR RV.zero false w) := by
  have hcb : ∀ w, ErrAt x w → Calls Tryz.prog 204 #[.agg #[.int .i64 a.c, .int .i64 a.m, .int .i64 a.p], .agg #[.int .i64 b.c, .int .i64 b.m, .int .i64 b.p]] w (BadAt x w) := by
    intro w hg
    cases ha : a.ok
    · exact checkBoth_no1 a b w x hg ha
    · exact checkBoth_no2 a b w x hg ha (by rcases h with h | h; (rw [ha] at h; cases h); exact h)
  have HC := Lib.hid hcb
  clear hcb h
  go_enter Tryz.func165, Tryz.ntmps165
  go_wp2_with fail
  refine (HC.out _ (((hg.alloc _).alloc _).alloc _)).mono ?_
  rintro e w1 ⟨s, rfl, hb1⟩
  have hz1 := hb1.size
  simp at hz1
  obtain ⟨hc1, hf1⟩ := bcell hb1
  have hg1 := (((hg.alloc _).alloc _).alloc _).below hb1 (Nat.le_refl _)
  go_wp2_with fail
  refine (outOfRange_bad s _ x hg1).mono ?_
  rintro e w2 ⟨rfl, hb2⟩
  have hz2 := hb2.size
  obtain ⟨hc2, hf2⟩ := bcell hb2
  have hs1 : w.heap.size + 1 + 1 < w1.heap.size := by omega
  go_wp2_with fail
  refine bodyPost_ret (v := .tuple #[.agg #[.int .i64 RV.zero.c, .int .i64 RV.zero.m, .int .i64 RV.zero.p], .bool false]) (by simp [results, Tryz.results165, go_sem, hc1, hc2, hs1, RV.zero]) rfl ⟨rfl, (by repeat' (first | exact Below.refl _ _ | refine Below.alloc ?_ ?_ _ | refine Below.setCell ?_ ?_ _ | refine Below.drew ?_ | (apply below_step; assumption) | (simp; done) | (simp; omega) | omega))⟩

theorem ResAdd_any (a b : RV) (w : World) (x : Addr) (hg : ErrAt x w) : Calls Tryz.prog 165 #[.agg #[.int .i64 a.c, .int .i64 a.m, .int .i64 a.p], .agg #[.int .i64 b.c, .int .i64 b.m, .int .i64 b.p]] w (RetR (resAdd a b) (resAddOk a b) w) := by
  by_cases h : a.ok = true ∧ b.ok = true
  · rw [(resAdd_in h.1 h.2).1, (resAdd_in h.1 h.2).2]; exact ResAdd_in a b w x hg h.1 h.2
  · have h' : a.ok = false ∨ b.ok = false := by
      cases ha : a.ok
      · exact Or.inl rfl
      · cases hb : b.ok
        · exact Or.inr rfl
        · exact absurd ⟨ha, hb⟩ h
    rw [(resAdd_out h').1, (resAdd_out h').2]; exact ResAdd_out a b w x hg h'
theorem ResSub_in (a b : RV) (w : World) (x : Addr) (hg : ErrAt x w) (ha : a.ok = true) (hb : b.ok = true) :
    Calls Tryz.prog 153 #[.agg #[.int .i64 a.c, .int .i64 a.m, .int .i64 a.p], .agg #[.int .i64 b.c, .int .i64 b.m, .int .i64 b.p]] w (RetR (a.sub b).kept (a.sub b).ok w) := by
  have hA := RV.ok_iff.1 ha
  have hB := RV.ok_iff.1 hb
  have HA := Lib.hid ha
  have HB := Lib.hid hb
  clear ha hb
  obtain ⟨a1, a2, a3, a4, a5, a6⟩ := hA
  obtain ⟨b1, b2, b3, b4, b5, b6⟩ := hB
  go_enter Tryz.func153, Tryz.ntmps153
  go_wp2_with fail
  refine (checkBoth_yes a b _ HA.out HB.out).mono ?_
  rintro e w1 ⟨rfl, hb1⟩
  have hz1 := hb1.size
  simp at hz1
  obtain ⟨hc1, hf1⟩ := bcell hb1
  have hg1 := (((hg.alloc _).alloc _).alloc _).below hb1 (Nat.le_refl _)
  go_wp2_with fail
  refine (outOfRange_nil _ x hg1).mono ?_
  rintro e w2 ⟨rfl, rfl⟩
  go_wp2_with fail
  refine (keepValid_any ⟨a.c - b.c, a.m - b.m, a.p - b.p⟩ _ x hg1).mono ?_
  rintro e w2 ⟨rfl, hb2⟩
  have hz2 := hb2.size
  obtain ⟨hc2, hf2⟩ := bcell hb2
  have hs1 : w.heap.size + 1 + 1 < w1.heap.size := by omega
  go_wp2_with fail
  refine bodyPost_ret (v := .tuple #[.agg #[.int .i64 (a.sub b).kept.c, .int .i64 (a.sub b).kept.m, .int .i64 (a.sub b).kept.p], .bool (a.sub b).ok]) (by simp [results, Tryz.results153, go_sem, hc1, hc2, hs1]; exact ⟨⟨rfl, rfl, rfl⟩, rfl⟩) rfl ⟨rfl, (by repeat' (first | exact Below.refl _ _ | refine Below.alloc ?_ ?_ _ | refine Below.setCell ?_ ?_ _ | refine Below.drew ?_ | (apply below_step; assumption) | (simp; done) | (simp; omega) | omega))⟩

theorem ResSub_out (a b : RV) (w : World) (x : Addr) (hg : ErrAt x w) (h : a.ok = false ∨ b.ok = false) :
    Calls Tryz.prog 153 #[.agg #[.int .i64 a.c, .int .i64 a.m, .int .i64 a.p], .agg #[.int .i64 b.c, .int .i64 b.m, .int .i64 b.p]] w (RetR RV.zero false w) := by
  have hcb : ∀ w, ErrAt x w → Calls Tryz.prog 204 #[.agg #[.int .i64 a.c, .int .i64 a.m, .int .i64 a.p], .agg #[.int .i64 b.c, .int .i64 b.m, .int .i64 b.p]] w (BadAt x w) := by
    intro w hg
    cases ha : a.ok
    · exact checkBoth_no1 a b w x hg ha
    · exact checkBoth_no2 a b w x hg ha (by rcases h with h | h; (rw [ha] at h; cases h); exact h)
  have HC := Lib.hid hcb
  clear hcb h
  go_enter Tryz.func153, Tryz.ntmps153
  go_wp2_with fail
  refine (HC.out _ (((hg.alloc _).alloc _).alloc _)).mono ?_
  rintro e w1 ⟨s, rfl, hb1⟩
  have hz1 := hb1.size
  simp at hz1
  obtain ⟨hc1, hf1⟩ := bcell hb1
  have hg1 := (((hg.alloc _).alloc _).alloc _).below hb1 (Nat.le_refl _)
  go_wp2_with fail
  refine (outOfRange_bad s _ x hg1).mono ?_
  rintro e w2 ⟨rfl, hb2⟩
  have hz2 := hb2.size
  obtain ⟨hc2, hf2⟩ := bcell hb2
  have hs1 : w.heap.size + 1 + 1 < w1.heap.size := by omega
  go_wp2_with fail
  refine bodyPost_ret (v := .tuple #[.agg #[.int .i64 RV.zero.c, .int .i64 RV.zero.m, .int .i64 RV.zero.p], .bool false]) (by simp [results, Tryz.results153, go_sem, hc1, hc2, hs1, RV.zero]) rfl ⟨rfl, (by repeat' (first | exact Below.refl _ _ | refine Below.alloc ?_ ?_ _ | refine Below.setCell ?_ ?_ _ | refine Below.drew ?_ | (apply below_step; assumption) | (simp; done) | (simp; omega) | omega))⟩

theorem ResSub_any (a b : RV) (w : World) (x : Addr) (hg : ErrAt x w) : Calls Tryz.prog 153 #[.agg #[.int .i64 a.c, .int .i64 a.m, .int .i64 a.p], .agg #[.int .i64 b.c, .int .i64 b.m, .int .i64 b.p]] w (RetR (resSub a b) (resSubOk a b) w) := by
  by_cases h : a.ok = true ∧ b.ok = true
  · rw [(resSub_in h.1 h.2).1, (resSub_in h.1 h.2).2]; exact ResSub_in a b w x hg h.1 h.2
  · have h' : a.ok = false ∨ b.ok = false := by
      cases ha : a.ok
      · exact Or.inl rfl
      · cases hb : b.ok
        · exact Or.inr rfl
        · exact absurd ⟨ha, hb⟩ h
    rw [(resSub_out h').1, (resSub_out h').2]; exact ResSub_out a b w x hg h'
theorem ResFits_any (a b : RV) (w : World) (x : Addr) (hg : ErrAt x w) :
    Calls Tryz.prog 124 #[.agg #[.int .i64 a.c, .int .i64 a.m, .int .i64 a.p], .agg #[.int .i64 b.c, .int .i64 b.m, .int .i64 b.p]] w fun e w' => e = .returned (.bool (resSubOk b a)) ∧ Below w.heap.size w w' := by
  go_enter Tryz.func124, Tryz.ntmps124
  go_wp2_with fail
  refine (ResSub_any b a _ x ((hg.alloc _).alloc _)).mono ?_
  rintro e w1 ⟨rfl, hb1⟩
  have hz1 := hb1.size
  simp at hz1
  go_wp2_with fail
  go_ret
  exact ⟨rfl, (by repeat' (first | exact Below.refl _ _ | refine Below.alloc ?_ ?_ _ | refine Below.setCell ?_ ?_ _ | refine Below.drew ?_ | (apply below_step; assumption) | (simp; done) | (simp; omega) | omega))⟩
end Go.Proofs.YtmkpajjnjgnmkaaGreatDoor

namespace Go.Proofs.YtmkpajjnjgnmkaaGreatDoor
open Go.RowKit

def Owns (w : World) (base : Nat) (v : Value) (l : List LV) : Prop := w.ownsRow base 119 2 v l.length (labL l)
theorem labL_append (a b : List LV) : labL (a ++ b) = labL a ++ labL b := by simp [labL]
section
variable {w w' : World} {base : Nat} {v : Value} {l : List LV}
theorem Owns.alloc (h : Owns w base v l) (o : Obj) : Owns (w.alloc o) base v l := World.ownsRow.alloc h o
theorem Owns.drewN (h : Owns w base v l) (n : Nat) : Owns (w.drewN n) base v l := h
theorem Owns.lower {b : Nat} (h : Owns w base v l) (hb : b ≤ base) : Owns w b v l := by
  obtain ⟨h1, h2⟩ := h
  refine ⟨h1, ?_⟩
  rcases h2 with h | ⟨g, cap, cur, hv, hg, h⟩
  · exact .inl h
  · exact .inr ⟨g, cap, cur, hv, Nat.le_trans hb hg, h⟩
theorem Owns.nil (w : World) (base : Nat) : Owns w base (.slice none 0 0) [] := World.ownsRow_nil w base _ _
theorem Owns.below {B : Nat} (h : Owns w base v l) (hb : Below B w w') (hB : w.heap.size ≤ B) : Owns w' base v l := by
  obtain ⟨h1, h2⟩ := h
  refine ⟨h1, ?_⟩
  rcases h2 with h | ⟨g, cap, cur, hv, hg, hh, h⟩
  · exact .inl h
  · have hlt : g < w.heap.size := (Array.getElem?_eq_some_iff.1 hh).1
    exact .inr ⟨g, cap, cur, hv, hg, (hb.block g (by omega)).trans hh, h⟩
theorem Owns.form (h : Owns w base v l) : (v = .slice none 0 0 ∧ l = []) ∨ ∃ g cap cur, v = .slice (some ⟨g, 0, none⟩) l.length cap ∧ base ≤ g ∧ BlockIs w g 119 cur ∧ cur.size = cap * 2 ∧ l.length ≤ cap ∧ ∀ (j : Nat) (u : Value), (labL l)[j]? = some u → cur[j]? = some u := by
  obtain ⟨h1, h2⟩ := h
  rcases h2 with ⟨hv, hn⟩ | ⟨g, cap, cur, hv, hg, hh, hnc, _, hs, ht⟩
  · exact .inl ⟨hv, List.eq_nil_of_length_eq_zero hn⟩
  · refine .inr ⟨g, cap, cur, hv, hg, hh, hs, hnc, fun j u hu => ?_⟩
    rw [← ht] at hu
    have hj : j < l.length * 2 := by
      have := (List.getElem?_eq_some_iff.1 hu).1
      rw [List.length_take] at this; omega
    rw [List.getElem?_take_of_lt hj] at hu
    simpa using hu
theorem Owns.sl (h : Owns w base v l) : LabSl w v l := by
  rcases h.form with ⟨rfl, rfl⟩ | ⟨g, cap, cur, rfl, _, hb, _, _, hc⟩
  · exact .inl ⟨rfl, _, _, rfl⟩
  · exact .inr ⟨g, 0, cap, rfl, hb.lt, LabAt.of_block hb hc⟩
theorem Owns.len (h : Owns w base v l) : ∃ A c, v = .slice A l.length c := by
  rcases h.form with ⟨rfl, rfl⟩ | ⟨g, cap, cur, rfl, _⟩
  · exact ⟨_, _, rfl⟩
  · exact ⟨_, _, rfl⟩
end

theorem wpList_append_lab {ops : Array Oper} {rest : List Oper} {o : Oper} {a : Act} {Q : Exit → Act → World → Prop} (w : World) (hgd : o.guard = none) (s x : Operand)
    (ho : o.op = .call { callee := .builtin .append, args := #[s, x], argTypes := #[81, 81] })
    (base : Nat) (v : Value) (l : List LV) (r : LV) (g : Nat) (hs : a.eval s = v) (hown : Owns w base v l) (hx : a.eval x = .slice (some ⟨g, 0, none⟩) 1 1)
    (h0 : w.cell? ⟨g, 0, none⟩ = some (.int .i64 r.k)) (h1 : w.cell? ⟨g, 1, none⟩ = some (.int .i64 r.v)) (hl : l.length ≤ 100000) (hbase : base ≤ w.heap.size)
    (h : ∀ v' w', Owns w' base v' (l ++ [r]) → Below base w w' → wpList Tryz.prog ops Q rest (a.put o.dst v') w') : wpList Tryz.prog ops Q (o :: rest) a w := by
  obtain ⟨i0, hi0, hz0, hz1, hz2⟩ := info_parts Tryz.infoLab
  refine wpList_append_own w hgd s x 81 ho base 119 i0 _ 2 16 Tryz.underlying81 hi0 hz0 hz1 hz2 rfl (by omega) v l.length (labL l) hs hown ⟨g, 0, none⟩ 1 1 [.int .i64 r.k, .int .i64 r.v] hx rfl ?_ ?_ (by simp only [maxLen]; omega) (by omega) hbase ?_
  · intro j u hj
    match j, hj with
    | 0, hj => simp at hj; subst hj; simpa [Addr.add] using h0
    | 1, hj => simp at hj; subst hj; simpa [Addr.add] using h1
  · intro u hu
    simp at hu
    rcases hu with rfl | rfl <;> rfl
  · intro v' w' hown' hgrow _
    refine h v' w' ?_ ((Below.refl _ _).grown hgrow hbase (fun k hk => (World.ownsRow.lt hown k hk).1))
    unfold Owns
    rw [labL_append, List.length_append]
    exact hown'

end Go.Proofs.YtmkpajjnjgnmkaaGreatDoor

namespace Go.Proofs.YtmkpajjnjgnmkaaGreatDoor
open Go.RowKit

theorem LabsOk_any (v : Value) (l : List LV) (w : World) (hv : LabSl w v l) (hlen : l.length ≤ 1048576) :
    Calls Tryz.prog 200 #[v] w fun e w' => e = .returned (.bool (labsOk l)) ∧ Below w.heap.size w w' := by
  have H := Lib.hid (readLabs_any v l w hv hlen)
  clear hv
  go_enter Tryz.func200, Tryz.ntmps200
  go_wp2_with fail
  refine H.out.mono ?_
  rintro e w1 ⟨rfl, hb1⟩
  have hz1 := hb1.size
  go_wp2_with fail
  go_ret
  exact ⟨rfl, (by repeat' (first | exact Below.refl _ _ | refine Below.alloc ?_ ?_ _ | refine Below.setCell ?_ ?_ _ | refine Below.drew ?_ | (apply below_step; assumption) | (simp; done) | (simp; omega) | omega))⟩

theorem getOf_no {l : List LV} {k : Int} (h : labsOk l = false) : getOf l k = (0, false) := by simp [getOf, h]
theorem getOf_yes {l : List LV} {k : Int} (h : labsOk l = true) : getOf l k = findK l k := by simp [getOf, h]
theorem labsOk_from {l : List LV} (h : labsOk l = true) : labsFrom (-1) l = true := by
  simp only [labsOk, Bool.and_eq_true] at h; exact h.2
def RetI (z : Int × Bool) (w : World) (e : Ending) (w' : World) : Prop := e = .returned (.tuple #[.int .i64 z.1, .bool z.2]) ∧ Below w.heap.size w w'

theorem hasAll_iff {m p : Nat → Int} : hasAllM m p = true ↔ ∀ i, i < 10 → 0 < p i → p i = m i := by
  unfold hasAllM eqMarks
  simp only [List.all_eq_true, List.mem_range, beq_iff_eq]
  constructor
  · intro h i hi hp
    have := h i hi
    simpa [laidM, hi, hp] using this
  · intro h i hi
    unfold laidM
    by_cases hp : 0 < p i
    · rw [if_pos ⟨hi, hp⟩]; exact h i hi hp
    · rw [if_neg (fun x => hp x.2)]
theorem hasAllOf_iff {a b : List LV} : hasAllOf a b = true ↔ ∀ x ∈ b, findK a x.k = (x.v, true) := by
  induction b with
  | nil => simp [hasAllOf]
  | cons x r ih =>
    simp only [hasAllOf, Bool.and_eq_true, decide_eq_true_eq, ih, List.mem_cons, forall_eq_or_imp]
    constructor
    · rintro ⟨⟨h1, h2⟩, h3⟩
      exact ⟨by rw [← h1, ← h2], h3⟩
    · rintro ⟨h1, h3⟩
      rw [h1]
      exact ⟨⟨rfl, rfl⟩, h3⟩
theorem findK_mem {p : Int} {l : List LV} (h : labsFrom p l = true) {x : LV} (hx : x ∈ l) : findK l x.k = (x.v, true) := by
  induction l generalizing p with
  | nil => cases hx
  | cons y r ih =>
    simp only [labsFrom, Bool.and_eq_true, decide_eq_true_eq] at h
    rcases List.mem_cons.1 hx with rfl | hx
    · simp [findK]
    · have h1 := ih h.2 hx
      have hne : ¬ y.k = x.k := by
        intro e
        rw [findK_above h.2 (k := x.k) (by omega)] at h1
        simp at h1
      simp only [findK, if_neg hne]; exact h1
theorem mem_findK {l : List LV} {k v : Int} (h : findK l k = (v, true)) : ⟨k, v⟩ ∈ l := by
  induction l with
  | nil => simp [findK] at h
  | cons y r ih =>
    unfold findK at h
    split at h
    · rename_i e
      injection h with h1 h2
      subst e; subst h1
      exact List.mem_cons.2 (.inl rfl)
    · exact List.mem_cons.2 (.inr (ih h))
theorem mem_ok {p : Int} {l : List LV} (h : labsFrom p l = true) {x : LV} (hx : x ∈ l) : x.ok = true := by
  induction l generalizing p with
  | nil => cases hx
  | cons y r ih =>
    simp only [labsFrom, Bool.and_eq_true, decide_eq_true_eq] at h
    rcases List.mem_cons.1 hx with rfl | hx
    · exact h.1.1
    · exact ih h.2 hx
theorem hasAll_of {a b : List LV} (ha : labsOk a = true) (hb : labsOk b = true) : hasAllM (readOf a) (readOf b) = hasAllOf a b := by
  rw [Bool.eq_iff_iff, hasAll_iff, hasAllOf_iff, readOf_yes ha, readOf_yes hb]
  have fa := labsOk_from ha
  have fb := labsOk_from hb
  constructor
  · intro h x hx
    obtain ⟨k0, k9, v0, v9⟩ := LV.ok_iff.1 (mem_ok fb hx)
    obtain ⟨k, hk⟩ := Int.eq_ofNat_of_zero_le k0
    have hf := findK_mem fb hx
    have hm := mark_at fb k
    have hma := mark_at fa k
    have hz := findK_val fa (k := (k : Int))
    rw [hk] at hf
    rw [hf] at hm
    simp at hm
    have := h k (by omega) (by omega)
    rw [hk]
    cases e : (findK a k).2
    · rw [e] at hma; simp at hma; omega
    · rw [e] at hma; simp at hma
      have e1 : (findK a k).1 = x.v := by omega
      rw [← e, ← e1]
  · intro h i hi hp
    have hm := mark_at fb i
    have hma := mark_at fa i
    cases e : (findK b i).2
    · rw [e] at hm; simp at hm; omega
    · rw [e] at hm; simp at hm
      have e' : findK b i = ((findK b i).1, true) := by rw [← e]
      have hx := h _ (mem_findK e')
      simp only at hx
      rw [hx] at hma
      simp at hma
      omega
theorem matchOf_no1 {a b : List LV} (h : labsOk a = false) : matchOf a b = false := by simp [matchOf, h]
theorem matchOf_no2 {a b : List LV} (h : labsOk b = false) : matchOf a b = false := by simp [matchOf, h]
theorem matchOf_yes {a b : List LV} (ha : labsOk a = true) (hb : labsOk b = true) : matchOf a b = hasAllM (readOf a) (readOf b) := by
  rw [hasAll_of ha hb]; simp [matchOf, ha, hb]

set_option maxHeartbeats 1600000 in
theorem LabsMatch_any (v1 v2 : Value) (a b : List LV) (w : World) (h1 : LabSl w v1 a) (h2 : LabSl w v2 b) (hl1 : a.length ≤ 1048576) (hl2 : b.length ≤ 1048576) :
    Calls Tryz.prog 211 #[v1, v2] w fun e w' => e = .returned (.bool (matchOf a b)) ∧ Below w.heap.size w w' := by
  have r1 := readLabs_any v1 a w h1 hl1
  have r2 := fun w1 (hb : Below w.heap.size w w1) => readLabs_any v2 b (w1.alloc (.cells #[.int .i64 (readOf a 0), .int .i64 (readOf a 1), .int .i64 (readOf a 2), .int .i64 (readOf a 3), .int .i64 (readOf a 4), .int .i64 (readOf a 5), .int .i64 (readOf a 6), .int .i64 (readOf a 7), .int .i64 (readOf a 8), .int .i64 (readOf a 9)] 240)) ((h2.below hb).below ((Below.refl _ _).alloc (Nat.le_refl _) _)) hl2
  clear h1 h2
  cases ha : labsOk a
  · rw [ha] at r1
    have R1 := Lib.hid r1
    have HM := Lib.hid (matchOf_no1 (b := b) ha)
    clear r1 r2 ha
    go_enter Tryz.func211, Tryz.ntmps211
    go_wp2_with fail
    refine R1.out.mono ?_
    rintro e w1 ⟨rfl, hb1⟩
    have hz1 := hb1.size
    go_wp2_with fail
    go_ret
    rw [HM.out]
    exact ⟨rfl, (by repeat' (first | exact Below.refl _ _ | refine Below.alloc ?_ ?_ _ | refine Below.setCell ?_ ?_ _ | refine Below.drew ?_ | (apply below_step; assumption) | (simp; done) | (simp; omega) | omega))⟩
  · rw [ha] at r1
    cases hb : labsOk b
    · rw [hb] at r2
      have R1 := Lib.hid r1
      have R2 := Lib.hid r2
      have HM := Lib.hid (matchOf_no2 (a := a) hb)
      clear r1 r2 ha hb
      generalize readOf a = m1 at R1 R2
      go_enter Tryz.func211, Tryz.ntmps211
      go_wp2_with fail
      refine R1.out.mono ?_
      rintro e w1 ⟨rfl, hb1⟩
      have hz1 := hb1.size
      go_wp2_with fail
      refine (R2.out w1 hb1).mono ?_
      rintro e w2 ⟨rfl, hb2⟩
      have hz2 := hb2.size
      simp at hz2
      go_wp2_with fail
      go_ret
      rw [HM.out]
      exact ⟨rfl, (by repeat' (first | exact Below.refl _ _ | refine Below.alloc ?_ ?_ _ | refine Below.setCell ?_ ?_ _ | refine Below.drew ?_ | (apply below_step; assumption) | (simp; done) | (simp; omega) | omega))⟩
    · rw [hb] at r2
      have R1 := Lib.hid r1
      have R2 := Lib.hid r2
      have HM := Lib.hid (matchOf_yes ha hb)
      clear r1 r2 ha hb
      generalize readOf a = m1 at R1 R2 HM
      generalize readOf b = m2 at R2 HM
      go_enter Tryz.func211, Tryz.ntmps211
      go_wp2_with fail
      refine R1.out.mono ?_
      rintro e w1 ⟨rfl, hb1⟩
      have hz1 := hb1.size
      go_wp2_with fail
      refine (R2.out w1 hb1).mono ?_
      rintro e w2 ⟨rfl, hb2⟩
      have hz2 := hb2.size
      simp at hz2
      have hM1 := ((BlockIs.new w1 240 #[.int .i64 (m1 0), .int .i64 (m1 1), .int .i64 (m1 2), .int .i64 (m1 3), .int .i64 (m1 4), .int .i64 (m1 5), .int .i64 (m1 6), .int .i64 (m1 7), .int .i64 (m1 8), .int .i64 (m1 9)]).below hb2 (by simp)).alloc (.cells #[.int .i64 (m2 0), .int .i64 (m2 1), .int .i64 (m2 2), .int .i64 (m2 3), .int .i64 (m2 4), .int .i64 (m2 5), .int .i64 (m2 6), .int .i64 (m2 7), .int .i64 (m2 8), .int .i64 (m2 9)] 240)
      have z0 := (hM1).cell 0; have z1 := (hM1).cell 1; have z2 := (hM1).cell 2; have z3 := (hM1).cell 3; have z4 := (hM1).cell 4; have z5 := (hM1).cell 5; have z6 := (hM1).cell 6; have z7 := (hM1).cell 7; have z8 := (hM1).cell 8; have z9 := (hM1).cell 9; simp at z0 z1 z2 z3 z4 z5 z6 z7 z8 z9
      clear hM1
      go_wp2_with fail
      refine (hasAll_any m1 m2 _).mono ?_
      rintro e w3 ⟨rfl, hb3⟩
      have hz3 := hb3.size
      simp at hz3
      go_wp2_with fail
      go_ret
      rw [HM.out]
      exact ⟨rfl, (by repeat' (first | exact Below.refl _ _ | refine Below.alloc ?_ ?_ _ | refine Below.setCell ?_ ?_ _ | refine Below.drew ?_ | (apply below_step; assumption) | (simp; done) | (simp; omega) | omega))⟩
end Go.Proofs.YtmkpajjnjgnmkaaGreatDoor

namespace Go.Proofs.YtmkpajjnjgnmkaaGreatDoor
open Go.RowKit

theorem readTaints_long (A : Option Addr) (n c : Nat) (w : World) (h : 6 < n) (hm : n ≤ 1048576) :
    Calls Tryz.prog 229 #[.slice A n c] w (RetM mzero false w) := by
  have h6 : (6 : Int) < (n : Int) := by omega
  go_enter Tryz.func229, Tryz.ntmps229
  go_wp2_with fail
  exact bodyPost_ret (v := .tuple #[.agg #[.int .i64 (mzero 0), .int .i64 (mzero 1), .int .i64 (mzero 2), .int .i64 (mzero 3), .int .i64 (mzero 4), .int .i64 (mzero 5), .int .i64 (mzero 6), .int .i64 (mzero 7), .int .i64 (mzero 8), .int .i64 (mzero 9)], .bool false]) (by simp [results, Tryz.results229, go_sem, mzero]) rfl ⟨rfl, (by repeat' (first | exact Below.refl _ _ | refine Below.alloc ?_ ?_ _ | refine Below.setCell ?_ ?_ _ | refine Below.drew ?_ | (apply below_step; assumption) | (simp; done) | (simp; omega) | omega))⟩

set_option maxHeartbeats 1600000 in
theorem readTaints_short (v : Value) (t : List Int) (w : World) (hv : IntSl w v t) (hlen : t.length ≤ 6) :
    Calls Tryz.prog 229 #[v] w (RetM (readOf (tl t)) (labsOk (tl t)) w) := by
  obtain ⟨A, c, rfl, hA⟩ := hv.form
  have HA := Lib.hid hA
  clear hA hv
  have h6 : (t.length : Int) ≤ 6 := by omega
  go_enter Tryz.func229, Tryz.ntmps229
  go_wp2_with fail
  go_loopw [4, 13] (fun s4 s13 wr => ∃ k : Nat, k ≤ t.length ∧ s13 = .int .i64 k ∧ Owns wr (w.heap.size + 1) s4 (tl (t.take k)) ∧ Below w.heap.size w wr ∧ w.heap.size + 1 ≤ wr.heap.size ∧ BlockIs wr w.heap.size 240 #[.int .i64 (mzero 0), .int .i64 (mzero 1), .int .i64 (mzero 2), .int .i64 (mzero 3), .int .i64 (mzero 4), .int .i64 (mzero 5), .int .i64 (mzero 6), .int .i64 (mzero 7), .int .i64 (mzero 8), .int .i64 (mzero 9)]) (fun _ s13 _ => (t.length - intOf s13).toNat)
  case atStart =>
    exact ⟨0, by omega, rfl, Owns.nil _ _, (by repeat' (first | exact Below.refl _ _ | refine Below.alloc ?_ ?_ _ | refine Below.setCell ?_ ?_ _ | refine Below.drew ?_ | (apply below_step; assumption) | (simp; done) | (simp; omega) | omega)), by simp, BlockIs.new _ _ _⟩
  case round =>
    obtain ⟨k, hk, rfl, hown, hB, hzr, hblk⟩ := hrel
    have HOW := Lib.hid hown
    have HBK := Lib.hid hblk
    clear hown
    by_cases hlt : k < t.length
    · obtain ⟨b, off, rfl, hbw, hat⟩ := HA.out (by omega)
      obtain ⟨z, hz⟩ : ∃ r, t[k]? = some r := ⟨_, List.getElem?_eq_getElem hlt⟩
      have q0 := (hat.below hB hbw) k z hz
      have HT := Lib.hid (tl_take hz)
      have hlti : (k : Int) < (t.length : Int) := by omega
      have HL := Lib.hid (show (tl (t.take k)).length ≤ 6 by rw [tl_len, List.length_take]; omega)
      clear hat hz hblk
      go_wp2_with (at_builtin; refine wpList_append_lab _ rfl (.tmp 17) (.tmp 20) rfl (w.heap.size + 1) _ (tl (t.take k)) ⟨z, 0⟩ wr.heap.size rfl (HOW.out.alloc _) rfl (by simp) (by simp) (by have := HL.out; omega) (by simp; omega) ?_; intro v' w1 hown1 hb1)
      have hz1 := hb1.size
      simp at hz1
      go_roundw
      case rel =>
        refine ⟨k + 1, by omega, by go_num, ?_, ?_, by omega, ?_⟩
        · rw [HT.out]; exact hown1
        · exact (hB.alloc (by omega) _).trans (hb1.mono (by omega))
        · exact (HBK.out.alloc _).below hb1 (by omega)
      case measure => simp [intOf]; omega
    · have hkl : k = t.length := by omega
      have ho : Owns wr (w.heap.size + 1) u4 (tl t) := by
        have := HOW.out
        rwa [hkl, List.take_length] at this
      have hr := readLabs_any _ (tl t) wr ho.sl (by rw [tl_len]; omega)
      have HR := Lib.hid hr
      clear hkl hblk ho hr
      go_wp2_with fail
      refine HR.out.mono ?_
      rintro e w1 ⟨rfl, hb1⟩
      have hz1 := hb1.size
      have hB1 : Below w.heap.size w w1 := hB.trans (hb1.mono (by omega))
      have hZ := HBK.out.below hb1 (by omega)
      have HZ := Lib.hid hZ
      have z0 := (hZ).cell 0; have z1 := (hZ).cell 1; have z2 := (hZ).cell 2; have z3 := (hZ).cell 3; have z4 := (hZ).cell 4; have z5 := (hZ).cell 5; have z6 := (hZ).cell 6; have z7 := (hZ).cell 7; have z8 := (hZ).cell 8; have z9 := (hZ).cell 9; simp at z0 z1 z2 z3 z4 z5 z6 z7 z8 z9
      have zf := hZ.frozen
      clear hZ
      go_wp2_with fail
      have hX : BlockIs ((((((((((w1.setCell ⟨w.heap.size, 0, none⟩ (.int .i64 (readOf (tl t) 0))).setCell ⟨w.heap.size, 1, none⟩ (.int .i64 (readOf (tl t) 1))).setCell ⟨w.heap.size, 2, none⟩ (.int .i64 (readOf (tl t) 2))).setCell ⟨w.heap.size, 3, none⟩ (.int .i64 (readOf (tl t) 3))).setCell ⟨w.heap.size, 4, none⟩ (.int .i64 (readOf (tl t) 4))).setCell ⟨w.heap.size, 5, none⟩ (.int .i64 (readOf (tl t) 5))).setCell ⟨w.heap.size, 6, none⟩ (.int .i64 (readOf (tl t) 6))).setCell ⟨w.heap.size, 7, none⟩ (.int .i64 (readOf (tl t) 7))).setCell ⟨w.heap.size, 8, none⟩ (.int .i64 (readOf (tl t) 8))).setCell ⟨w.heap.size, 9, none⟩ (.int .i64 (readOf (tl t) 9))) w.heap.size 240 #[.int .i64 (readOf (tl t) 0), .int .i64 (readOf (tl t) 1), .int .i64 (readOf (tl t) 2), .int .i64 (readOf (tl t) 3), .int .i64 (readOf (tl t) 4), .int .i64 (readOf (tl t) 5), .int .i64 (readOf (tl t) 6), .int .i64 (readOf (tl t) 7), .int .i64 (readOf (tl t) 8), .int .i64 (readOf (tl t) 9)] := put10 (readOf (tl t)) HZ.out
      have hBX : Below w.heap.size w ((((((((((w1.setCell ⟨w.heap.size, 0, none⟩ (.int .i64 (readOf (tl t) 0))).setCell ⟨w.heap.size, 1, none⟩ (.int .i64 (readOf (tl t) 1))).setCell ⟨w.heap.size, 2, none⟩ (.int .i64 (readOf (tl t) 2))).setCell ⟨w.heap.size, 3, none⟩ (.int .i64 (readOf (tl t) 3))).setCell ⟨w.heap.size, 4, none⟩ (.int .i64 (readOf (tl t) 4))).setCell ⟨w.heap.size, 5, none⟩ (.int .i64 (readOf (tl t) 5))).setCell ⟨w.heap.size, 6, none⟩ (.int .i64 (readOf (tl t) 6))).setCell ⟨w.heap.size, 7, none⟩ (.int .i64 (readOf (tl t) 7))).setCell ⟨w.heap.size, 8, none⟩ (.int .i64 (readOf (tl t) 8))).setCell ⟨w.heap.size, 9, none⟩ (.int .i64 (readOf (tl t) 9))) := below10 (readOf (tl t)) hB1 (Nat.le_refl _)
      generalize ((((((((((w1.setCell ⟨w.heap.size, 0, none⟩ (.int .i64 (readOf (tl t) 0))).setCell ⟨w.heap.size, 1, none⟩ (.int .i64 (readOf (tl t) 1))).setCell ⟨w.heap.size, 2, none⟩ (.int .i64 (readOf (tl t) 2))).setCell ⟨w.heap.size, 3, none⟩ (.int .i64 (readOf (tl t) 3))).setCell ⟨w.heap.size, 4, none⟩ (.int .i64 (readOf (tl t) 4))).setCell ⟨w.heap.size, 5, none⟩ (.int .i64 (readOf (tl t) 5))).setCell ⟨w.heap.size, 6, none⟩ (.int .i64 (readOf (tl t) 6))).setCell ⟨w.heap.size, 7, none⟩ (.int .i64 (readOf (tl t) 7))).setCell ⟨w.heap.size, 8, none⟩ (.int .i64 (readOf (tl t) 8))).setCell ⟨w.heap.size, 9, none⟩ (.int .i64 (readOf (tl t) 9))) = X at hX hBX ⊢
      clear z0 z1 z2 z3 z4 z5 z6 z7 z8 z9
      have z0 := (hX).cell 0; have z1 := (hX).cell 1; have z2 := (hX).cell 2; have z3 := (hX).cell 3; have z4 := (hX).cell 4; have z5 := (hX).cell 5; have z6 := (hX).cell 6; have z7 := (hX).cell 7; have z8 := (hX).cell 8; have z9 := (hX).cell 9; simp at z0 z1 z2 z3 z4 z5 z6 z7 z8 z9
      exact bodyPost_ret (v := .tuple #[.agg #[.int .i64 (readOf (tl t) 0), .int .i64 (readOf (tl t) 1), .int .i64 (readOf (tl t) 2), .int .i64 (readOf (tl t) 3), .int .i64 (readOf (tl t) 4), .int .i64 (readOf (tl t) 5), .int .i64 (readOf (tl t) 6), .int .i64 (readOf (tl t) 7), .int .i64 (readOf (tl t) 8), .int .i64 (readOf (tl t) 9)], .bool (labsOk (tl t))]) (by simp [results, Tryz.results229, go_sem, z0, z1, z2, z3, z4, z5, z6, z7, z8, z9]) rfl ⟨rfl, hBX⟩

theorem readTaints_any (v : Value) (t : List Int) (w : World) (hv : IntSl w v t) (hlen : t.length ≤ 1048576) :
    Calls Tryz.prog 229 #[v] w (RetM (readOf (tl t)) (labsOk (tl t)) w) := by
  by_cases h : t.length ≤ 6
  · exact readTaints_short v t w hv h
  · obtain ⟨A, c, rfl, _⟩ := hv.form
    rw [readOf_no (labsOk_long (by rw [tl_len]; omega)), labsOk_long (by rw [tl_len]; omega)]
    exact readTaints_long A t.length c w (by omega) hlen

theorem TaintsOk_any (v : Value) (t : List Int) (w : World) (hv : IntSl w v t) (hlen : t.length ≤ 1048576) :
    Calls Tryz.prog 201 #[v] w fun e w' => e = .returned (.bool (labsOk (tl t))) ∧ Below w.heap.size w w' := by
  have H := Lib.hid (readTaints_any v t w hv hlen)
  clear hv
  go_enter Tryz.func201, Tryz.ntmps201
  go_wp2_with fail
  refine H.out.mono ?_
  rintro e w1 ⟨rfl, hb1⟩
  have hz1 := hb1.size
  go_wp2_with fail
  go_ret
  exact ⟨rfl, (by repeat' (first | exact Below.refl _ _ | refine Below.alloc ?_ ?_ _ | refine Below.setCell ?_ ?_ _ | refine Below.drew ?_ | (apply below_step; assumption) | (simp; done) | (simp; omega) | omega))⟩

set_option maxHeartbeats 1600000 in
theorem Tolerates_any (v1 v2 : Value) (a b : List Int) (w : World) (h1 : IntSl w v1 a) (h2 : IntSl w v2 b) (hl1 : a.length ≤ 1048576) (hl2 : b.length ≤ 1048576) :
    Calls Tryz.prog 212 #[v1, v2] w fun e w' => e = .returned (.bool (tolOf a b)) ∧ Below w.heap.size w w' := by
  have r1 := readTaints_any v1 a w h1 hl1
  have r2 := fun w1 (hb : Below w.heap.size w w1) => readTaints_any v2 b (w1.alloc (.cells #[.int .i64 (readOf (tl a) 0), .int .i64 (readOf (tl a) 1), .int .i64 (readOf (tl a) 2), .int .i64 (readOf (tl a) 3), .int .i64 (readOf (tl a) 4), .int .i64 (readOf (tl a) 5), .int .i64 (readOf (tl a) 6), .int .i64 (readOf (tl a) 7), .int .i64 (readOf (tl a) 8), .int .i64 (readOf (tl a) 9)] 240)) ((h2.below hb).below ((Below.refl _ _).alloc (Nat.le_refl _) _)) hl2
  clear h1 h2
  unfold tolOf
  cases ha : labsOk (tl a)
  · rw [ha] at r1
    have R1 := Lib.hid r1
    have HM := Lib.hid (matchOf_no2 (a := tl b) ha)
    clear r1 r2 ha
    go_enter Tryz.func212, Tryz.ntmps212
    go_wp2_with fail
    refine R1.out.mono ?_
    rintro e w1 ⟨rfl, hb1⟩
    have hz1 := hb1.size
    go_wp2_with fail
    go_ret
    rw [HM.out]
    exact ⟨rfl, (by repeat' (first | exact Below.refl _ _ | refine Below.alloc ?_ ?_ _ | refine Below.setCell ?_ ?_ _ | refine Below.drew ?_ | (apply below_step; assumption) | (simp; done) | (simp; omega) | omega))⟩
  · rw [ha] at r1
    cases hb : labsOk (tl b)
    · rw [hb] at r2
      have R1 := Lib.hid r1
      have R2 := Lib.hid r2
      have HM := Lib.hid (matchOf_no1 (b := tl a) hb)
      clear r1 r2 ha hb
      generalize readOf (tl a) = m1 at R1 R2
      go_enter Tryz.func212, Tryz.ntmps212
      go_wp2_with fail
      refine R1.out.mono ?_
      rintro e w1 ⟨rfl, hb1⟩
      have hz1 := hb1.size
      go_wp2_with fail
      refine (R2.out w1 hb1).mono ?_
      rintro e w2 ⟨rfl, hb2⟩
      have hz2 := hb2.size
      simp at hz2
      go_wp2_with fail
      go_ret
      rw [HM.out]
      exact ⟨rfl, (by repeat' (first | exact Below.refl _ _ | refine Below.alloc ?_ ?_ _ | refine Below.setCell ?_ ?_ _ | refine Below.drew ?_ | (apply below_step; assumption) | (simp; done) | (simp; omega) | omega))⟩
    · rw [hb] at r2
      have R1 := Lib.hid r1
      have R2 := Lib.hid r2
      have HM := Lib.hid (matchOf_yes hb ha)
      clear r1 r2 ha hb
      generalize readOf (tl a) = m1 at R1 R2 HM
      generalize readOf (tl b) = m2 at R2 HM
      go_enter Tryz.func212, Tryz.ntmps212
      go_wp2_with fail
      refine R1.out.mono ?_
      rintro e w1 ⟨rfl, hb1⟩
      have hz1 := hb1.size
      go_wp2_with fail
      refine (R2.out w1 hb1).mono ?_
      rintro e w2 ⟨rfl, hb2⟩
      have hz2 := hb2.size
      simp at hz2
      have hM1 := ((BlockIs.new w1 240 #[.int .i64 (m1 0), .int .i64 (m1 1), .int .i64 (m1 2), .int .i64 (m1 3), .int .i64 (m1 4), .int .i64 (m1 5), .int .i64 (m1 6), .int .i64 (m1 7), .int .i64 (m1 8), .int .i64 (m1 9)]).below hb2 (by simp)).alloc (.cells #[.int .i64 (m2 0), .int .i64 (m2 1), .int .i64 (m2 2), .int .i64 (m2 3), .int .i64 (m2 4), .int .i64 (m2 5), .int .i64 (m2 6), .int .i64 (m2 7), .int .i64 (m2 8), .int .i64 (m2 9)] 240)
      have z0 := (hM1).cell 0; have z1 := (hM1).cell 1; have z2 := (hM1).cell 2; have z3 := (hM1).cell 3; have z4 := (hM1).cell 4; have z5 := (hM1).cell 5; have z6 := (hM1).cell 6; have z7 := (hM1).cell 7; have z8 := (hM1).cell 8; have z9 := (hM1).cell 9; simp at z0 z1 z2 z3 z4 z5 z6 z7 z8 z9
      clear hM1
      go_wp2_with fail
      refine (hasAll_any m2 m1 _).mono ?_
      rintro e w3 ⟨rfl, hb3⟩
      have hz3 := hb3.size
      simp at hz3
      go_wp2_with fail
      go_ret
      rw [HM.out]
      exact ⟨rfl, (by repeat' (first | exact Below.refl _ _ | refine Below.alloc ?_ ?_ _ | refine Below.setCell ?_ ?_ _ | refine Below.drew ?_ | (apply below_step; assumption) | (simp; done) | (simp; omega) | omega))⟩
end Go.Proofs.YtmkpajjnjgnmkaaGreatDoor

namespace Go.Proofs.YtmkpajjnjgnmkaaGreatDoor
open Go.RowKit

theorem idOk_any (n : Int) (w : World) : Calls Tryz.prog 198 #[.int .i64 n] w fun e w' => e = .returned (.bool (idOk n)) ∧ w = w' := by
  by_cases h1 : 1 ≤ n
  · by_cases h2 : n ≤ 99
    · have H := Lib.hid (idOk_iff.2 ⟨h1, h2⟩)
      go_enter Tryz.func198, Tryz.ntmps198
      go_wp2
      go_ret
      exact ⟨by rw [H.out]; simp, rfl⟩
    · have H := Lib.hid (idBad_iff.2 (fun h => h2 h.2))
      have h3 : 99 < n := by omega
      clear h2
      go_enter Tryz.func198, Tryz.ntmps198
      go_wp2
      go_ret
      exact ⟨by rw [H.out]; simp; omega, rfl⟩
  · have H := Lib.hid (idBad_iff.2 (fun h => h1 h.1))
    have h2 : n < 1 := by omega
    clear h1
    go_enter Tryz.func198, Tryz.ntmps198
    go_wp2
    go_ret
    exact ⟨by rw [H.out]; rfl, rfl⟩

theorem tv_ok_eq (t : TV) (b1 b2 b3 b4 b5 b6 : Bool) (h1 : idOk t.id = b1) (h2 : decide (0 ≤ t.prio) = b2) (h3 : decide (t.prio ≤ 9) = b3) (h4 : t.need.ok = b4) (h5 : labsOk t.want = b5) (h6 : labsOk (tl t.tols) = b6) : t.ok = (b1 && b2 && b3 && b4 && b5 && b6) := by
  subst h1 h2 h3 h4 h5 h6; rfl
theorem nv_ok_eq (t : NV) (b1 b2 b3 b4 b5 b6 : Bool) (h1 : idOk t.id = b1) (h2 : decide (0 ≤ t.pool) = b2) (h3 : decide (t.pool < 5) = b3) (h4 : t.cap.ok = b4) (h5 : labsOk t.labs = b5) (h6 : labsOk (tl t.taints) = b6) : t.ok = (b1 && b2 && b3 && b4 && b5 && b6) := by
  subst h1 h2 h3 h4 h5 h6; rfl

set_option maxHeartbeats 1600000 in
theorem TaskOk_any (t : TV) (v1 v2 : Value) (w : World) (x : Addr) (hg : ErrAt x w) (h1 : LabSl w v1 t.want) (h2 : IntSl w v2 t.tols) (l1 : t.want.length ≤ 1048576) (l2 : t.tols.length ≤ 1048576) :
    Calls Tryz.prog 146 #[.agg #[.int .i64 t.id, .int .i64 t.prio, .int .i64 t.need.c, .int .i64 t.need.m, .int .i64 t.need.p, v1, v2]] w fun e w' => e = .returned (.bool t.ok) ∧ Below w.heap.size w w' := by
  have HG := Lib.hid hg
  have HL := Lib.hid h1
  have HI := Lib.hid h2
  have HE := Lib.hid (tv_ok_eq t)
  have hid := idOk_any t.id
  have hne : ∀ w x (hg : ErrAt x w), Calls Tryz.prog 199 #[.agg #[.int .i64 t.need.c, .int .i64 t.need.m, .int .i64 t.need.p]] w fun e w' => e = .returned (.bool t.need.ok) ∧ Below w.heap.size w w' := fun w x hg => ResOk_any t.need w x hg
  have hla : ∀ w (h : LabSl w v1 t.want), Calls Tryz.prog 200 #[v1] w fun e w' => e = .returned (.bool (labsOk t.want)) ∧ Below w.heap.size w w' := fun w h => LabsOk_any v1 t.want w h l1
  have hta : ∀ w (h : IntSl w v2 t.tols), Calls Tryz.prog 201 #[v2] w fun e w' => e = .returned (.bool (labsOk (tl t.tols))) ∧ Below w.heap.size w w' := fun w h => TaintsOk_any v2 t.tols w h l2
  generalize t.ok = ok at *
  generalize e1 : idOk t.id = b1 at hid
  generalize e2 : decide (0 ≤ t.prio) = b2
  generalize e3 : decide (t.prio ≤ 9) = b3
  generalize e4 : t.need.ok = b4 at hne
  generalize e5 : labsOk t.want = b5 at hla
  generalize e6 : labsOk (tl t.tols) = b6 at hta
  have HE' := Lib.hid (HE.out _ _ _ _ _ _ e1 e2 e3 e4 e5 e6)
  have HID := Lib.hid hid
  have HNE := Lib.hid hne
  have HLA := Lib.hid hla
  have HTA := Lib.hid hta
  clear hg h1 h2 hid hne hla hta e1 e4 e5 e6 HE l1 l2
  go_enter Tryz.func146, Tryz.ntmps146
  go_wp2_with fail
  refine (HID.out _).mono ?_
  rintro e w1 ⟨rfl, rfl⟩
  cases b1
  · go_wp2_with fail
    go_ret
    exact ⟨by rw [HE'.out]; simp, (by repeat' (first | exact Below.refl _ _ | refine Below.alloc ?_ ?_ _ | refine Below.setCell ?_ ?_ _ | refine Below.drew ?_ | (apply below_step; assumption) | (simp; done) | (simp; omega) | omega))⟩
  cases b2
  · go_wp2_with fail
    go_ret
    exact ⟨by rw [HE'.out]; simp, (by repeat' (first | exact Below.refl _ _ | refine Below.alloc ?_ ?_ _ | refine Below.setCell ?_ ?_ _ | refine Below.drew ?_ | (apply below_step; assumption) | (simp; done) | (simp; omega) | omega))⟩
  cases b3
  · go_wp2_with fail
    go_ret
    exact ⟨by rw [HE'.out]; simp, (by repeat' (first | exact Below.refl _ _ | refine Below.alloc ?_ ?_ _ | refine Below.setCell ?_ ?_ _ | refine Below.drew ?_ | (apply below_step; assumption) | (simp; done) | (simp; omega) | omega))⟩
  go_wp2_with fail
  refine (HNE.out _ x (HG.out.alloc _)).mono ?_
  rintro e w2 ⟨rfl, hb2⟩
  have hz2 := hb2.size
  simp at hz2
  obtain ⟨hc2, hf2⟩ := bcell hb2
  have hC2 : Below w.heap.size w w2 := ((Below.refl _ _).alloc (Nat.le_refl _) _).trans (hb2.mono (by simp))
  cases b4
  · go_wp2_with fail
    go_ret
    exact ⟨by rw [HE'.out]; simp, hC2⟩
  go_wp2_with fail
  refine (HLA.out _ (HL.out.below hC2)).mono ?_
  rintro e w3 ⟨rfl, hb3⟩
  have hz3 := hb3.size
  obtain ⟨hc3, hf3⟩ := bcell hb3
  have hs2 : w.heap.size < w2.heap.size := by omega
  have hC3 : Below w.heap.size w w3 := hC2.trans (hb3.mono hC2.size)
  cases b5
  · go_wp2_with fail
    go_ret
    exact ⟨by rw [HE'.out]; simp, hC3⟩
  go_wp2_with fail
  refine (HTA.out _ (HI.out.below hC3)).mono ?_
  rintro e w4 ⟨rfl, hb4⟩
  have hC4 : Below w.heap.size w w4 := hC3.trans (hb4.mono hC3.size)
  go_wp2_with fail
  go_ret
  exact ⟨by rw [HE'.out]; simp, hC4⟩
set_option maxHeartbeats 1600000 in
theorem NodeOk_any (t : NV) (v1 v2 : Value) (w : World) (x : Addr) (hg : ErrAt x w) (h1 : LabSl w v1 t.labs) (h2 : IntSl w v2 t.taints) (l1 : t.labs.length ≤ 1048576) (l2 : t.taints.length ≤ 1048576) :
    Calls Tryz.prog 147 #[.agg #[.int .i64 t.id, .int .i64 t.pool, .int .i64 t.cap.c, .int .i64 t.cap.m, .int .i64 t.cap.p, v1, v2, .bool t.cordon]] w fun e w' => e = .returned (.bool t.ok) ∧ Below w.heap.size w w' := by
  have HG := Lib.hid hg
  have HL := Lib.hid h1
  have HI := Lib.hid h2
  have HE := Lib.hid (nv_ok_eq t)
  have hid := idOk_any t.id
  have hne : ∀ w x (hg : ErrAt x w), Calls Tryz.prog 199 #[.agg #[.int .i64 t.cap.c, .int .i64 t.cap.m, .int .i64 t.cap.p]] w fun e w' => e = .returned (.bool t.cap.ok) ∧ Below w.heap.size w w' := fun w x hg => ResOk_any t.cap w x hg
  have hla : ∀ w (h : LabSl w v1 t.labs), Calls Tryz.prog 200 #[v1] w fun e w' => e = .returned (.bool (labsOk t.labs)) ∧ Below w.heap.size w w' := fun w h => LabsOk_any v1 t.labs w h l1
  have hta : ∀ w (h : IntSl w v2 t.taints), Calls Tryz.prog 201 #[v2] w fun e w' => e = .returned (.bool (labsOk (tl t.taints))) ∧ Below w.heap.size w w' := fun w h => TaintsOk_any v2 t.taints w h l2
  generalize t.ok = ok at *
  generalize e1 : idOk t.id = b1 at hid
  generalize e2 : decide (0 ≤ t.pool) = b2
  generalize e3 : decide (t.pool < 5) = b3
  generalize e4 : t.cap.ok = b4 at hne
  generalize e5 : labsOk t.labs = b5 at hla
  generalize e6 : labsOk (tl t.taints) = b6 at hta
  have HE' := Lib.hid (HE.out _ _ _ _ _ _ e1 e2 e3 e4 e5 e6)
  have HID := Lib.hid hid
  have HNE := Lib.hid hne
  have HLA := Lib.hid hla
  have HTA := Lib.hid hta
  clear hg h1 h2 hid hne hla hta e1 e4 e5 e6 HE l1 l2
  go_enter Tryz.func147, Tryz.ntmps147
  go_wp2_with fail
  refine (HID.out _).mono ?_
  rintro e w1 ⟨rfl, rfl⟩
  cases b1
  · go_wp2_with fail
    go_ret
    exact ⟨by rw [HE'.out]; simp, (by repeat' (first | exact Below.refl _ _ | refine Below.alloc ?_ ?_ _ | refine Below.setCell ?_ ?_ _ | refine Below.drew ?_ | (apply below_step; assumption) | (simp; done) | (simp; omega) | omega))⟩
  cases b2
  · go_wp2_with fail
    go_ret
    exact ⟨by rw [HE'.out]; simp, (by repeat' (first | exact Below.refl _ _ | refine Below.alloc ?_ ?_ _ | refine Below.setCell ?_ ?_ _ | refine Below.drew ?_ | (apply below_step; assumption) | (simp; done) | (simp; omega) | omega))⟩
  cases b3
  · go_wp2_with fail
    go_ret
    exact ⟨by rw [HE'.out]; simp, (by repeat' (first | exact Below.refl _ _ | refine Below.alloc ?_ ?_ _ | refine Below.setCell ?_ ?_ _ | refine Below.drew ?_ | (apply below_step; assumption) | (simp; done) | (simp; omega) | omega))⟩
  go_wp2_with fail
  refine (HNE.out _ x (HG.out.alloc _)).mono ?_
  rintro e w2 ⟨rfl, hb2⟩
  have hz2 := hb2.size
  simp at hz2
  obtain ⟨hc2, hf2⟩ := bcell hb2
  have hC2 : Below w.heap.size w w2 := ((Below.refl _ _).alloc (Nat.le_refl _) _).trans (hb2.mono (by simp))
  cases b4
  · go_wp2_with fail
    go_ret
    exact ⟨by rw [HE'.out]; simp, hC2⟩
  go_wp2_with fail
  refine (HLA.out _ (HL.out.below hC2)).mono ?_
  rintro e w3 ⟨rfl, hb3⟩
  have hz3 := hb3.size
  obtain ⟨hc3, hf3⟩ := bcell hb3
  have hs2 : w.heap.size < w2.heap.size := by omega
  have hC3 : Below w.heap.size w w3 := hC2.trans (hb3.mono hC2.size)
  cases b5
  · go_wp2_with fail
    go_ret
    exact ⟨by rw [HE'.out]; simp, hC3⟩
  go_wp2_with fail
  refine (HTA.out _ (HI.out.below hC3)).mono ?_
  rintro e w4 ⟨rfl, hb4⟩
  have hC4 : Below w.heap.size w w4 := hC3.trans (hb4.mono hC3.size)
  go_wp2_with fail
  go_ret
  exact ⟨by rw [HE'.out]; simp, hC4⟩

theorem ma_eq (n : NV) (t : TV) (b3 b4 : Bool) (h3 : matchOf n.labs t.want = b3) (h4 : tolOf n.taints t.tols = b4) : hosts n t = (b3 && b4) := by
  subst h3 h4; rfl
theorem ch_eq (n : NV) (t : TV) (b1 b2 b3 : Bool) (h1 : n.ok = b1) (h2 : t.ok = b2) (h3 : hosts n t = b3) : canHost n t = (b1 && b2 && b3) := by
  subst h1 h2 h3; rfl

set_option maxHeartbeats 1600000 in
theorem marksAllow_any (n : NV) (t : TV) (u1 u2 v1 v2 : Value) (w : World) (k1 : LabSl w u1 n.labs) (k2 : IntSl w u2 n.taints) (h1 : LabSl w v1 t.want) (h2 : IntSl w v2 t.tols)
    (m1 : n.labs.length ≤ 1048576) (m2 : n.taints.length ≤ 1048576) (l1 : t.want.length ≤ 1048576) (l2 : t.tols.length ≤ 1048576) :
    Calls Tryz.prog 163 #[.agg #[.int .i64 n.id, .int .i64 n.pool, .int .i64 n.cap.c, .int .i64 n.cap.m, .int .i64 n.cap.p, u1, u2, .bool n.cordon], .agg #[.int .i64 t.id, .int .i64 t.prio, .int .i64 t.need.c, .int .i64 t.need.m, .int .i64 t.need.p, v1, v2]] w fun e w' => e = .returned (.bool (hosts n t)) ∧ Below w.heap.size w w' := by
  have K1 := Lib.hid k1
  have K2 := Lib.hid k2
  have H1 := Lib.hid h1
  have H2 := Lib.hid h2
  have hla : ∀ w (k : LabSl w u1 n.labs) (h : LabSl w v1 t.want), Calls Tryz.prog 211 #[u1, v1] w fun e w' => e = .returned (.bool (matchOf n.labs t.want)) ∧ Below w.heap.size w w' := fun w k h => LabsMatch_any u1 v1 n.labs t.want w k h m1 l1
  have hta : ∀ w (k : IntSl w u2 n.taints) (h : IntSl w v2 t.tols), Calls Tryz.prog 212 #[u2, v2] w fun e w' => e = .returned (.bool (tolOf n.taints t.tols)) ∧ Below w.heap.size w w' := fun w k h => Tolerates_any u2 v2 n.taints t.tols w k h m2 l2
  have HE := Lib.hid (ma_eq n t)
  generalize hosts n t = ok at *
  generalize e3 : matchOf n.labs t.want = b3 at hla
  generalize e4 : tolOf n.taints t.tols = b4 at hta
  have HE' := Lib.hid (HE.out _ _ e3 e4)
  have HLA := Lib.hid hla
  have HTA := Lib.hid hta
  clear k1 k2 h1 h2 hla hta e3 e4 HE m1 m2 l1 l2
  go_enter Tryz.func163, Tryz.ntmps163
  go_wp2_with fail
  have hC0 : Below w.heap.size w ((w.alloc (.cells #[.int .i64 n.id, .int .i64 n.pool, .int .i64 n.cap.c, .int .i64 n.cap.m, .int .i64 n.cap.p, u1, u2, .bool n.cordon] 83)).alloc (.cells #[.int .i64 t.id, .int .i64 t.prio, .int .i64 t.need.c, .int .i64 t.need.m, .int .i64 t.need.p, v1, v2] 88)) := (by repeat' (first | exact Below.refl _ _ | refine Below.alloc ?_ ?_ _ | refine Below.setCell ?_ ?_ _ | refine Below.drew ?_ | (apply below_step; assumption) | (simp; done) | (simp; omega) | omega))
  refine (HLA.out _ (K1.out.below hC0) (H1.out.below hC0)).mono ?_
  rintro e w3 ⟨rfl, hb3⟩
  have hz3 := hb3.size
  simp at hz3
  obtain ⟨hc3, hf3⟩ := bcell hb3
  have hs2 : w.heap.size < w3.heap.size := by omega
  have hs2' : w.heap.size + 1 < w3.heap.size := by omega
  have hC3 : Below w.heap.size w w3 := hC0.trans (hb3.mono hC0.size)
  cases b3
  · go_wp2_with fail
    go_ret
    exact ⟨by rw [HE'.out]; simp, hC3⟩
  go_wp2_with fail
  refine (HTA.out _ (K2.out.below hC3) (H2.out.below hC3)).mono ?_
  rintro e w4 ⟨rfl, hb4⟩
  have hC4 : Below w.heap.size w w4 := hC3.trans (hb4.mono hC3.size)
  go_wp2_with fail
  go_ret
  exact ⟨by rw [HE'.out]; simp, hC4⟩

set_option maxHeartbeats 1600000 in
theorem CanHost_any (n : NV) (t : TV) (u1 u2 v1 v2 : Value) (w : World) (x : Addr) (hg : ErrAt x w) (k1 : LabSl w u1 n.labs) (k2 : IntSl w u2 n.taints) (h1 : LabSl w v1 t.want) (h2 : IntSl w v2 t.tols)
    (m1 : n.labs.length ≤ 1048576) (m2 : n.taints.length ≤ 1048576) (l1 : t.want.length ≤ 1048576) (l2 : t.tols.length ≤ 1048576) :
    Calls Tryz.prog 123 #[.agg #[.int .i64 n.id, .int .i64 n.pool, .int .i64 n.cap.c, .int .i64 n.cap.m, .int .i64 n.cap.p, u1, u2, .bool n.cordon], .agg #[.int .i64 t.id, .int .i64 t.prio, .int .i64 t.need.c, .int .i64 t.need.m, .int .i64 t.need.p, v1, v2]] w fun e w' => e = .returned (.bool (canHost n t)) ∧ Below w.heap.size w w' := by
  have HG := Lib.hid hg
  have K1 := Lib.hid k1
  have K2 := Lib.hid k2
  have H1 := Lib.hid h1
  have H2 := Lib.hid h2
  have hn : ∀ w x (hg : ErrAt x w) (h1 : LabSl w u1 n.labs) (h2 : IntSl w u2 n.taints), Calls Tryz.prog 147 #[.agg #[.int .i64 n.id, .int .i64 n.pool, .int .i64 n.cap.c, .int .i64 n.cap.m, .int .i64 n.cap.p, u1, u2, .bool n.cordon]] w fun e w' => e = .returned (.bool n.ok) ∧ Below w.heap.size w w' := fun w x hg h1 h2 => NodeOk_any n u1 u2 w x hg h1 h2 m1 m2
  have ht : ∀ w x (hg : ErrAt x w) (h1 : LabSl w v1 t.want) (h2 : IntSl w v2 t.tols), Calls Tryz.prog 146 #[.agg #[.int .i64 t.id, .int .i64 t.prio, .int .i64 t.need.c, .int .i64 t.need.m, .int .i64 t.need.p, v1, v2]] w fun e w' => e = .returned (.bool t.ok) ∧ Below w.heap.size w w' := fun w x hg h1 h2 => TaskOk_any t v1 v2 w x hg h1 h2 l1 l2
  have hma : ∀ w (k1 : LabSl w u1 n.labs) (k2 : IntSl w u2 n.taints) (h1 : LabSl w v1 t.want) (h2 : IntSl w v2 t.tols), Calls Tryz.prog 163 #[.agg #[.int .i64 n.id, .int .i64 n.pool, .int .i64 n.cap.c, .int .i64 n.cap.m, .int .i64 n.cap.p, u1, u2, .bool n.cordon], .agg #[.int .i64 t.id, .int .i64 t.prio, .int .i64 t.need.c, .int .i64 t.need.m, .int .i64 t.need.p, v1, v2]] w fun e w' => e = .returned (.bool (hosts n t)) ∧ Below w.heap.size w w' := fun w k1 k2 h1 h2 => marksAllow_any n t u1 u2 v1 v2 w k1 k2 h1 h2 m1 m2 l1 l2
  have HE := Lib.hid (ch_eq n t)
  generalize canHost n t = ok at *
  generalize e1 : n.ok = b1 at hn
  generalize e2 : t.ok = b2 at ht
  generalize e3 : hosts n t = b3 at hma
  have HE' := Lib.hid (HE.out _ _ _ e1 e2 e3)
  have HN := Lib.hid hn
  have HT := Lib.hid ht
  have HMA := Lib.hid hma
  clear hg k1 k2 h1 h2 hn ht hma e1 e2 e3 HE m1 m2 l1 l2
  go_enter Tryz.func123, Tryz.ntmps123
  go_wp2_with fail
  have hC0 : Below w.heap.size w ((w.alloc (.cells #[.int .i64 n.id, .int .i64 n.pool, .int .i64 n.cap.c, .int .i64 n.cap.m, .int .i64 n.cap.p, u1, u2, .bool n.cordon] 83)).alloc (.cells #[.int .i64 t.id, .int .i64 t.prio, .int .i64 t.need.c, .int .i64 t.need.m, .int .i64 t.need.p, v1, v2] 88)) := (by repeat' (first | exact Below.refl _ _ | refine Below.alloc ?_ ?_ _ | refine Below.setCell ?_ ?_ _ | refine Below.drew ?_ | (apply below_step; assumption) | (simp; done) | (simp; omega) | omega))
  refine (HN.out _ x ((HG.out.alloc _).alloc _) (K1.out.below hC0) (K2.out.below hC0)).mono ?_
  rintro e w1 ⟨rfl, hb1⟩
  have hz1 := hb1.size
  simp at hz1
  obtain ⟨hc1, hf1⟩ := bcell hb1
  have hg1 := Lib.hid (((HG.out.alloc _).alloc _).below hb1 (Nat.le_refl _))
  have hC1 : Below w.heap.size w w1 := hC0.trans (hb1.mono hC0.size)
  cases b1
  · go_wp2_with fail
    go_ret
    exact ⟨by rw [HE'.out]; simp, hC1⟩
  go_wp2_with fail
  refine (HT.out _ x hg1.out (H1.out.below hC1) (H2.out.below hC1)).mono ?_
  rintro e w2 ⟨rfl, hb2⟩
  have hz2 := hb2.size
  obtain ⟨hc2, hf2⟩ := bcell hb2
  have hs1 : w.heap.size < w1.heap.size := by omega
  have hs1' : w.heap.size + 1 < w1.heap.size := by omega
  have hC2 : Below w.heap.size w w2 := hC1.trans (hb2.mono hC1.size)
  cases b2
  · go_wp2_with fail
    go_ret
    exact ⟨by rw [HE'.out]; simp, hC2⟩
  have hs2 : w.heap.size < w2.heap.size := by omega
  have hs2' : w.heap.size + 1 < w2.heap.size := by omega
  go_wp2_with fail
  refine (HMA.out _ (K1.out.below hC2) (K2.out.below hC2) (H1.out.below hC2) (H2.out.below hC2)).mono ?_
  rintro e w3 ⟨rfl, hb3⟩
  have hC3 : Below w.heap.size w w3 := hC2.trans (hb3.mono hC2.size)
  go_wp2_with fail
  go_ret
  exact ⟨by rw [HE'.out]; simp, hC3⟩
end Go.Proofs.YtmkpajjnjgnmkaaGreatDoor

namespace Go.Proofs.YtmkpajjnjgnmkaaGreatDoor
open Go.RowKit

def SeenIs (w : World) (g : Nat) (s : List Int) : Prop := ∃ cs : Array Value, BlockIs w g 169 cs ∧ cs.size = 100 ∧ ∀ i : Nat, i < 100 → cs[i]? = some (.bool (s.contains (i : Int)))
theorem SeenIs.below {w w' : World} {g B : Nat} {s : List Int} (h : SeenIs w g s) (hb : Below B w w') (hg : g < B) : SeenIs w' g s := by
  obtain ⟨cs, h1, h2⟩ := h
  exact ⟨cs, h1.below hb hg, h2⟩
theorem SeenIs.put {w : World} {g : Nat} {s : List Int} {z : Int} (h : SeenIs w g s) (h0 : 0 ≤ z) (h1 : z < 100) : SeenIs (w.setCell ⟨g, z.toNat, none⟩ (.bool true)) g (z :: s) := by
  obtain ⟨cs, hb, hs, hc⟩ := h
  refine ⟨_, hb.put _ _, by simp [hs], fun i hi => ?_⟩
  by_cases e : i = z.toNat
  · subst e
    rw [Array.getElem?_setIfInBounds_self_of_lt (by omega)]
    have : ((z.toNat : Nat) : Int) = z := by omega
    simp [this]
  · rw [Array.getElem?_setIfInBounds_ne (by omega), hc i hi]
    have : (i : Int) ≠ z := by omega
    simp [this]
theorem SeenIs.at {w : World} {g : Nat} {s : List Int} {z : Int} (h : SeenIs w g s) (h0 : 0 ≤ z) (h1 : z < 100) : w.cell? ⟨g, z.toNat, none⟩ = some (.bool (s.contains z)) ∧ w.frozen? ⟨g, z.toNat, none⟩ = false ∧ g < w.heap.size := by
  obtain ⟨cs, hb, hs, hc⟩ := h
  refine ⟨?_, hb.frozen _, hb.lt⟩
  rw [hb.cell, hc _ (by omega)]
  have : ((z.toNat : Nat) : Int) = z := by omega
  rw [this]

theorem Tryz.zeroSeen : Tryz.zeroCells169 = Array.replicate 100 (.bool false) := by kernel_rfl
theorem SeenIs.new (w : World) : SeenIs (w.alloc (.cells Tryz.zeroCells169 169)) w.heap.size [] := by
  refine ⟨_, BlockIs.new _ _ _, by rw [Tryz.zeroSeen]; simp, fun i hi => ?_⟩
  rw [Tryz.zeroSeen]
  simp [hi]

set_option maxHeartbeats 1600000 in
theorem tasksOk_any (v : Value) (l : List TV) (w : World) (x : Addr) (hg : ErrAt x w) (hv : TaskSl w v l) (hlen : l.length ≤ 1048576) :
    Calls Tryz.prog 95 #[v] w fun e w' => e = .returned (.bool (tasksOk l)) ∧ Below w.heap.size w w' := by
  obtain ⟨A, c, rfl, hA⟩ := hv.form
  have HA := Lib.hid hA
  have HG := Lib.hid hg
  clear hA hv hg
  by_cases h30 : l.length ≤ 30
  · have HT := Lib.hid (show tasksOk l = tasksFrom [] l by simp [tasksOk, h30])
    go_enter Tryz.func95, Tryz.ntmps95
    go_wp2_with fail
    go_loopw [11] (fun s11 wr => ∃ (k : Nat) (s : List Int), k ≤ l.length ∧ s11 = .int .i64 k ∧ tasksFrom [] l = tasksFrom s (l.drop k) ∧ SeenIs wr w.heap.size s ∧ Below w.heap.size w wr) (fun s11 _ => (l.length - intOf s11).toNat)
    case atStart => exact ⟨0, [], by omega, rfl, by simp, SeenIs.new w, (by repeat' (first | exact Below.refl _ _ | refine Below.alloc ?_ ?_ _ | refine Below.setCell ?_ ?_ _ | refine Below.drew ?_ | (apply below_step; assumption) | (simp; done) | (simp; omega) | omega))⟩
    case round =>
      obtain ⟨k, s, hk, rfl, hts, hS, hB⟩ := hrel
      have HTS := Lib.hid hts
      have HS := Lib.hid hS
      have hzr := hB.size
      have hG : ErrAt x wr := HG.out.below hB (Nat.le_refl _)
      have HGR := Lib.hid hG
      clear hts hS hG
      by_cases hlt : k < l.length
      · obtain ⟨b, off, rfl, hbw, hat⟩ := HA.out (by omega)
        obtain ⟨t, ht⟩ : ∃ t, l[k]? = some t := ⟨_, List.getElem?_eq_getElem hlt⟩
        obtain ⟨cs, hR, hC⟩ := (hat.below TaskR.kept hB hbw) k t ht
        have HD := Lib.hid (drop_at ht)
        obtain ⟨v1, v2, rfl, sl, si, m1, m2⟩ := hR
        obtain ⟨A1, c1, rfl, _⟩ := sl.form
        obtain ⟨A2, c2, rfl, _⟩ := si.form
        have hok := fun w x hg h1 h2 => TaskOk_any t (.slice A1 t.want.length c1) (.slice A2 t.tols.length c2) w x hg h1 h2 m1 m2
        have SL := Lib.hid sl
        have SI := Lib.hid si
        obtain ⟨q0, q1, q2, q3, q4, q5, q6⟩ := task_cells hC
        have hbr : b < wr.heap.size := by omega
        cases ho : t.ok
        all_goals
          rw [ho] at hok
          have HO := Lib.hid ho
          have HOK := Lib.hid hok
        · clear hat hC ht sl si m1 m2 ho hok
          go_wp2_with fail
          have hX : Below wr.heap.size wr (wr.alloc (.cells #[.int .i64 t.id, .int .i64 t.prio, .int .i64 t.need.c, .int .i64 t.need.m, .int .i64 t.need.p, .slice A1 t.want.length c1, .slice A2 t.tols.length c2] 88)) := (by repeat' (first | exact Below.refl _ _ | refine Below.alloc ?_ ?_ _ | refine Below.setCell ?_ ?_ _ | refine Below.drew ?_ | (apply below_step; assumption) | (simp; done) | (simp; omega) | omega))
          refine (HOK.out _ x (HGR.out.alloc _) (SL.out.below hX) (SI.out.below hX)).mono ?_
          rintro e w2 ⟨rfl, hb2⟩
          have hC2 := below_of hX hb2
          go_wp2_with fail
          go_ret
          exact ⟨by rw [HT.out, HTS.out, HD.out, tasksFrom_bad HO.out]; rfl, below_of hB hC2⟩
        · obtain ⟨i1, i2⟩ := TV.ok_id ho
          clear hat hC ht sl si m1 m2 ho hok
          go_wp2_with fail
          have hX : Below wr.heap.size wr (wr.alloc (.cells #[.int .i64 t.id, .int .i64 t.prio, .int .i64 t.need.c, .int .i64 t.need.m, .int .i64 t.need.p, .slice A1 t.want.length c1, .slice A2 t.tols.length c2] 88)) := (by repeat' (first | exact Below.refl _ _ | refine Below.alloc ?_ ?_ _ | refine Below.setCell ?_ ?_ _ | refine Below.drew ?_ | (apply below_step; assumption) | (simp; done) | (simp; omega) | omega))
          refine (HOK.out _ x (HGR.out.alloc _) (SL.out.below hX) (SI.out.below hX)).mono ?_
          rintro e w2 ⟨rfl, hb2⟩
          have hC2 := below_of hX hb2
          have BX := (BlockIs.new wr 88 #[.int .i64 t.id, .int .i64 t.prio, .int .i64 t.need.c, .int .i64 t.need.m, .int .i64 t.need.p, .slice A1 t.want.length c1, .slice A2 t.tols.length c2]).below hb2 (by simp)
          have x0 := BX.cell 0
          simp at x0
          have S2 := HS.out.below hC2 (by obtain ⟨cs, h1, _⟩ := HS.out; exact h1.lt)
          obtain ⟨y0, yf, yl⟩ := S2.at (z := t.id) (by omega) (by omega)
          have HS2 := Lib.hid S2
          have hz2 := hC2.size
          clear BX S2 hb2
          cases hs : s.contains t.id
          all_goals
            rw [hs] at y0
            have HC := Lib.hid hs
            clear hs
          · go_wp2_with fail
            go_roundw
            case rel => exact ⟨k + 1, t.id :: s, by omega, by go_num, by rw [HTS.out, HD.out, tasksFrom_yes HO.out HC.out], HS2.out.put (by omega) (by omega), (below_of hB hC2).setCell (Nat.le_refl _) _⟩
            case measure => simp [intOf]; omega
          · go_wp2_with fail
            go_ret
            exact ⟨by rw [HT.out, HTS.out, HD.out, tasksFrom_twice HC.out]; rfl, below_of hB hC2⟩
      · have hkl : k = l.length := by omega
        have HF := Lib.hid (show tasksFrom [] l = true by rw [HTS.out, hkl, List.drop_length]; rfl)
        clear hkl
        go_wp2_with fail
        go_ret
        exact ⟨by rw [HT.out, HF.out]; rfl, hB⟩
  · have HT := Lib.hid (show tasksOk l = false by simp [tasksOk, h30])
    have h30' : (30 : Int) < (l.length : Int) := by omega
    clear h30
    go_enter Tryz.func95, Tryz.ntmps95
    go_wp2_with fail
    go_ret
    exact ⟨by rw [HT.out]; rfl, (by repeat' (first | exact Below.refl _ _ | refine Below.alloc ?_ ?_ _ | refine Below.setCell ?_ ?_ _ | refine Below.drew ?_ | (apply below_step; assumption) | (simp; done) | (simp; omega) | omega))⟩
end Go.Proofs.YtmkpajjnjgnmkaaGreatDoor
namespace Go.Proofs.YtmkpajjnjgnmkaaGreatDoor
open Go.RowKit

set_option maxHeartbeats 1600000 in
theorem nodesOk_any (v : Value) (l : List NV) (w : World) (x : Addr) (hg : ErrAt x w) (hv : NodeSl w v l) (hlen : l.length ≤ 1048576) :
    Calls Tryz.prog 96 #[v] w fun e w' => e = .returned (.bool (nodesOk l)) ∧ Below w.heap.size w w' := by
  obtain ⟨A, c, rfl, hA⟩ := hv.form
  have HA := Lib.hid hA
  have HG := Lib.hid hg
  clear hA hv hg
  by_cases h20 : l.length ≤ 20
  · have HT := Lib.hid (show nodesOk l = nodesFrom 0 l by simp [nodesOk, h20])
    go_enter Tryz.func96, Tryz.ntmps96
    go_wp2_with fail
    go_loopw [3, 11] (fun s3 s11 wr => ∃ (k : Nat) (p : Int), k ≤ l.length ∧ s11 = .int .i64 k ∧ s3 = .int .i64 p ∧ nodesFrom 0 l = nodesFrom p (l.drop k) ∧ Below w.heap.size w wr) (fun _ s11 _ => (l.length - intOf s11).toNat)
    case atStart => exact ⟨0, 0, by omega, rfl, rfl, by simp, Below.refl _ _⟩
    case round =>
      obtain ⟨k, p, hk, rfl, rfl, hts, hB⟩ := hrel
      have HTS := Lib.hid hts
      have hzr := hB.size
      have HGR := Lib.hid (HG.out.below hB (Nat.le_refl _))
      clear hts
      by_cases hlt : k < l.length
      · obtain ⟨b, off, rfl, hbw, hat⟩ := HA.out (by omega)
        obtain ⟨t, ht⟩ : ∃ t, l[k]? = some t := ⟨_, List.getElem?_eq_getElem hlt⟩
        obtain ⟨cs, hR, hC⟩ := (hat.below NodeR.kept hB hbw) k t ht
        have HD := Lib.hid (drop_at ht)
        obtain ⟨v1, v2, rfl, sl, si, m1, m2⟩ := hR
        obtain ⟨A1, c1, rfl, _⟩ := sl.form
        obtain ⟨A2, c2, rfl, _⟩ := si.form
        have hok := fun w x hg h1 h2 => NodeOk_any t (.slice A1 t.labs.length c1) (.slice A2 t.taints.length c2) w x hg h1 h2 m1 m2
        have SL := Lib.hid sl
        have SI := Lib.hid si
        obtain ⟨q0, q1, q2, q3, q4, q5, q6, q7⟩ := node_cells hC
        have hbr : b < wr.heap.size := by omega
        cases ho : t.ok
        all_goals
          rw [ho] at hok
          have HO := Lib.hid ho
          have HOK := Lib.hid hok
          clear hat hC ht sl si m1 m2 ho hok
        · go_wp2_with fail
          have hX : Below wr.heap.size wr (wr.alloc (.cells #[.int .i64 t.id, .int .i64 t.pool, .int .i64 t.cap.c, .int .i64 t.cap.m, .int .i64 t.cap.p, .slice A1 t.labs.length c1, .slice A2 t.taints.length c2, .bool t.cordon] 83)) := (by repeat' (first | exact Below.refl _ _ | refine Below.alloc ?_ ?_ _ | refine Below.setCell ?_ ?_ _ | refine Below.drew ?_ | (apply below_step; assumption) | (simp; done) | (simp; omega) | omega))
          refine (HOK.out _ x (HGR.out.alloc _) (SL.out.below hX) (SI.out.below hX)).mono ?_
          rintro e w2 ⟨rfl, hb2⟩
          have hC2 := below_of hX hb2
          go_wp2_with fail
          go_ret
          exact ⟨by rw [HT.out, HTS.out, HD.out, nodesFrom_bad HO.out]; rfl, below_of hB hC2⟩
        · go_wp2_with fail
          have hX : Below wr.heap.size wr (wr.alloc (.cells #[.int .i64 t.id, .int .i64 t.pool, .int .i64 t.cap.c, .int .i64 t.cap.m, .int .i64 t.cap.p, .slice A1 t.labs.length c1, .slice A2 t.taints.length c2, .bool t.cordon] 83)) := (by repeat' (first | exact Below.refl _ _ | refine Below.alloc ?_ ?_ _ | refine Below.setCell ?_ ?_ _ | refine Below.drew ?_ | (apply below_step; assumption) | (simp; done) | (simp; omega) | omega))
          refine (HOK.out _ x (HGR.out.alloc _) (SL.out.below hX) (SI.out.below hX)).mono ?_
          rintro e w2 ⟨rfl, hb2⟩
          have hC2 := below_of hX hb2
          have BX := (BlockIs.new wr 83 #[.int .i64 t.id, .int .i64 t.pool, .int .i64 t.cap.c, .int .i64 t.cap.m, .int .i64 t.cap.p, .slice A1 t.labs.length c1, .slice A2 t.taints.length c2, .bool t.cordon]).below hb2 (by simp)
          have x0 := BX.cell 0
          simp at x0
          clear BX hb2
          by_cases hp : t.id ≤ p
          · have HP := Lib.hid hp
            go_wp2_with fail
            go_ret
            exact ⟨by rw [HT.out, HTS.out, HD.out, nodesFrom_low HP.out]; rfl, below_of hB hC2⟩
          · have hp' : p < t.id := by omega
            have HP := Lib.hid hp'
            clear hp
            go_wp2_with fail
            go_roundw
            case rel => exact ⟨k + 1, t.id, by omega, by go_num, rfl, by rw [HTS.out, HD.out, nodesFrom_yes HO.out HP.out], below_of hB hC2⟩
            case measure => simp [intOf]; omega
      · have hkl : k = l.length := by omega
        have HF := Lib.hid (show nodesFrom 0 l = true by rw [HTS.out, hkl, List.drop_length]; rfl)
        clear hkl
        go_wp2_with fail
        go_ret
        exact ⟨by rw [HT.out, HF.out]; rfl, hB⟩
  · have HT := Lib.hid (show nodesOk l = false by simp [nodesOk, h20])
    have h20' : (20 : Int) < (l.length : Int) := by omega
    clear h20
    go_enter Tryz.func96, Tryz.ntmps96
    go_wp2_with fail
    go_ret
    exact ⟨by rw [HT.out]; rfl, (by repeat' (first | exact Below.refl _ _ | refine Below.alloc ?_ ?_ _ | refine Below.setCell ?_ ?_ _ | refine Below.drew ?_ | (apply below_step; assumption) | (simp; done) | (simp; omega) | omega))⟩

theorem bindOk_eq (c : CV) (b : BV) (b1 b2 ok : Bool) (t : TV) (n : NV) (h1 : (fstBy TV.id c.tasks b.task).isSome = b1) (h2 : (fstBy NV.id c.nodes b.node).isSome = b2)
    (ht : (fstBy TV.id c.tasks b.task).getD TV.zero = t) (hn : (fstBy NV.id c.nodes b.node).getD NV.zero = n) (hok : canHost n t = ok) : bindOk c b = (b1 && b2 && ok) := by
  subst h1 h2 ht hn hok
  unfold bindOk
  cases fstBy TV.id c.tasks b.task <;> cases fstBy NV.id c.nodes b.node <;> simp

set_option maxHeartbeats 3200000 in
theorem bindsOk_any (c : CV) (a0 a1 a2 : Value) (w : World) (x : Addr) (hg : ErrAt x w) (hc : CluR w c a0 a1 a2) :
    Calls Tryz.prog 97 #[.agg #[a0, a1, a2]] w fun e w' => e = .returned (.bool (bindsFrom c 0 c.binds)) ∧ Below w.heap.size w w' := by
  have HC := Lib.hid hc
  obtain ⟨h0, h1, h2, l0, l1, l2⟩ := hc
  obtain ⟨D0, e0, rfl, r0⟩ := h0.form
  obtain ⟨D1, e1, rfl, r1⟩ := h1.form
  obtain ⟨D2, e2, rfl, hA⟩ := h2.form
  have HA := Lib.hid hA
  have HG := Lib.hid hg
  clear hA h0 h1 h2 l0 l1 r0 r1 hg
  go_enter Tryz.func97, Tryz.ntmps97
  go_wp2_with fail
  go_loopw [3, 13] (fun s3 s13 wr => ∃ (k : Nat) (p : Int), k ≤ c.binds.length ∧ s13 = .int .i64 k ∧ s3 = .int .i64 p ∧ bindsFrom c 0 c.binds = bindsFrom c p (c.binds.drop k) ∧ BlockIs wr w.heap.size 35 #[.slice D0 c.tasks.length e0, .slice D1 c.nodes.length e1, .slice D2 c.binds.length e2] ∧ Below w.heap.size w wr) (fun _ s13 _ => (c.binds.length - intOf s13).toNat)
  case atStart => exact ⟨0, 0, by omega, rfl, rfl, by simp, BlockIs.new _ _ _, (by repeat' (first | exact Below.refl _ _ | refine Below.alloc ?_ ?_ _ | refine Below.setCell ?_ ?_ _ | refine Below.drew ?_ | (apply below_step; assumption) | (simp; done) | (simp; omega) | omega))⟩
  case round =>
    obtain ⟨k, p, hk, rfl, rfl, hts, hblk, hB⟩ := hrel
    have HTS := Lib.hid hts
    have HBK := Lib.hid hblk
    have hzr := hB.size
    have hgl := hblk.lt
    have HGR := Lib.hid (HG.out.below hB (Nat.le_refl _))
    clear hts
    by_cases hlt : k < c.binds.length
    · obtain ⟨b, off, rfl, hbw, hat⟩ := HA.out (by omega)
      obtain ⟨t, ht⟩ : ∃ t, c.binds[k]? = some t := ⟨_, List.getElem?_eq_getElem hlt⟩
      obtain ⟨cs, hR, hC⟩ := (hat.below BindR.kept hB hbw) k t ht
      have HD := Lib.hid (drop_at ht)
      obtain rfl := hR
      obtain ⟨q0, q1⟩ := bind_cells hC
      have g0 := hblk.cell 0
      have g1 := hblk.cell 1
      have g2 := hblk.cell 2
      simp at g0 g1 g2
      have hbr : b < wr.heap.size := by omega
      clear hat hC ht hblk
      go_wp2_with fail
      have hX : Below wr.heap.size wr (wr.alloc (.cells #[.int .i64 t.task, .int .i64 t.node] 100)) := (by repeat' (first | exact Below.refl _ _ | refine Below.alloc ?_ ?_ _ | refine Below.setCell ?_ ?_ _ | refine Below.drew ?_ | (apply below_step; assumption) | (simp; done) | (simp; omega) | omega))
      have hCX := below_of hB hX
      refine (findTask_any c _ _ _ t.task w _ hCX HC.out).mono ?_
      rintro e w2 ⟨cs1, rfl, hR1, hb2⟩
      generalize hb1 : (fstBy TV.id c.tasks t.task).isSome = b1
      generalize ht1 : (fstBy TV.id c.tasks t.task).getD TV.zero = t1 at hR1
      have HB1 := Lib.hid hb1
      have HT1 := Lib.hid ht1
      obtain ⟨v1, v2, rfl, sl1, si1, m1, m2⟩ := hR1
      obtain ⟨A1, c1, rfl, _⟩ := sl1.form
      obtain ⟨A2, c2, rfl, _⟩ := si1.form
      have hD2 := below_of hX hb2
      have hC2 := below_of hB hD2
      have BB2 := (BlockIs.new wr 100 #[.int .i64 t.task, .int .i64 t.node]).below hb2 (by simp)
      have BK2 := HBK.out.below hD2 HBK.out.lt
      have g0 := BK2.cell 0
      have g1 := BK2.cell 1
      have g2 := BK2.cell 2
      have y0 := BB2.cell 0
      have y1 := BB2.cell 1
      have yl := BB2.lt
      have kl := BK2.lt
      simp at g0 g1 g2 y0 y1
      have HBB := Lib.hid BB2
      have HBK2 := Lib.hid BK2
      have SL1 := Lib.hid sl1
      have SI1 := Lib.hid si1
      have M1 := Lib.hid (And.intro m1 m2)
      clear hb1 ht1 BB2 BK2 sl1 si1 m1 m2 hb2
      go_wp2_with fail
      have hX2 : Below w2.heap.size w2 (w2.alloc (.cells #[.int .i64 t1.id, .int .i64 t1.prio, .int .i64 t1.need.c, .int .i64 t1.need.m, .int .i64 t1.need.p, .slice A1 t1.want.length c1, .slice A2 t1.tols.length c2] 88)) := (by repeat' (first | exact Below.refl _ _ | refine Below.alloc ?_ ?_ _ | refine Below.setCell ?_ ?_ _ | refine Below.drew ?_ | (apply below_step; assumption) | (simp; done) | (simp; omega) | omega))
      have hCX2 := below_of hC2 hX2
      refine (findNode_any c _ _ _ t.node w _ hCX2 HC.out).mono ?_
      rintro e w3 ⟨cs2, rfl, hR2, hb3⟩
      generalize hb2 : (fstBy NV.id c.nodes t.node).isSome = b2
      generalize ht2 : (fstBy NV.id c.nodes t.node).getD NV.zero = n2 at hR2
      have HB2 := Lib.hid hb2
      have HT2 := Lib.hid ht2
      obtain ⟨u1, u2, rfl, sl2, si2, m3, m4⟩ := hR2
      obtain ⟨A3, c3, rfl, _⟩ := sl2.form
      obtain ⟨A4, c4, rfl, _⟩ := si2.form
      have hD3 := below_of hX2 hb3
      have hC3 := below_of hC2 hD3
      have BB3 := HBB.out.below hD3 HBB.out.lt
      have BK3 := HBK2.out.below hD3 HBK2.out.lt
      have BT3 := (BlockIs.new w2 88 #[.int .i64 t1.id, .int .i64 t1.prio, .int .i64 t1.need.c, .int .i64 t1.need.m, .int .i64 t1.need.p, .slice A1 t1.want.length c1, .slice A2 t1.tols.length c2]).below hb3 (by simp)
      have HR := Lib.hid (bindOk_eq c t b1 b2 _ t1 n2 HB1.out HB2.out HT1.out HT2.out rfl)
      have hch := fun w x hg h1 h2 h3 h4 => CanHost_any n2 t1 (.slice A3 n2.labs.length c3) (.slice A4 n2.taints.length c4) (.slice A1 t1.want.length c1) (.slice A2 t1.tols.length c2) w x hg h1 h2 h3 h4 m3 m4 M1.out.1 M1.out.2
      generalize canHost n2 t1 = ok at HR hch
      have HCH := Lib.hid hch
      have y0 := BB3.cell 0
      have yl := BB3.lt
      have tl := BT3.lt
      have kl := BK3.lt
      simp at y0
      have z0 := BT3.cell 0
      have z1 := BT3.cell 1
      have z2 := BT3.cell 2
      have z3 := BT3.cell 3
      have z4 := BT3.cell 4
      have z5 := BT3.cell 5
      have z6 := BT3.cell 6
      simp at z0 z1 z2 z3 z4 z5 z6
      have HBB3 := Lib.hid BB3
      have HBK3 := Lib.hid BK3
      have SL2 := Lib.hid sl2
      have SI2 := Lib.hid si2
      clear hb2 ht2 BB3 BK3 BT3 sl2 si2 hb3 m3 m4 hch HBB HBK2 g0 g1 g2 y1
      by_cases hp : t.task ≤ p
      · have HP := Lib.hid hp
        go_wp2_with fail
        go_ret
        exact ⟨by rw [HTS.out, HD.out, bindsFrom_low HP.out]; rfl, (by repeat' (first | exact Below.refl _ _ | refine Below.alloc ?_ ?_ _ | refine Below.setCell ?_ ?_ _ | refine Below.drew ?_ | (apply below_step; assumption) | (simp; done) | (simp; omega) | omega))⟩
      · have hp' : p < t.task := by omega
        have HP := Lib.hid hp'
        clear hp
        cases b1
        · go_wp2_with fail
          go_ret
          exact ⟨by rw [HTS.out, HD.out, bindsFrom_bad (by rw [HR.out]; rfl)]; rfl, (by repeat' (first | exact Below.refl _ _ | refine Below.alloc ?_ ?_ _ | refine Below.setCell ?_ ?_ _ | refine Below.drew ?_ | (apply below_step; assumption) | (simp; done) | (simp; omega) | omega))⟩
        cases b2
        · go_wp2_with fail
          go_ret
          exact ⟨by rw [HTS.out, HD.out, bindsFrom_bad (by rw [HR.out]; rfl)]; rfl, (by repeat' (first | exact Below.refl _ _ | refine Below.alloc ?_ ?_ _ | refine Below.setCell ?_ ?_ _ | refine Below.drew ?_ | (apply below_step; assumption) | (simp; done) | (simp; omega) | omega))⟩
        go_wp2_with fail
        have hX3 : Below w3.heap.size w3 (w3.alloc (.cells #[.int .i64 n2.id, .int .i64 n2.pool, .int .i64 n2.cap.c, .int .i64 n2.cap.m, .int .i64 n2.cap.p, .slice A3 n2.labs.length c3, .slice A4 n2.taints.length c4, .bool n2.cordon] 83)) := (by repeat' (first | exact Below.refl _ _ | refine Below.alloc ?_ ?_ _ | refine Below.setCell ?_ ?_ _ | refine Below.drew ?_ | (apply below_step; assumption) | (simp; done) | (simp; omega) | omega))
        have hCX3 := below_of hC3 hX3
        refine (HCH.out _ x (HG.out.below hCX3 (Nat.le_refl _)) (SL2.out.below hCX3) (SI2.out.below hCX3) (SL1.out.below hCX3) (SI1.out.below hCX3)).mono ?_
        rintro e w4 ⟨rfl, hb4⟩
        have hD4 := below_of hX3 hb4
        have hC4 := below_of hC3 hD4
        have BB4 := HBB3.out.below hD4 HBB3.out.lt
        have y0 := BB4.cell 0
        simp at y0
        have HBK4 := Lib.hid (HBK3.out.below hD4 HBK3.out.lt)
        clear BB4 hb4
        cases ok
        · go_wp2_with fail
          go_ret
          exact ⟨by rw [HTS.out, HD.out, bindsFrom_bad (by rw [HR.out]; rfl)]; rfl, hC4⟩
        · go_wp2_with fail
          go_roundw
          case rel => exact ⟨k + 1, t.task, by omega, by go_num, rfl, by rw [HTS.out, HD.out, bindsFrom_yes (by rw [HR.out]; rfl) HP.out], HBK4.out, hC4⟩
          case measure => simp [intOf]; omega
    · have hkl : k = c.binds.length := by omega
      have HF := Lib.hid (show bindsFrom c 0 c.binds = true by rw [HTS.out, hkl, List.drop_length]; rfl)
      clear hkl
      go_wp2_with fail
      go_ret
      exact ⟨by rw [HF.out]; rfl, hB⟩
end Go.Proofs.YtmkpajjnjgnmkaaGreatDoor

namespace Go.Proofs.YtmkpajjnjgnmkaaGreatDoor
open Go.RowKit

def ResAt (w : World) (b off : Nat) (l : List RV) : Prop :=
  ∀ i r, l[i]? = some r → w.cell? ⟨b, off + i * 3, none⟩ = some (.int .i64 r.c) ∧ w.cell? ⟨b, off + i * 3 + 1, none⟩ = some (.int .i64 r.m) ∧ w.cell? ⟨b, off + i * 3 + 2, none⟩ = some (.int .i64 r.p)
def ResSl (w : World) (v : Value) (l : List RV) : Prop := (l = [] ∧ ∃ A c, v = .slice A 0 c) ∨ ∃ b off c, v = .slice (some ⟨b, off, none⟩) l.length c ∧ b < w.heap.size ∧ ResAt w b off l
theorem ResAt.below {w w' : World} {b off B : Nat} {l : List RV} (h : ResAt w b off l) (hb : Below B w w') (hB : b < B) : ResAt w' b off l := fun i r hr => by
  obtain ⟨h1, h2, h3⟩ := h i r hr
  exact ⟨(hb.cell (p := ⟨b, _, none⟩) hB).trans h1, (hb.cell (p := ⟨b, _, none⟩) hB).trans h2, (hb.cell (p := ⟨b, _, none⟩) hB).trans h3⟩
theorem ResSl.below {w w' : World} {v : Value} {l : List RV} (h : ResSl w v l) (hb : Below w.heap.size w w') : ResSl w' v l := by
  rcases h with h | ⟨b, off, c, rfl, hlt, h⟩
  · exact .inl h
  · exact .inr ⟨b, off, c, rfl, Nat.lt_of_lt_of_le hlt hb.size, h.below hb hlt⟩
end Go.Proofs.YtmkpajjnjgnmkaaGreatDoor

namespace Go.Proofs.YtmkpajjnjgnmkaaGreatDoor
open Go.RowKit

theorem ResSl.form {w : World} {v : Value} {l : List RV} (h : ResSl w v l) : ∃ A c, v = .slice A l.length c ∧ (0 < l.length → ∃ b off, A = some ⟨b, off, none⟩ ∧ b < w.heap.size ∧ ResAt w b off l) := by
  rcases h with ⟨rfl, A, c, rfl⟩ | ⟨b, off, c, rfl, hlt, h⟩
  · exact ⟨A, c, rfl, fun h => absurd h (by simp)⟩
  · exact ⟨_, c, rfl, fun _ => ⟨b, off, rfl, hlt, h⟩⟩
def SumAt (X : World) (g : Nat) (s : RV) (wr : World) : Prop := Below g X wr ∧ X.heap.size ≤ wr.heap.size ∧ BlockIs wr g 57 #[.int .i64 s.c, .int .i64 s.m, .int .i64 s.p]

set_option maxHeartbeats 1600000 in
theorem ResSum_any (v : Value) (l : List RV) (w : World) (x : Addr) (hg : ErrAt x w) (hv : ResSl w v l) (hlen : l.length ≤ 1048576) :
    Calls Tryz.prog 151 #[v] w (RetR (sumGo RV.zero l).1 (sumGo RV.zero l).2 w) := by
  obtain ⟨A, c, rfl, hA⟩ := hv.form
  have HA := Lib.hid hA
  clear hA hv
  have hgw := hg.lt
  go_enter Tryz.func151, Tryz.ntmps151
  go_wp2_with fail
  go_loopw [12] (fun s12 wr => ∃ (k : Nat) (s : RV), k ≤ l.length ∧ s12 = .int .i64 k ∧ sumGo RV.zero l = sumGo s (l.drop k) ∧ SumAt ((w.alloc (.cells #[.int .i64 0, .int .i64 0, .int .i64 0] 57)).alloc (.cells #[.int .i64 0, .int .i64 0, .int .i64 0] 57)) (w.heap.size + 1) s wr) (fun s12 _ => (l.length - intOf s12).toNat)
  case atStart =>
    refine ⟨0, RV.zero, by omega, rfl, by rw [List.drop_zero], (by repeat' (first | exact Below.refl _ _ | refine Below.alloc ?_ ?_ _ | refine Below.setCell ?_ ?_ _ | refine Below.drew ?_ | (apply below_step; assumption) | (simp; done) | (simp; omega) | omega)), by simp, ?_⟩
    have := BlockIs.new (w.alloc (.cells #[.int .i64 0, .int .i64 0, .int .i64 0] 57)) 57 #[.int .i64 0, .int .i64 0, .int .i64 0]
    simpa [RV.zero] using this
  case round =>
    obtain ⟨k, s, hk, rfl, hsum, hB, hzr, hblk⟩ := hrel
    have HS := Lib.hid hsum
    clear hsum
    simp at hzr
    have t0 := hblk.cell 0
    have t1 := hblk.cell 1
    have t2 := hblk.cell 2
    have tf := hblk.frozen
    simp at t0 t1 t2
    have hBL := Lib.hid hblk
    clear hblk
    have hcr : ∀ b o, b < w.heap.size + 1 → wr.cell? ⟨b, o, none⟩ = ((w.alloc (.cells #[.int .i64 0, .int .i64 0, .int .i64 0] 57)).alloc (.cells #[.int .i64 0, .int .i64 0, .int .i64 0] 57)).cell? ⟨b, o, none⟩ := fun b o h => hB.cell (p := ⟨b, o, none⟩) h
    have hfr : ∀ b o, b < w.heap.size + 1 → wr.frozen? ⟨b, o, none⟩ = ((w.alloc (.cells #[.int .i64 0, .int .i64 0, .int .i64 0] 57)).alloc (.cells #[.int .i64 0, .int .i64 0, .int .i64 0] 57)).frozen? ⟨b, o, none⟩ := fun b o h => hB.frozen (p := ⟨b, o, none⟩) h
    by_cases hlt : k < l.length
    · obtain ⟨b, off, rfl, hbw, hat⟩ := HA.out (by omega)
      obtain ⟨r, hr⟩ : ∃ r, l[k]? = some r := ⟨_, List.getElem?_eq_getElem hlt⟩
      have hd := drop_at hr
      obtain ⟨q0, q1, q2⟩ := hat k r hr
      have hbn : b < w.heap.size + 1 := by omega
      have HSD := Lib.hid (HS.out.trans (congrArg (sumGo s) hd))
      have hg1 : ErrAt x wr := by
        unfold ErrAt at *
        rw [hcr _ _ (by omega), World.cell?_alloc_lt _ _ _ (by simp <;> omega), World.cell?_alloc_lt _ _ _ hgw]; exact hg
      have hr1 : w.heap.size + 1 < wr.heap.size := by omega
      clear hd hr hat
      have hadd := fun w hg => ResAdd_any s r w x hg
      cases ho : resAddOk s r
      all_goals
        simp only [ho] at hadd
        have HADD := Lib.hid hadd
        have HO := Lib.hid ho
        clear hadd ho
        go_wp2_with fail
        refine (HADD.out _ (hg1.alloc _)).mono ?_
        rintro e w3 ⟨rfl, hb3⟩
        obtain ⟨hc3, hf3⟩ := bcell hb3
        have hz3 := hb3.size
        simp at hz3
        have hq0 : w.heap.size < w3.heap.size := by omega
        have hq1 : w.heap.size + 1 < w3.heap.size := by omega
        have hq2 : w.heap.size < wr.heap.size := by omega
        go_wp2_with fail
      · have HF : Hid (sumGo RV.zero l = (RV.zero, false)) := HSD.out.trans (sumGo_cons_no HO.out)
        have hz : ∀ o, w3.cell? ⟨w.heap.size, o, none⟩ = wr.cell? ⟨w.heap.size, o, none⟩ := fun o => by rw [hc3 _ _ (by simp; omega), World.cell?_alloc_lt _ _ _ hq2]
        refine bodyPost_ret (v := .tuple #[.agg #[.int .i64 RV.zero.c, .int .i64 RV.zero.m, .int .i64 RV.zero.p], .bool false]) (by simp [results, Tryz.results151, go_sem, hz, hcr, hq0, RV.zero]) rfl ?_
        rw [HF.out]
        exact ⟨rfl, (by repeat' (first | exact Below.refl _ _ | refine Below.alloc ?_ ?_ _ | refine Below.setCell ?_ ?_ _ | refine Below.drew ?_ | (apply below_step; assumption) | (simp; done) | (simp; omega) | omega))⟩
      · go_roundw
        case rel =>
          refine ⟨k + 1, resAdd s r, by omega, by go_num, HSD.out.trans (sumGo_cons_yes HO.out), (by repeat' (first | exact Below.refl _ _ | refine Below.alloc ?_ ?_ _ | refine Below.setCell ?_ ?_ _ | refine Below.drew ?_ | (apply below_step; assumption) | (simp; done) | (simp; omega) | omega)), by simp; omega, ?_⟩
          have hb4 := ((((((hBL.out.alloc _).below hb3 (by simp; omega)).put 0 (.int .i64 (resAdd s r).c)).put 1 (.int .i64 (resAdd s r).m)).put 2 (.int .i64 (resAdd s r).p))).alloc (.cells #[.int .i64 (resAdd s r).c, .int .i64 (resAdd s r).m, .int .i64 (resAdd s r).p] 57)
          simpa using hb4
        case measure => simp [intOf]; omega
    · have hkl : k = l.length := by omega
      have HF : Hid (sumGo RV.zero l = (s, true)) := by
        show _ = _
        rw [HS.out, hkl, List.drop_length]; rfl
      clear hkl
      have hr0 : w.heap.size < wr.heap.size := by omega
      go_wp2_with fail
      refine bodyPost_ret (v := .tuple #[.agg #[.int .i64 s.c, .int .i64 s.m, .int .i64 s.p], .bool true]) (by first | (simp [results, Tryz.results151, go_sem, hcr]; done) | simp [results, Tryz.results151, go_sem, hcr, t0, t1, t2]) rfl ?_
      rw [HF.out]
      exact ⟨rfl, (by repeat' (first | exact Below.refl _ _ | refine Below.alloc ?_ ?_ _ | refine Below.setCell ?_ ?_ _ | refine Below.drew ?_ | (apply below_step; assumption) | (simp; done) | (simp; omega) | omega))⟩
end Go.Proofs.YtmkpajjnjgnmkaaGreatDoor

namespace Go.Proofs.YtmkpajjnjgnmkaaGreatDoor
open Go.RowKit

def resL (l : List RV) : List Value := l.flatMap fun x => [.int .i64 x.c, .int .i64 x.m, .int .i64 x.p]
theorem resL_append (a b : List RV) : resL (a ++ b) = resL a ++ resL b := by simp [resL]
theorem resL_cons (x : RV) (r : List RV) : resL (x :: r) = .int .i64 x.c :: .int .i64 x.m :: .int .i64 x.p :: resL r := rfl
theorem resL_at {l : List RV} {i : Nat} {x : RV} (h : l[i]? = some x) : (resL l)[i * 3]? = some (.int .i64 x.c) ∧ (resL l)[i * 3 + 1]? = some (.int .i64 x.m) ∧ (resL l)[i * 3 + 2]? = some (.int .i64 x.p) := by
  induction l generalizing i with
  | nil => simp at h
  | cons y r ih =>
    cases i with
    | zero => simp at h; subst h; exact ⟨rfl, rfl, rfl⟩
    | succ i =>
      simp at h
      have := ih h
      rw [resL_cons, show (i + 1) * 3 = i * 3 + 1 + 1 + 1 by omega]
      simpa using this
def OwnsR (w : World) (base : Nat) (v : Value) (l : List RV) : Prop := w.ownsRow base 57 3 v l.length (resL l)
section
variable {w w' : World} {base : Nat} {v : Value} {l : List RV}
theorem OwnsR.alloc (h : OwnsR w base v l) (o : Obj) : OwnsR (w.alloc o) base v l := World.ownsRow.alloc h o
theorem OwnsR.nil (w : World) (base : Nat) : OwnsR w base (.slice none 0 0) [] := World.ownsRow_nil w base _ _
theorem OwnsR.below {B : Nat} (h : OwnsR w base v l) (hb : Below B w w') (hB : w.heap.size ≤ B) : OwnsR w' base v l := by
  obtain ⟨h1, h2⟩ := h
  refine ⟨h1, ?_⟩
  rcases h2 with h | ⟨g, cap, cur, hv, hg, hh, h⟩
  · exact .inl h
  · have hlt : g < w.heap.size := (Array.getElem?_eq_some_iff.1 hh).1
    exact .inr ⟨g, cap, cur, hv, hg, (hb.block g (by omega)).trans hh, h⟩
theorem OwnsR.form (h : OwnsR w base v l) : (v = .slice none 0 0 ∧ l = []) ∨ ∃ g cap cur, v = .slice (some ⟨g, 0, none⟩) l.length cap ∧ base ≤ g ∧ BlockIs w g 57 cur ∧ ∀ (j : Nat) (u : Value), (resL l)[j]? = some u → cur[j]? = some u := by
  obtain ⟨h1, h2⟩ := h
  rcases h2 with ⟨hv, hn⟩ | ⟨g, cap, cur, hv, hg, hh, hnc, _, hs, ht⟩
  · exact .inl ⟨hv, List.eq_nil_of_length_eq_zero hn⟩
  · refine .inr ⟨g, cap, cur, hv, hg, hh, fun j u hu => ?_⟩
    rw [← ht] at hu
    have hj : j < l.length * 3 := by
      have := (List.getElem?_eq_some_iff.1 hu).1
      rw [List.length_take] at this; omega
    rw [List.getElem?_take_of_lt hj] at hu
    simpa using hu
theorem OwnsR.sl (h : OwnsR w base v l) : ResSl w v l := by
  rcases h.form with ⟨rfl, rfl⟩ | ⟨g, cap, cur, rfl, _, hb, hc⟩
  · exact .inl ⟨rfl, _, _, rfl⟩
  · refine .inr ⟨g, 0, cap, rfl, hb.lt, fun i r hr => ?_⟩
    obtain ⟨h1, h2, h3⟩ := resL_at hr
    simp only [Nat.zero_add]
    exact ⟨(hb.cell _).trans (hc _ _ h1), (hb.cell _).trans (hc _ _ h2), (hb.cell _).trans (hc _ _ h3)⟩
theorem OwnsR.len (h : OwnsR w base v l) : ∃ A c, v = .slice A l.length c := by
  rcases h.form with ⟨rfl, rfl⟩ | ⟨g, cap, cur, rfl, _⟩
  · exact ⟨_, _, rfl⟩
  · exact ⟨_, _, rfl⟩
end
theorem infoR : (Tryz.prog.info? 57).map (fun i => (i.zero, i.size, i.bytes)) = some (some (.agg #[.int .i64 0, .int .i64 0, .int .i64 0]), 3, 24) := by kernel_rfl
theorem step_append_res {ops : Array Oper} {o : Oper} {a : Act} {K : Act → World → Prop} {Q : Exit → Act → World → Prop} {E : Prop} (w : World) (hgd : o.guard = none) (s x : Operand)
    (ho : o.op = .call { callee := .builtin .append, args := #[s, x], argTypes := #[167, 167] })
    (base : Nat) (v : Value) (l : List RV) (r : RV) (g : Nat) (hs : a.eval s = v) (hown : OwnsR w base v l) (hx : a.eval x = .slice (some ⟨g, 0, none⟩) 1 1)
    (h0 : w.cell? ⟨g, 0, none⟩ = some (.int .i64 r.c)) (h1 : w.cell? ⟨g, 1, none⟩ = some (.int .i64 r.m)) (h2 : w.cell? ⟨g, 2, none⟩ = some (.int .i64 r.p)) (hl : l.length ≤ 2000000) (hbase : base ≤ w.heap.size)
    (h : ∀ v' w', OwnsR w' base v' (l ++ [r]) → Below base w w' → K (a.put o.dst v') w') : if Region.wanted o (yielded ops a.tmps) = true then Oper.wp Tryz.prog o a w K Q else E := by
  have hw : Region.wanted o (yielded ops a.tmps) = true := by simp [Region.wanted, hgd]
  rw [if_pos hw]
  obtain ⟨i0, hi0, hz0, hz1, hz2⟩ := info_parts infoR
  refine wp_append_own w s x 167 ho base 57 i0 _ 3 24 Tryz.underlying167 hi0 hz0 hz1 hz2 rfl (by omega) v l.length (resL l) hs hown ⟨g, 0, none⟩ 1 1 [.int .i64 r.c, .int .i64 r.m, .int .i64 r.p] hx rfl ?_ ?_ (by simp only [maxLen]; omega) (by omega) hbase ?_
  · intro j u hj
    match j, hj with
    | 0, hj => simp at hj; subst hj; simpa [Addr.add] using h0
    | 1, hj => simp at hj; subst hj; simpa [Addr.add] using h1
    | 2, hj => simp at hj; subst hj; simpa [Addr.add] using h2
  · intro u hu
    simp at hu
    rcases hu with rfl | rfl | rfl <;> rfl
  · intro v' w' hown' hgrow _
    refine h v' w' ?_ ((Below.refl _ _).grown hgrow hbase (fun k hk => (World.ownsRow.lt hown k hk).1))
    unfold OwnsR
    rw [resL_append, List.length_append]
    exact hown'
end Go.Proofs.YtmkpajjnjgnmkaaGreatDoor

namespace Go.Proofs.YtmkpajjnjgnmkaaGreatDoor
open Go.RowKit Go.Shelf
attribute [local go_sem] Oper.semAt_some

def tasksOnL (c : CV) (z : Int) : List BV → List TV
  | [] => []
  | b :: r => if b.node = z then (fstBy TV.id c.tasks b.task).toList ++ tasksOnL c z r else tasksOnL c z r
theorem tasksOnL_append (c : CV) (z : Int) (a b : List BV) : tasksOnL c z (a ++ b) = tasksOnL c z a ++ tasksOnL c z b := by
  induction a with
  | nil => rfl
  | cons x r ih => simp only [List.cons_append, tasksOnL, ih]; split <;> simp
theorem tasksOnL_len (c : CV) (z : Int) (l : List BV) : (tasksOnL c z l).length ≤ l.length := by
  induction l with
  | nil => simp [tasksOnL]
  | cons b r ih =>
    have : (fstBy TV.id c.tasks b.task).toList.length ≤ 1 := by cases fstBy TV.id c.tasks b.task <;> simp
    unfold tasksOnL; split <;> simp <;> omega
theorem on_yes {c : CV} {z : Int} {k : Nat} {b : BV} {t : TV} (h : c.binds[k]? = some b) (e : b.node = z) (ht : fstBy TV.id c.tasks b.task = some t) : tasksOnL c z (c.binds.take (k + 1)) = tasksOnL c z (c.binds.take k) ++ [t] := by
  rw [take_at h, tasksOnL_append]; simp [tasksOnL, e, ht]
theorem on_gone {c : CV} {z : Int} {k : Nat} {b : BV} (h : c.binds[k]? = some b) (ht : fstBy TV.id c.tasks b.task = none) : tasksOnL c z (c.binds.take (k + 1)) = tasksOnL c z (c.binds.take k) := by
  rw [take_at h, tasksOnL_append]; simp [tasksOnL, ht]
theorem on_no {c : CV} {z : Int} {k : Nat} {b : BV} (h : c.binds[k]? = some b) (e : b.node ≠ z) : tasksOnL c z (c.binds.take (k + 1)) = tasksOnL c z (c.binds.take k) := by
  rw [take_at h, tasksOnL_append]; simp [tasksOnL, e]
theorem RV.add_zero (s : RV) : s.add RV.zero = s := by simp [RV.add, RV.zero]
theorem sum_on (c : CV) (z : Int) (l : List BV) (s : RV) (hs : s.ok = true) : sumGo s ((tasksOnL c z l).map TV.need) = sumGo s (needsIn c z l) := by
  induction l generalizing s with
  | nil => rfl
  | cons b r ih =>
    unfold tasksOnL needsIn
    split
    · unfold needOf
      cases hf : fstBy TV.id c.tasks b.task with
      | none =>
        have h0 : RV.zero.ok = true := by decide
        have hk : resAddOk s RV.zero = true := by rw [(resAdd_in hs h0).2, RV.add_zero]; exact hs
        have ha : resAdd s RV.zero = s := by rw [(resAdd_in hs h0).1, RV.add_zero, RV.kept_yes hs]
        simp only [Option.toList_none, List.nil_append, Option.getD_none]
        rw [show TV.zero.need = RV.zero from rfl, sumGo_cons_yes hk, ha]
        exact ih s hs
      | some t =>
        simp only [Option.toList_some, List.singleton_append, List.map_cons, Option.getD_some]
        cases hk : resAddOk s t.need with
        | false => rw [sumGo_cons_no hk, sumGo_cons_no hk]
        | true =>
          rw [sumGo_cons_yes hk, sumGo_cons_yes hk]
          apply ih
          have := hk
          unfold resAddOk at this
          unfold resAdd
          rw [if_pos hk]
          simp only [Bool.and_eq_true] at this
          exact this.2
    · exact ih s hs
theorem used_on (c : CV) (z : Int) : usedOf c z = sumGo RV.zero ((tasksOnL c z c.binds).map TV.need) := (sum_on c z c.binds RV.zero (by decide)).symm

abbrev OnT (w0 : World) : Type := { p : TV × List Value // TaskR w0 p.1 p.2 }
def OnT.t {w0 : World} (x : OnT w0) : TV := x.1.1
def encT {w0 : World} (x : OnT w0) : Array Value := #[.agg x.1.2.toArray]
def KpOn (n Bc Bn : Nat) (W W' : World) : Prop := Below n W W' ∧ W'.heap[Bc]? = W.heap[Bc]? ∧ W'.heap[Bn]? = W.heap[Bn]?
theorem KpOn.t {n Bc Bn : Nat} {A B C : World} (h : KpOn n Bc Bn A B) (k : KpOn n Bc Bn B C) : KpOn n Bc Bn A C := ⟨h.1.trans k.1, k.2.1.trans h.2.1, k.2.2.trans h.2.2⟩
theorem KpOn.b {n Bc Bn : Nat} {w : World} (hn : n ≤ w.heap.size) (hc : Bc < w.heap.size) (hb : Bn < w.heap.size) (W : World) (l : Nat) (o o' : Obj) (hl : w.heap.size ≤ l) (h : W.heap[l]? = some o) (h1 : o.isCells = false) (h2 : o.isWalk = false) : KpOn n Bc Bn W (W.putObj l o') :=
  ⟨belowK_b hn W l o o' hl h h1 h2, World.putObj_heap_other (by omega), World.putObj_heap_other (by omega)⟩
theorem grown_none {w w' : World} (hb : Below w.heap.size w w') : w.grownBy w' none := ⟨hb.os, hb.tape, hb.output, hb.size, fun k hk _ => hb.block k hk⟩
theorem abide {α : Type} {B : Nat} {J : List α → World → Prop} (hJ : AbidesFrom B J) {pre : List α} {w w' : World} (h : J pre w) (hb : Below w.heap.size w w') : J pre w' := hJ pre w w' none h (grown_none hb) (fun _ e => by cases e)

set_option maxHeartbeats 1600000 in
theorem tasksOn_any (D0 D1 D2 : Option Addr) (n0 n1 n2 e0 e1 e2 : Nat) (z : Int) (w : World) :
    Calls Tryz.prog 150 #[.agg #[.slice D0 n0 e0, .slice D1 n1 e1, .slice D2 n2 e2], .int .i64 z] w fun e w' => e = .returned (.func (.func 202) #[] #[.pointer (some ⟨w.heap.size, 0, none⟩), .pointer (some ⟨w.heap.size + 1, 0, none⟩)]) ∧
      w' = (w.alloc (.cells #[.slice D0 n0 e0, .slice D1 n1 e1, .slice D2 n2 e2] 35)).alloc (.cells #[.int .i64 z] 3) := by
  have hmf : ∀ (fn : Fn) (first cap : Array Value) (w : World), (Instr.makeFunc fn first cap).run Tryz.prog w = .ok (.func fn first cap) w := fun _ _ _ _ => rfl
  go_enter Tryz.func150, Tryz.ntmps150
  go_wp2_with fail
  go_ret
  exact ⟨rfl, rfl⟩
end Go.Proofs.YtmkpajjnjgnmkaaGreatDoor

namespace Go.Proofs.YtmkpajjnjgnmkaaGreatDoor
open Go.RowKit Go.Shelf
attribute [local go_sem] Oper.semAt_some

set_option maxRecDepth 100000 in
set_option maxHeartbeats 4000000 in
theorem tasksOn_stops (c : CV) (D0 D1 D2 : Option Addr) (e0 e1 e2 : Nat) (z : Int) (w0 w : World) (hw : Below w0.heap.size w0 w) (hc : CluR w0 c (.slice D0 c.tasks.length e0) (.slice D1 c.nodes.length e1) (.slice D2 c.binds.length e2)) (Bc Bn n₀ n : Nat) (hn₀ : w0.heap.size ≤ n₀) (h1 : 1 ≤ n)
    (hBc : BlockIs w Bc 35 #[.slice D0 c.tasks.length e0, .slice D1 c.nodes.length e1, .slice D2 c.binds.length e2]) (hBn : BlockIs w Bn 3 #[.int .i64 z]) :
    SeqStopsK Fence.wide n Tryz.prog 202 #[.pointer (some ⟨Bc, 0, none⟩), .pointer (some ⟨Bn, 0, none⟩)] (encT (w0 := w0)) (KpOn n₀ Bc Bn) (fun ys => ys.map OnT.t = tasksOnL c z c.binds) (fun _ => True) c.binds.length w := fun l J Jx W hW hJ hJx hY h0 => by
  have HC := Lib.hid hc
  obtain ⟨t0, t1, t2, l0, l1, l2⟩ := hc
  obtain ⟨X2, y2, ee, hA⟩ := t2.form
  simp only [Value.slice.injEq] at ee
  obtain ⟨rfl, -, rfl⟩ := ee
  have HA := Lib.hid hA
  have HW := Lib.hid (below_of hw hW)
  have BC := hBc.below hW hBc.lt
  have BN := hBn.below hW hBn.lt
  have HBC := Lib.hid BC
  have HBN := Lib.hid BN
  have g0 := BC.cell 0
  have g1 := BC.cell 1
  have g2 := BC.cell 2
  have n0 := BN.cell 0
  simp at g0 g1 g2 n0
  have HJ := Lib.hid hJ
  have HY := Lib.hid hY
  have H0 := Lib.hid h0
  clear hA t0 t1 t2 hw hW BC BN hBc hBn hJ hJx hY h0 l0 l1
  refine callsIn_of_wp Tryz.func202 rfl trivial ?_ rfl
  simp only [Tryz.ntmps202, List.size_toArray, List.length_cons, List.length_nil, Nat.reduceAdd, Nat.reduceSub, Array.replicate_succ, Array.replicate_zero, List.push_toArray, List.append_toArray, List.nil_append, List.cons_append]
  gi_wp2
  gi_loopw [11] (fun s11 wr => ∃ (k : Nat) (pre : List (OnT w0)), k ≤ c.binds.length ∧ s11 = .int .i64 k ∧ pre.map OnT.t = tasksOnL c z (c.binds.take k) ∧ J pre wr ∧ BlockIs wr Bc 35 #[.slice D0 c.tasks.length e0, .slice D1 c.nodes.length e1, .slice D2 c.binds.length e2] ∧ BlockIs wr Bn 3 #[.int .i64 z] ∧ Below w0.heap.size w0 wr) (fun s11 _ => (c.binds.length - intOf s11).toNat)
  case atStart => exact ⟨0, [], by omega, rfl, rfl, H0.out, HBC.out, HBN.out, HW.out⟩
  case round =>
    obtain ⟨k, pre, hk, rfl, hpre, hJp, bc, bn, hB⟩ := hrel
    have HP := Lib.hid hpre
    have HJP := Lib.hid hJp
    have HBc := Lib.hid bc
    have HBn := Lib.hid bn
    have q0 := bc.cell 0
    have q1 := bc.cell 1
    have q2 := bc.cell 2
    have m0 := bn.cell 0
    have lc := bc.lt
    have ln := bn.lt
    simp at q0 q1 q2 m0
    clear hpre hJp bc bn g0 g1 g2 n0
    by_cases hlt : k < c.binds.length
    · obtain ⟨b, off, rfl, hbw, hat⟩ := HA.out (by omega)
      obtain ⟨t, ht⟩ : ∃ t, c.binds[k]? = some t := ⟨_, List.getElem?_eq_getElem hlt⟩
      obtain ⟨cs, hR, hC⟩ := (hat.below BindR.kept hB hbw) k t ht
      have HBT := Lib.hid ht
      obtain rfl := hR
      obtain ⟨c0, c1⟩ := bind_cells hC
      have hbr : b < wr.heap.size := Nat.lt_of_lt_of_le hbw hB.size
      have hlti : (k : Int) < (c.binds.length : Int) := by omega
      clear hat hC ht
      by_cases e : t.node = z
      · have HE := Lib.hid e
        clear e
        have he' : (t.node != z) = false := by simpa using HE.out
        have hX1 : Below wr.heap.size wr (wr.alloc (.cells #[.int .i64 t.task, .int .i64 t.node] 100)) := (by repeat' (first | exact Below.refl _ _ | refine Below.alloc ?_ ?_ _ | refine Below.setCell ?_ ?_ _ | refine Below.drew ?_ | (apply below_step; assumption) | (simp; done) | (simp; omega) | omega))
        gi_wp2
        refine ⟨trivial, (callsIn_wide.2 (findTask_any c _ _ _ t.task w0 _ (below_of hB hX1) HC.out)).mono ?_⟩
        rintro e w2 ⟨cs1, rfl, hR1, hb2⟩
        have hD2 := below_of hX1 hb2
        have HJ2 := Lib.hid (abide HJ.out HJP.out hD2)
        have HBc2 := Lib.hid (HBc.out.below hD2 HBc.out.lt)
        have HBn2 := Lib.hid (HBn.out.below hD2 HBn.out.lt)
        have hz2 := hD2.size
        have hCB2 := below_of hB hD2
        clear hb2 hX1 hD2 c0 c1 q0 q1 q2 m0
        cases hf : fstBy TV.id c.tasks t.task with
        | none =>
          have HF := Lib.hid hf
          rw [hf] at hR1
          simp only [Option.getD_none, Option.isSome_none] at hR1 ⊢
          clear hf
          obtain ⟨v1, v2, rfl, sl1, si1, m1, m2⟩ := hR1
          obtain ⟨A1, k1, rfl, _⟩ := sl1.form
          obtain ⟨A2, k2, rfl, _⟩ := si1.form
          clear sl1 si1 m1 m2
          gi_wp2
          refine ⟨fun _ h => (by cases h), ?_⟩
          gi_wp2
          go_roundw
          case rel =>
            have hX3 : Below w2.heap.size w2 (w2.alloc (.cells #[.int .i64 TV.zero.id, .int .i64 TV.zero.prio, .int .i64 TV.zero.need.c, .int .i64 TV.zero.need.m, .int .i64 TV.zero.need.p, .slice A1 TV.zero.want.length k1, .slice A2 TV.zero.tols.length k2] 88)) := (by repeat' (first | exact Below.refl _ _ | refine Below.alloc ?_ ?_ _ | refine Below.setCell ?_ ?_ _ | refine Below.drew ?_ | (apply below_step; assumption) | (simp; done) | (simp; omega) | omega))
            exact ⟨k + 1, pre, by omega, by go_num, by rw [on_gone HBT.out HF.out]; exact HP.out, abide HJ.out HJ2.out hX3, HBc2.out.alloc _, HBn2.out.alloc _, below_of hCB2 hX3⟩
          case measure => simp [intOf]; omega
        | some t1 =>
          have HF := Lib.hid hf
          rw [hf] at hR1
          simp only [Option.getD_some, Option.isSome_some] at hR1 ⊢
          clear hf
          have HR1 := Lib.hid hR1
          obtain ⟨v1, v2, rfl, sl1, si1, m1, m2⟩ := hR1
          obtain ⟨A1, k1, rfl, _⟩ := sl1.form
          obtain ⟨A2, k2, rfl, _⟩ := si1.form
          clear sl1 si1 m1 m2
          have hX3 : Below w2.heap.size w2 (w2.alloc (.cells #[.int .i64 t1.id, .int .i64 t1.prio, .int .i64 t1.need.c, .int .i64 t1.need.m, .int .i64 t1.need.p, .slice A1 t1.want.length k1, .slice A2 t1.tols.length k2] 88)) := (by repeat' (first | exact Below.refl _ _ | refine Below.alloc ?_ ?_ _ | refine Below.setCell ?_ ?_ _ | refine Below.drew ?_ | (apply below_step; assumption) | (simp; done) | (simp; omega) | omega))
          have HL := Lib.hid (show pre.length < c.binds.length by
            have e1 := congrArg List.length HP.out
            have e2 := tasksOnL_len c z (c.binds.take k)
            rw [List.length_map] at e1
            rw [List.length_take] at e2
            omega)
          obtain ⟨fn, tmps, assign, body, hy, hRo⟩ := HY.out pre ⟨(t1, _), HR1.out⟩ _ (abide HJ.out HJ2.out hX3) HL.out
          dsimp only [encT] at hy
          have HRO := Lib.hid hRo
          clear hRo
          gi_wp2
          refine HRO.out.mono ?_
          rintro e W3 (⟨rfl, hJ3, hk3⟩ | ⟨rfl, hJx3⟩)
          · have HJ3 := Lib.hid hJ3
            have HK3 := Lib.hid hk3
            clear hJ3 hk3
            gi_wp2
            go_roundw
            case rel =>
              obtain ⟨hk, kc, kn⟩ := HK3.out
              refine ⟨k + 1, pre ++ [⟨(t1, _), HR1.out⟩], by omega, by go_num, ?_, HJ3.out, kc.trans (HBc2.out.alloc _), kn.trans (HBn2.out.alloc _), (below_of hCB2 hX3).trans (hk.mono hn₀)⟩
              rw [on_yes HBT.out HE.out HF.out, List.map_append, HP.out]; rfl
            case measure => simp [intOf]; omega
          · gi_wp2
            refine bodyPost_ret (results_none rfl _ _ _) rfl ?_
            exact ⟨⟨_, rfl⟩, .inr ⟨_, trivial, hJx3⟩⟩
      · have HE := Lib.hid e
        clear e
        have he' : (t.node != z) = true := by simpa using HE.out
        gi_wp2
        go_roundw
        case rel =>
          have hX1 : Below wr.heap.size wr (wr.alloc (.cells #[.int .i64 t.task, .int .i64 t.node] 100)) := (by repeat' (first | exact Below.refl _ _ | refine Below.alloc ?_ ?_ _ | refine Below.setCell ?_ ?_ _ | refine Below.drew ?_ | (apply below_step; assumption) | (simp; done) | (simp; omega) | omega))
          exact ⟨k + 1, pre, by omega, by go_num, by rw [on_no HBT.out HE.out]; exact HP.out, abide HJ.out HJP.out hX1, HBc.out.alloc _, HBn.out.alloc _, below_of hB hX1⟩
        case measure => simp [intOf]; omega
    · have hkl : k = c.binds.length := by omega
      have HF := Lib.hid (show pre.map OnT.t = tasksOnL c z c.binds by rw [HP.out, hkl, List.take_length])
      clear hkl
      gi_wp2
      go_end0
      exact ⟨⟨_, rfl⟩, .inl ⟨pre, HF.out, HJP.out⟩⟩
end Go.Proofs.YtmkpajjnjgnmkaaGreatDoor

namespace Go.Proofs.YtmkpajjnjgnmkaaGreatDoor
open Go.RowKit Go.Shelf
attribute [local go_sem] Oper.semAt_some

def OnI (w : World) (pre : List RV) (W : World) : Prop :=
  (((∃ v, Boxed W (w.heap.size + 2) 167 v ∧ W.ownsRow (w.heap.size + 5) 57 3 v pre.length (resL pre) ∧ True) ∧ BlockIs W (w.heap.size + 1) 57 #[.int .i64 0, .int .i64 0, .int .i64 0]) ∧ Below w.heap.size w W) ∧ w.heap.size + 5 ≤ W.heap.size
def needsOn {w0 : World} (pre : List (OnT w0)) : List RV := pre.map fun x => x.t.need
theorem needsOn_snoc {w0 : World} (pre : List (OnT w0)) (x : OnT w0) : needsOn (pre ++ [x]) = needsOn pre ++ [x.t.need] := by simp [needsOn]
theorem onI_own (w : World) (B : Nat) (hB : w.heap.size ≤ B) : OwnFrom B (OnI w) :=
  OwnFrom.and (OwnFrom.and (OwnFrom.and (Own.from (holdsRow_own (w.heap.size + 5) (w.heap.size + 2) 167 57 3 (fun pre : List RV => pre.length) (fun pre => resL pre) (fun _ _ => True)) _)
    (fun _ X Y row hs hg hr => (hg.block _ (BlockIs.lt hs) (fun e => by obtain ⟨_, o, ho, hc⟩ := hr _ e.symm; rw [show X.heap[w.heap.size + 1]? = _ from hs] at ho; cases ho; cases hc)).trans hs)) (ownFrom_below (Nat.le_refl _) hB)) (fun _ _ _ _ hs hg _ => Nat.le_trans hs hg.size)
theorem own_form' {w : World} {base : Nat} {e : TypeId} {size n : Nat} {v : Value} {xs : List Value} (h : w.ownsRow base e size v n xs) : ∃ A c, v = .slice A n c ∧ True := by
  rcases h.2 with ⟨rfl, rfl⟩ | ⟨g, cap, cur, rfl, _⟩
  · exact ⟨_, _, rfl, trivial⟩
  · exact ⟨_, _, rfl, trivial⟩
theorem wpListIn_append_res {F : Fence} {n : Nat} {ops : Array Oper} {rest : List Oper} {o : Oper} {a : Act} {Q : Exit → Act → World → Prop} (w : World) (hgd : o.guard = none) (s x : Operand)
    (ho : o.op = .call { callee := .builtin .append, args := #[s, x], argTypes := #[167, 167] })
    (base : Nat) (v : Value) (l : List RV) (r : RV) (g : Nat) (hs : a.eval s = v) (hown : w.ownsRow base 57 3 v l.length (resL l)) (hx : a.eval x = .slice (some ⟨g, 0, none⟩) 1 1)
    (h0 : w.cell? ⟨g, 0, none⟩ = some (.int .i64 r.c)) (h1 : w.cell? ⟨g, 1, none⟩ = some (.int .i64 r.m)) (h2 : w.cell? ⟨g, 2, none⟩ = some (.int .i64 r.p)) (hl : l.length ≤ 2000000) (hbase : base ≤ w.heap.size)
    (h : ∀ v' w', w'.ownsRow base 57 3 v' (l.length + 1) (resL (l ++ [r])) → w.grownBy w' v.ownBlock → wpListIn F n Tryz.prog ops Q rest (a.put o.dst v') w') : wpListIn F n Tryz.prog ops Q (o :: rest) a w := by
  obtain ⟨i0, hi0, hz0, hz1, hz2⟩ := info_parts infoR
  refine wpListIn_append_own w hgd s x 167 ho base 57 i0 _ 3 24 Tryz.underlying167 hi0 hz0 hz1 hz2 rfl (by omega) v l.length (resL l) hs hown ⟨g, 0, none⟩ 1 1 [.int .i64 r.c, .int .i64 r.m, .int .i64 r.p] hx rfl ?_ ?_ (by simp only [maxLen]; omega) (by omega) hbase ?_
  · intro j u hj
    match j, hj with
    | 0, hj => simp at hj; subst hj; simpa [Addr.add] using h0
    | 1, hj => simp at hj; subst hj; simpa [Addr.add] using h1
    | 2, hj => simp at hj; subst hj; simpa [Addr.add] using h2
  · intro u hu
    simp at hu
    rcases hu with rfl | rfl | rfl <;> rfl
  · intro v' w' hown' hgrow _
    exact h v' w' (by rw [resL_append]; exact hown') hgrow
theorem boxed_app {W w1 : World} {B base : Nat} {t e : TypeId} {size : Nat} {v v' : Value} {k m : Nat} {xs ys : List Value} {tmp : Obj} (hv : Boxed W B t v) (hrow : W.ownsRow base e size v k xs) (hbase : base ≤ W.heap.size) (hB : B < base)
    (hown' : w1.ownsRow base e size v' m ys) (hgrow : (W.alloc tmp).grownBy w1 v.ownBlock) :
    Boxed w1 B t v ∧ Boxed (w1.setCell ⟨B, 0, none⟩ v') B t v' ∧ (w1.setCell ⟨B, 0, none⟩ v').ownsRow base e size v' m ys ∧ KeepsOthers W (w1.setCell ⟨B, 0, none⟩ v') ∧ (∀ b, b < base → b ≠ B → (w1.setCell ⟨B, 0, none⟩ v').heap[b]? = W.heap[b]?) ∧ Below B W (w1.setCell ⟨B, 0, none⟩ v') := by
  have hb1 : Below base W w1 := ((Below.refl base W).alloc hbase tmp).grown hgrow (by simp; omega) (fun k hk => (World.ownsRow.lt hrow k hk).1)
  have hv1 : Boxed w1 B t v := (hb1.block B hB).trans hv
  refine ⟨hv1, hv1.set v', hown'.kept (grownBy_setCell' w1 B v') (.inr fun e' => ?_), ?_, fun b hb hne => (Below.heap_setCell _ _ _ b hne).trans (hb1.block b hb), Below.setCell (p := ⟨B, 0, none⟩) (hb1.mono (Nat.le_of_lt hB)) (Nat.le_refl _) _⟩
  · have := (World.ownsRow.lt hown' B e').1; omega
  · refine ((KeepsOthers.alloc W tmp).trans (KeepsOthers.of_grownBy hgrow fun j o ej hj => ?_)).trans (KeepsOthers.setCell _ _ _)
    rcases (hrow.alloc tmp).2 with ⟨rfl, _⟩ | ⟨g, cap, cur, rfl, _, hgb, _⟩
    · simp [Value.ownBlock] at ej
    · obtain rfl : g = j := by simpa [Value.ownBlock] using ej
      rw [hgb] at hj; cases hj; rfl
set_option maxRecDepth 100000 in
set_option maxHeartbeats 4000000 in
theorem usedOn_any (c : CV) (a0 a1 a2 : Value) (z : Int) (w0 w : World) (hw : Below w0.heap.size w0 w) (x : Addr) (hg : ErrAt x w) (hc : CluR w0 c a0 a1 a2) :
    Calls Tryz.prog 100 #[.agg #[a0, a1, a2], .int .i64 z] w (RetR (usedOf c z).1 (usedOf c z).2 w) := by
  obtain ⟨D0, e0, rfl, _⟩ := hc.1.form
  obtain ⟨D1, e1, rfl, _⟩ := hc.2.1.form
  obtain ⟨D2, e2, rfl, _⟩ := hc.2.2.1.form
  have HC := Lib.hid hc
  have HG := Lib.hid hg
  have HW := Lib.hid hw
  clear hc hg hw
  refine (callsIn_wide (n := 3)).1 ?_
  refine callsIn_of_wp_marks Tryz.func100 rfl trivial ?_ rfl
  simp only [Tryz.ntmps100, List.size_toArray, List.length_cons, List.length_nil, Nat.reduceAdd, Nat.reduceSub, Array.replicate_succ, Array.replicate_zero, List.push_toArray, List.append_toArray, List.nil_append, List.cons_append]
  gi_wp2
  refine ⟨trivial, (callsIn_wide.2 (tasksOn_any D0 D1 D2 _ _ _ e0 e1 e2 z _)).mono ?_⟩
  rintro e w1 ⟨rfl, rfl⟩
  gi_wp2
  have hX : Below w.heap.size w (((((w.alloc (.cells #[.slice D0 c.tasks.length e0, .slice D1 c.nodes.length e1, .slice D2 c.binds.length e2] 35)).alloc (.cells #[.int .i64 0, .int .i64 0, .int .i64 0] 57)).alloc (.cells #[.slice none 0 0] 167)).alloc (.cells #[.slice D0 c.tasks.length e0, .slice D1 c.nodes.length e1, .slice D2 c.binds.length e2] 35)).alloc (.cells #[.int .i64 z] 3)) := (by repeat' (first | exact Below.refl _ _ | refine Below.alloc ?_ ?_ _ | refine Below.setCell ?_ ?_ _ | refine Below.drew ?_ | (apply below_step; assumption) | (simp; done) | (simp; omega) | omega))
  have hXz : ((((((w.alloc (.cells #[.slice D0 c.tasks.length e0, .slice D1 c.nodes.length e1, .slice D2 c.binds.length e2] 35)).alloc (.cells #[.int .i64 0, .int .i64 0, .int .i64 0] 57)).alloc (.cells #[.slice none 0 0] 167)).alloc (.cells #[.slice D0 c.tasks.length e0, .slice D1 c.nodes.length e1, .slice D2 c.binds.length e2] 35)).alloc (.cells #[.int .i64 z] 3))).heap.size = w.heap.size + 5 := by simp
  have bR : BlockIs (((((w.alloc (.cells #[.slice D0 c.tasks.length e0, .slice D1 c.nodes.length e1, .slice D2 c.binds.length e2] 35)).alloc (.cells #[.int .i64 0, .int .i64 0, .int .i64 0] 57)).alloc (.cells #[.slice none 0 0] 167)).alloc (.cells #[.slice D0 c.tasks.length e0, .slice D1 c.nodes.length e1, .slice D2 c.binds.length e2] 35)).alloc (.cells #[.int .i64 z] 3)) (w.heap.size + 1) 57 #[.int .i64 0, .int .i64 0, .int .i64 0] := (((BlockIs.new' (by simp)).alloc _).alloc _).alloc _
  have bO : Boxed (((((w.alloc (.cells #[.slice D0 c.tasks.length e0, .slice D1 c.nodes.length e1, .slice D2 c.binds.length e2] 35)).alloc (.cells #[.int .i64 0, .int .i64 0, .int .i64 0] 57)).alloc (.cells #[.slice none 0 0] 167)).alloc (.cells #[.slice D0 c.tasks.length e0, .slice D1 c.nodes.length e1, .slice D2 c.binds.length e2] 35)).alloc (.cells #[.int .i64 z] 3)) (w.heap.size + 2) 167 (.slice none 0 0) := ((BlockIs.new' (by simp)).alloc _).alloc _
  have bC : BlockIs (((((w.alloc (.cells #[.slice D0 c.tasks.length e0, .slice D1 c.nodes.length e1, .slice D2 c.binds.length e2] 35)).alloc (.cells #[.int .i64 0, .int .i64 0, .int .i64 0] 57)).alloc (.cells #[.slice none 0 0] 167)).alloc (.cells #[.slice D0 c.tasks.length e0, .slice D1 c.nodes.length e1, .slice D2 c.binds.length e2] 35)).alloc (.cells #[.int .i64 z] 3)) (w.heap.size + 3) 35 #[.slice D0 c.tasks.length e0, .slice D1 c.nodes.length e1, .slice D2 c.binds.length e2] := (BlockIs.new' (by simp)).alloc _
  have bN : BlockIs (((((w.alloc (.cells #[.slice D0 c.tasks.length e0, .slice D1 c.nodes.length e1, .slice D2 c.binds.length e2] 35)).alloc (.cells #[.int .i64 0, .int .i64 0, .int .i64 0] 57)).alloc (.cells #[.slice none 0 0] 167)).alloc (.cells #[.slice D0 c.tasks.length e0, .slice D1 c.nodes.length e1, .slice D2 c.binds.length e2] 35)).alloc (.cells #[.int .i64 z] 3)) (w.heap.size + 4) 3 #[.int .i64 z] := BlockIs.new' (by simp)
  generalize (((((w.alloc (.cells #[.slice D0 c.tasks.length e0, .slice D1 c.nodes.length e1, .slice D2 c.binds.length e2] 35)).alloc (.cells #[.int .i64 0, .int .i64 0, .int .i64 0] 57)).alloc (.cells #[.slice none 0 0] 167)).alloc (.cells #[.slice D0 c.tasks.length e0, .slice D1 c.nodes.length e1, .slice D2 c.binds.length e2] 35)).alloc (.cells #[.int .i64 z] 3)) = X at hX hXz bR bO bC bN ⊢
  refine wpIn_rangeFunc_ownH rfl (by omega) (gf := 202) (lb := #[.pointer (some ⟨w.heap.size + 1 + 1 + 1, 0, none⟩), .pointer (some ⟨w.heap.size + 1 + 1 + 1 + 1, 0, none⟩)]) rfl trivial (enters_of Tryz.func202 (by kernel_rfl) rfl)
    (tasksOn_stops c D0 D1 D2 e0 e1 e2 z w0 X (below_of HW.out hX) HC.out (w.heap.size + 3) (w.heap.size + 4) w.heap.size 2 HW.out.size (by omega) bC bN) KpOn.t (KpOn.b (by omega) (by omega) (by omega)) (Below.refl _ _) (fun _ => rfl)
    (fun (pre : List (OnT w0)) W => OnI w (needsOn pre) W)
    (fun _ _ _ => False)
    (fun s A B row hs hg hr => onI_own w X.heap.size (by omega) _ A B row hs hg hr)
    (fun _ _ _ _ _ hs _ _ => hs)
    ⟨⟨⟨⟨_, bO, World.ownsRow_nil _ _ _ _, trivial⟩, bR⟩, hX⟩, by omega⟩
    (fun x a' W => ∃ Bx, w.heap.size + 5 ≤ Bx ∧ BlockIs W Bx 88 x.1.2.toArray ∧ a' = { tmps := #[.agg #[.slice D0 c.tasks.length e0, .slice D1 c.nodes.length e1, .slice D2 c.binds.length e2], .int .i64 z, .pointer (some ⟨w.heap.size, 0, none⟩), undef, .pointer (some ⟨w.heap.size + 1, 0, none⟩), .bool false, .pointer (some ⟨w.heap.size + 1 + 1, 0, none⟩), .pointer (some ⟨Bx, 0, none⟩), .agg #[.slice D0 c.tasks.length e0, .slice D1 c.nodes.length e1, .slice D2 c.binds.length e2], .int .i64 z, .func (.func 202) #[] #[.pointer (some ⟨w.heap.size + 1 + 1 + 1, 0, none⟩), .pointer (some ⟨w.heap.size + 1 + 1 + 1 + 1, 0, none⟩)], .agg x.1.2.toArray, undef, undef, undef, undef, undef, undef, undef, undef, undef], defers := [] })
    (fun x a' _ Y Z row hs hg hr => by
      obtain ⟨Bx, h1, h2, h3⟩ := hs
      exact ⟨Bx, h1, (hg.block _ (BlockIs.lt h2) (fun e => by obtain ⟨_, o, ho, hc⟩ := hr _ e.symm; rw [show Y.heap[Bx]? = _ from h2] at ho; cases ho; cases hc)).trans h2, h3⟩)
    ?assign ?body ?done ?stop
  case assign =>
    rintro l pre ⟨⟨t, cs⟩, hR⟩ W K hI hK
    change TaskR w0 t cs at hR
    obtain ⟨v1, v2, rfl, sl, si, _⟩ := id hR
    obtain ⟨A1, c1, rfl, _⟩ := sl.form
    obtain ⟨A2, c2, rfl, _⟩ := si.form
    clear sl si
    dsimp only [encT]
    have hBs := hI.1.2.size
    have hB5 := hI.2
    have HI := Lib.hid hI
    have HK := Lib.hid hK
    clear hI hK
    gi_wp2
    have hI := HI.out
    obtain ⟨⟨⟨⟨v, hv, hrow, _⟩, hr⟩, hB⟩, _⟩ := hI
    exact HK.out _ _ ((KeepsOthers.alloc _ _).from _) ⟨(Below.refl _ W).alloc hBs _, Below.heap_alloc W _ _ (by omega), Below.heap_alloc W _ _ (by omega)⟩
      ⟨⟨⟨⟨v, hv.alloc _, hrow.alloc _, trivial⟩, hr.alloc _⟩, hB.alloc hBs _⟩, by simp; omega⟩ ⟨W.heap.size, by omega, BlockIs.new W _ _, rfl⟩
  case body =>
    rintro l pre ⟨⟨t, cs⟩, hR⟩ a' W hl hrl hI ⟨Bx, hBx, bX, rfl⟩ hlt
    change TaskR w0 t cs at hR
    obtain ⟨v1, v2, rfl, sl, si, _⟩ := id hR
    obtain ⟨A1, c1, rfl, _⟩ := sl.form
    obtain ⟨A2, c2, rfl, _⟩ := si.form
    obtain ⟨⟨⟨⟨v, hv, hrow, _⟩, hr⟩, hB⟩, hB5⟩ := hI
    dsimp only at bX
    have x2 := bX.cell 2
    have x3 := bX.cell 3
    have x4 := bX.cell 4
    have hxl := bX.lt
    have hcv : W.cell? ⟨w.heap.size + 1 + 1, 0, none⟩ = some v := hv.cell
    simp at x2 x3 x4
    have HV := Lib.hid hv
    have HRW := Lib.hid hrow
    have HRR := Lib.hid hr
    have HBB := Lib.hid hB
    have HLT := Lib.hid (Nat.lt_of_lt_of_le hlt HC.out.2.2.2.2.2)
    clear sl si hv hrow hr hB bX hrl
    have hnl : (needsOn pre).length = pre.length := by simp [needsOn]
    have HNL := Lib.hid hnl
    clear hnl
    gi_wp2_with (gi_at_builtin; refine wpListIn_append_res _ rfl (.tmp 12) (.tmp 15) rfl (w.heap.size + 5) v (needsOn pre) t.need W.heap.size rfl (HRW.out.alloc _) rfl (by simp) (by simp) (by simp) (by have := HNL.out; have := HLT.out; omega) (by simp; omega) ?_; intro v' w1 hown' hgrow; obtain ⟨g', cap', rfl⟩ := ownsRow_succ hown'; obtain ⟨hv1, hv2, hr2, hk2, hs2, hb2⟩ := boxed_app HV.out HRW.out hB5 (by omega) hown' hgrow; have hc1 : w1.cell? ⟨w.heap.size + 1 + 1, 0, none⟩ = some v := hv1.cell; have hf1 : w1.frozen? ⟨w.heap.size + 1 + 1, 0, none⟩ = false := hv1.frozen)
    refine ⟨hk2.from _, ⟨hb2.mono (by omega), hs2 _ (by omega) (by omega), hs2 _ (by omega) (by omega)⟩, ⟨⟨⟨⟨_, hv2, ?_, trivial⟩, (hs2 _ (by omega) (by omega)).trans HRR.out⟩, HBB.out.trans (hb2.mono (by omega))⟩, ?_⟩⟩
    · rw [needsOn_snoc, List.length_append]; exact hr2
    · exact Nat.le_trans hB5 hb2.size
  case done =>
    rintro D ys W hD hys hI hK
    obtain ⟨⟨⟨⟨v, hv, hrow, _⟩, hr⟩, hB⟩, hB5⟩ := hI
    have hcv : W.cell? ⟨w.heap.size + 1 + 1, 0, none⟩ = some v := hv.cell
    have hne : needsOn ys = (tasksOnL c z c.binds).map TV.need := by rw [← hys, List.map_map]; rfl
    have hU : usedOf c z = sumGo RV.zero (needsOn ys) := by rw [hne, used_on]
    have hlen : (needsOn ys).length ≤ 1048576 := by
      have e1 := tasksOnL_len c z c.binds
      have e2 := HC.out.2.2.2.2.2
      rw [hne, List.length_map]; omega
    obtain ⟨A5, c5, rfl, _⟩ := own_form' hrow
    have hsum := fun w x hg hv => ResSum_any (.slice A5 (needsOn ys).length c5) (needsOn ys) w x hg hv hlen
    rw [← hU] at hsum
    generalize hu1 : (usedOf c z).1 = u at hsum
    generalize hu2 : (usedOf c z).2 = ok at hsum
    have HU := Lib.hid (And.intro hu1 hu2)
    clear hu1 hu2
    have HSUM := Lib.hid hsum
    have HGR := Lib.hid (HG.out.below hB (Nat.le_refl _))
    have HRW := Lib.hid (show OwnsR W (w.heap.size + 5) _ (needsOn ys) from hrow)
    have HRR := Lib.hid hr
    have HBB := Lib.hid hB
    have HK := Lib.hid hK
    clear hU hsum hlen hne hys hv hrow hr hK
    gi_wp2
    refine ⟨trivial, (callsIn_wide.2 (HSUM.out _ x HGR.out HRW.out.sl)).mono ?_⟩
    rintro e w2 ⟨rfl, hb2⟩
    have hz2 := hb2.size
    have BR := HRR.out.below hb2 (by omega)
    have r0 := BR.cell 0
    have r1 := BR.cell 1
    have r2 := BR.cell 2
    have rf := BR.frozen
    simp at r0 r1 r2
    have HB2 := Lib.hid BR
    have HK2 := Lib.hid ((hb2.block D (Array.getElem?_eq_some_iff.1 HK.out).1).trans HK.out)
    clear BR
    gi_wp2
    have hZ : BlockIs (((w2.setCell ⟨w.heap.size + 1, 0, none⟩ (.int .i64 u.c)).setCell ⟨w.heap.size + 1, 1, none⟩ (.int .i64 u.m)).setCell ⟨w.heap.size + 1, 2, none⟩ (.int .i64 u.p)) (w.heap.size + 1) 57 #[.int .i64 u.c, .int .i64 u.m, .int .i64 u.p] := by simpa using ((HB2.out.put 0 _).put 1 _).put 2 _
    have hX' : Below w.heap.size w (((w2.setCell ⟨w.heap.size + 1, 0, none⟩ (.int .i64 u.c)).setCell ⟨w.heap.size + 1, 1, none⟩ (.int .i64 u.m)).setCell ⟨w.heap.size + 1, 2, none⟩ (.int .i64 u.p)) := (((below_of HBB.out hb2).setCell (by dsimp only; omega) _).setCell (by dsimp only; omega) _).setCell (by dsimp only; omega) _
    have hKY : ((((w2.setCell ⟨w.heap.size + 1, 0, none⟩ (.int .i64 u.c)).setCell ⟨w.heap.size + 1, 1, none⟩ (.int .i64 u.m)).setCell ⟨w.heap.size + 1, 2, none⟩ (.int .i64 u.p))).heap[D]? = some (.deferred (some [])) := by
      have hne : D ≠ w.heap.size + 1 := by omega
      exact (Below.heap_setCell _ _ _ D hne).trans ((Below.heap_setCell _ _ _ D hne).trans ((Below.heap_setCell _ _ _ D hne).trans HK2.out))
    generalize (((w2.setCell ⟨w.heap.size + 1, 0, none⟩ (.int .i64 u.c)).setCell ⟨w.heap.size + 1, 1, none⟩ (.int .i64 u.m)).setCell ⟨w.heap.size + 1, 2, none⟩ (.int .i64 u.p)) = Y at hZ hX' hKY ⊢
    refine ⟨by simp, .inl ⟨_, _, rfl, run_takeDeferred hKY, ?_⟩⟩
    have hZ2 : BlockIs (Y.putObj D (.deferred none)) (w.heap.size + 1) 57 #[.int .i64 u.c, .int .i64 u.m, .int .i64 u.p] := (World.putObj_heap_other (by omega)).trans hZ
    have hY2 : Below w.heap.size w (Y.putObj D (.deferred none)) := hX'.trans (belowK_b (w := w) (Nat.le_refl _) Y D _ _ (by omega) hKY rfl rfl)
    generalize Y.putObj D (.deferred none) = Y2 at hZ2 hY2 ⊢
    have z0 := hZ2.cell 0
    have z1 := hZ2.cell 1
    have z2 := hZ2.cell 2
    simp at z0 z1 z2
    exact ⟨.tuple #[.agg #[.int .i64 u.c, .int .i64 u.m, .int .i64 u.p], .bool ok], by simp [results, Tryz.results100, go_sem, z0, z1, z2], by rw [HU.out.1, HU.out.2], hY2⟩
  case stop =>
    rintro D c pre W _ _ h _
    exact h.elim
end Go.Proofs.YtmkpajjnjgnmkaaGreatDoor

namespace Go.Proofs.YtmkpajjnjgnmkaaGreatDoor
open Go.RowKit

theorem needsIn_take_yes {c : CV} {n : Int} {k : Nat} {b : BV} (h : c.binds[k]? = some b) (e : b.node = n) : needsIn c n (c.binds.take (k + 1)) = needsIn c n (c.binds.take k) ++ [needOf c b.task] := by
  rw [take_at h, needsIn_append, needsIn_yes e]; rfl
theorem needsIn_take_no {c : CV} {n : Int} {k : Nat} {b : BV} (h : c.binds[k]? = some b) (e : b.node ≠ n) : needsIn c n (c.binds.take (k + 1)) = needsIn c n (c.binds.take k) := by
  rw [take_at h, needsIn_append, needsIn_no e]; simp [needsIn]
theorem needsIn_take_len (c : CV) (n : Int) (k : Nat) : (needsIn c n (c.binds.take k)).length ≤ c.binds.length := by
  have h1 := needsIn_len c n (c.binds.take k)
  rw [List.length_take] at h1
  omega

set_option maxHeartbeats 1600000 in
theorem freeOn_any (c : CV) (n : NV) (a0 a1 a2 u1 u2 : Value) (w0 w : World) (hw : Below w0.heap.size w0 w) (x : Addr) (hg : ErrAt x w) (hc : CluR w0 c a0 a1 a2) (hn1 : LabSl w0 u1 n.labs) (hn2 : IntSl w0 u2 n.taints) :
    Calls Tryz.prog 102 #[.agg #[a0, a1, a2], .agg #[.int .i64 n.id, .int .i64 n.pool, .int .i64 n.cap.c, .int .i64 n.cap.m, .int .i64 n.cap.p, u1, u2, .bool n.cordon]] w (RetR (freeOf c n).1 (freeOf c n).2 w) := by
  have hus := fun w hw hg => usedOn_any c a0 a1 a2 n.id w0 w hw x hg hc
  obtain ⟨h0, h1, h2, l0, l1, l2⟩ := hc
  obtain ⟨D0, e0, rfl, r0⟩ := h0.form
  obtain ⟨D1, e1, rfl, r1⟩ := h1.form
  obtain ⟨D2, e2, rfl, r2⟩ := h2.form
  obtain ⟨A1, c1, rfl, r3⟩ := hn1.form
  obtain ⟨A2, c2, rfl, r4⟩ := hn2.form
  have hfr : freeOf c n = if (usedOf c n.id).2 then (resSub n.cap (usedOf c n.id).1, resSubOk n.cap (usedOf c n.id).1) else (RV.zero, false) := rfl
  generalize (usedOf c n.id).1 = u at hus hfr
  generalize (usedOf c n.id).2 = ok at hus hfr
  have hsub := fun w hg => ResSub_any n.cap u w x hg
  have HUS := Lib.hid hus
  have HFR := Lib.hid hfr
  have HSUB := Lib.hid hsub
  have HG := Lib.hid hg
  have HW := Lib.hid hw
  clear hus hfr hsub h0 h1 h2 l0 l1 l2 r0 r1 r2 r3 r4 hn1 hn2 hg hw
  go_enter Tryz.func102, Tryz.ntmps102
  go_wp2_with fail
  have hX : Below w.heap.size w (((w.alloc (.cells #[.slice D0 c.tasks.length e0, .slice D1 c.nodes.length e1, .slice D2 c.binds.length e2] 35)).alloc (.cells #[.int .i64 n.id, .int .i64 n.pool, .int .i64 n.cap.c, .int .i64 n.cap.m, .int .i64 n.cap.p, .slice A1 n.labs.length c1, .slice A2 n.taints.length c2, .bool n.cordon] 83)).alloc (.cells #[.int .i64 0, .int .i64 0, .int .i64 0] 57)) := (by repeat' (first | exact Below.refl _ _ | refine Below.alloc ?_ ?_ _ | refine Below.setCell ?_ ?_ _ | refine Below.drew ?_ | (apply below_step; assumption) | (simp; done) | (simp; omega) | omega))
  refine (HUS.out _ (below_of HW.out hX) (HG.out.below hX (Nat.le_refl _))).mono ?_
  rintro e w2 ⟨rfl, hb2⟩
  have hz2 := hb2.size
  simp at hz2
  have hC2 := below_of hX hb2
  have BN : BlockIs w2 (w.heap.size + 1) 83 #[.int .i64 n.id, .int .i64 n.pool, .int .i64 n.cap.c, .int .i64 n.cap.m, .int .i64 n.cap.p, .slice A1 n.labs.length c1, .slice A2 n.taints.length c2, .bool n.cordon] := (BlockIs.alloc (BlockIs.new' (by simp)) _).below hb2 (by simp)
  have BR : BlockIs w2 (w.heap.size + 1 + 1) 57 #[.int .i64 0, .int .i64 0, .int .i64 0] := (BlockIs.new' (by simp)).below hb2 (by simp)
  have r0 := BR.cell 0
  have r1 := BR.cell 1
  have r2 := BR.cell 2
  have rf := BR.frozen
  have rl := BR.lt
  have n2 := BN.cell 2
  have n3 := BN.cell 3
  have n4 := BN.cell 4
  have nl := BN.lt
  simp at r0 r1 r2 n2 n3 n4
  have HBR := Lib.hid BR
  clear BN BR hb2 hX
  cases ok
  · go_wp2_with fail
    have hZ : BlockIs (World.alloc (((w2.setCell ⟨w.heap.size + 1 + 1, 0, none⟩ (.int .i64 0)).setCell ⟨w.heap.size + 1 + 1, 1, none⟩ (.int .i64 0)).setCell ⟨w.heap.size + 1 + 1, 2, none⟩ (.int .i64 0)) (.cells #[.int .i64 u.c, .int .i64 u.m, .int .i64 u.p] 57)) (w.heap.size + 1 + 1) 57 #[.int .i64 0, .int .i64 0, .int .i64 0] := by
      have := (((HBR.out.put 0 (.int .i64 0)).put 1 (.int .i64 0)).put 2 (.int .i64 0)).alloc (.cells #[.int .i64 u.c, .int .i64 u.m, .int .i64 u.p] 57)
      simpa using this
    have hX' : Below w.heap.size w (World.alloc (((w2.setCell ⟨w.heap.size + 1 + 1, 0, none⟩ (.int .i64 0)).setCell ⟨w.heap.size + 1 + 1, 1, none⟩ (.int .i64 0)).setCell ⟨w.heap.size + 1 + 1, 2, none⟩ (.int .i64 0)) (.cells #[.int .i64 u.c, .int .i64 u.m, .int .i64 u.p] 57)) := ((((hC2.setCell (by dsimp only; omega) _).setCell (by dsimp only; omega) _).setCell (by dsimp only; omega) _)).alloc (by simp [World.setCell]; omega) _
    generalize World.alloc (((w2.setCell ⟨w.heap.size + 1 + 1, 0, none⟩ (.int .i64 0)).setCell ⟨w.heap.size + 1 + 1, 1, none⟩ (.int .i64 0)).setCell ⟨w.heap.size + 1 + 1, 2, none⟩ (.int .i64 0)) (.cells #[.int .i64 u.c, .int .i64 u.m, .int .i64 u.p] 57) = Y at hZ hX' ⊢
    have z0 := hZ.cell 0
    have z1 := hZ.cell 1
    have z2 := hZ.cell 2
    simp at z0 z1 z2
    exact bodyPost_ret (v := .tuple #[.agg #[.int .i64 RV.zero.c, .int .i64 RV.zero.m, .int .i64 RV.zero.p], .bool false]) (by simp [results, Tryz.results102, go_sem, z0, z1, z2, RV.zero]) rfl ⟨by rw [HFR.out]; rfl, hX'⟩
  · go_wp2_with fail
    refine (HSUB.out _ (HG.out.below (hC2.alloc (by omega) _) (Nat.le_refl _))).mono ?_
    rintro e w3 ⟨rfl, hb3⟩
    have hz3 := hb3.size
    simp at hz3
    have hC3 : Below w.heap.size w w3 := below_of (hC2.alloc (by omega) _) hb3
    have BR := (HBR.out.alloc (.cells #[.int .i64 u.c, .int .i64 u.m, .int .i64 u.p] 57)).below hb3 (by simp; omega)
    have r0 := BR.cell 0
    have r1 := BR.cell 1
    have r2 := BR.cell 2
    have rf := BR.frozen
    have rl := BR.lt
    simp at r0 r1 r2
    have HB3 := Lib.hid BR
    clear BR hb3
    generalize hs1 : resSub n.cap u = s
    generalize hs2 : resSubOk n.cap u = sok
    have HS := Lib.hid (And.intro hs1 hs2)
    clear hs1 hs2
    go_wp2_with fail
    have hZ : BlockIs (((w3.setCell ⟨w.heap.size + 1 + 1, 0, none⟩ (.int .i64 s.c)).setCell ⟨w.heap.size + 1 + 1, 1, none⟩ (.int .i64 s.m)).setCell ⟨w.heap.size + 1 + 1, 2, none⟩ (.int .i64 s.p)) (w.heap.size + 1 + 1) 57 #[.int .i64 s.c, .int .i64 s.m, .int .i64 s.p] := by simpa using ((HB3.out.put 0 _).put 1 _).put 2 _
    have hX' : Below w.heap.size w (((w3.setCell ⟨w.heap.size + 1 + 1, 0, none⟩ (.int .i64 s.c)).setCell ⟨w.heap.size + 1 + 1, 1, none⟩ (.int .i64 s.m)).setCell ⟨w.heap.size + 1 + 1, 2, none⟩ (.int .i64 s.p)) := (((hC3).setCell (by dsimp only; omega) _).setCell (by dsimp only; omega) _).setCell (by dsimp only; omega) _
    generalize (((w3.setCell ⟨w.heap.size + 1 + 1, 0, none⟩ (.int .i64 s.c)).setCell ⟨w.heap.size + 1 + 1, 1, none⟩ (.int .i64 s.m)).setCell ⟨w.heap.size + 1 + 1, 2, none⟩ (.int .i64 s.p)) = Y at hZ hX' ⊢
    have z0 := hZ.cell 0
    have z1 := hZ.cell 1
    have z2 := hZ.cell 2
    simp at z0 z1 z2
    exact bodyPost_ret (v := .tuple #[.agg #[.int .i64 s.c, .int .i64 s.m, .int .i64 s.p], .bool sok]) (by simp [results, Tryz.results102, go_sem, z0, z1, z2]) rfl ⟨by rw [HFR.out]; simp [HS.out.1, HS.out.2], hX'⟩

theorem fitsAll_yes {c : CV} {n : NV} {r : List NV} (h : (freeOf c n).2 = true) : fitsAll c (n :: r) = fitsAll c r := by simp [fitsAll, h]
theorem fitsAll_no {c : CV} {n : NV} {r : List NV} (h : (freeOf c n).2 = false) : fitsAll c (n :: r) = false := by simp [fitsAll, h]
set_option maxHeartbeats 1600000 in
theorem needsFit_any (c : CV) (a0 a1 a2 : Value) (w : World) (x : Addr) (hg : ErrAt x w) (hc : CluR w c a0 a1 a2) :
    Calls Tryz.prog 98 #[.agg #[a0, a1, a2]] w fun e w' => e = .returned (.bool (fitsAll c c.nodes)) ∧ Below w.heap.size w w' := by
  have HC := Lib.hid hc
  obtain ⟨h0, h1, h2, l0, l1, l2⟩ := hc
  obtain ⟨D0, e0, rfl, r0⟩ := h0.form
  obtain ⟨D1, e1, rfl, hA⟩ := h1.form
  obtain ⟨D2, e2, rfl, r2⟩ := h2.form
  have HA := Lib.hid hA
  have HG := Lib.hid hg
  clear hA h0 h1 h2 l0 l2 r0 r2 hg
  go_enter Tryz.func98, Tryz.ntmps98
  go_wp2_with fail
  go_loopw [10] (fun s10 wr => ∃ k : Nat, k ≤ c.nodes.length ∧ s10 = .int .i64 k ∧ fitsAll c c.nodes = fitsAll c (c.nodes.drop k) ∧ BlockIs wr w.heap.size 35 #[.slice D0 c.tasks.length e0, .slice D1 c.nodes.length e1, .slice D2 c.binds.length e2] ∧ Below w.heap.size w wr) (fun s10 _ => (c.nodes.length - intOf s10).toNat)
  case atStart => exact ⟨0, by omega, rfl, by simp, BlockIs.new _ _ _, (by repeat' (first | exact Below.refl _ _ | refine Below.alloc ?_ ?_ _ | refine Below.setCell ?_ ?_ _ | refine Below.drew ?_ | (apply below_step; assumption) | (simp; done) | (simp; omega) | omega))⟩
  case round =>
    obtain ⟨k, hk, rfl, hts, hblk, hB⟩ := hrel
    have HTS := Lib.hid hts
    have HBK := Lib.hid hblk
    have hzr := hB.size
    have hgl := hblk.lt
    clear hts
    by_cases hlt : k < c.nodes.length
    · obtain ⟨b, off, rfl, hbw, hat⟩ := HA.out (by omega)
      obtain ⟨t, ht⟩ : ∃ t, c.nodes[k]? = some t := ⟨_, List.getElem?_eq_getElem hlt⟩
      obtain ⟨cs, hR, hC0⟩ := hat k t ht
      have hC := hC0.below hB hbw
      have HD := Lib.hid (drop_at ht)
      obtain ⟨v1, v2, rfl, sl, si, m1, m2⟩ := hR
      have hfr := fun w1 hw1 hg1 => freeOn_any c t (.slice D0 c.tasks.length e0) (.slice (some ⟨b, off, none⟩) c.nodes.length e1) (.slice D2 c.binds.length e2) v1 v2 w w1 hw1 x hg1 HC.out sl si
      obtain ⟨A1, c1, rfl, _⟩ := sl.form
      obtain ⟨A2, c2, rfl, _⟩ := si.form
      obtain ⟨q0, q1, q2, q3, q4, q5, q6, q7⟩ := node_cells hC
      generalize (freeOf c t).1 = u at hfr
      generalize ho : (freeOf c t).2 = ok at hfr
      have HFR := Lib.hid hfr
      have HO := Lib.hid ho
      have g0 := hblk.cell 0
      have g1 := hblk.cell 1
      have g2 := hblk.cell 2
      simp at g0 g1 g2
      have hbr : b < wr.heap.size := by omega
      clear hat hC hC0 ht hblk sl si m1 m2 hfr ho
      go_wp2_with fail
      have hX : Below wr.heap.size wr (wr.alloc (.cells #[.int .i64 t.id, .int .i64 t.pool, .int .i64 t.cap.c, .int .i64 t.cap.m, .int .i64 t.cap.p, .slice A1 t.labs.length c1, .slice A2 t.taints.length c2, .bool t.cordon] 83)) := (by repeat' (first | exact Below.refl _ _ | refine Below.alloc ?_ ?_ _ | refine Below.setCell ?_ ?_ _ | refine Below.drew ?_ | (apply below_step; assumption) | (simp; done) | (simp; omega) | omega))
      have hCX := below_of hB hX
      refine (HFR.out _ hCX (HG.out.below hCX (Nat.le_refl _))).mono ?_
      rintro e w2 ⟨rfl, hb2⟩
      have hD2 := below_of hX hb2
      have hC2 := below_of hB hD2
      have HBK2 := Lib.hid (HBK.out.below hD2 HBK.out.lt)
      have hz2 := hD2.size
      clear hb2
      cases ok
      · go_wp2_with fail
        go_ret
        exact ⟨by rw [HTS.out, HD.out, fitsAll_no HO.out]; rfl, (by repeat' (first | exact Below.refl _ _ | refine Below.alloc ?_ ?_ _ | refine Below.setCell ?_ ?_ _ | refine Below.drew ?_ | (apply below_step; assumption) | (simp; done) | (simp; omega) | omega))⟩
      · go_wp2_with fail
        go_roundw
        case rel => exact ⟨k + 1, by omega, by go_num, by rw [HTS.out, HD.out, fitsAll_yes HO.out], HBK2.out.alloc _, hC2.alloc (by omega) _⟩
        case measure => simp [intOf]; omega
    · have hkl : k = c.nodes.length := by omega
      have HF := Lib.hid (show fitsAll c c.nodes = true by rw [HTS.out, hkl, List.drop_length]; rfl)
      clear hkl
      go_wp2_with fail
      go_ret
      exact ⟨by rw [HF.out]; rfl, hB⟩

theorem clusterOk_eq (c : CV) (b1 b2 b3 b4 : Bool) (h1 : tasksOk c.tasks = b1) (h2 : nodesOk c.nodes = b2) (h3 : bindsFrom c 0 c.binds = b3) (h4 : fitsAll c c.nodes = b4) : clusterOk c = (b1 && b2 && b3 && b4) := by
  subst h1 h2 h3 h4; rfl
set_option maxHeartbeats 1600000 in
theorem ClusterOk_any (c : CV) (a0 a1 a2 : Value) (w : World) (x : Addr) (hg : ErrAt x w) (hc : CluR w c a0 a1 a2) :
    Calls Tryz.prog 36 #[.agg #[a0, a1, a2]] w fun e w' => e = .returned (.bool (clusterOk c)) ∧ Below w.heap.size w w' := by
  have HC := Lib.hid hc
  obtain ⟨h0, h1, h2, l0, l1, l2⟩ := hc
  have ht := fun w hg h => tasksOk_any a0 c.tasks w x hg h l0
  have hn := fun w hg h => nodesOk_any a1 c.nodes w x hg h l1
  have hb := fun w hg h => bindsOk_any c a0 a1 a2 w x hg h
  have hf := fun w hg h => needsFit_any c a0 a1 a2 w x hg h
  generalize e1 : tasksOk c.tasks = b1 at ht
  generalize e2 : nodesOk c.nodes = b2 at hn
  generalize e3 : bindsFrom c 0 c.binds = b3 at hb
  generalize e4 : fitsAll c c.nodes = b4 at hf
  have HE := Lib.hid (clusterOk_eq c _ _ _ _ e1 e2 e3 e4)
  have HT := Lib.hid ht
  have HN := Lib.hid hn
  have HB := Lib.hid hb
  have HF := Lib.hid hf
  have HG := Lib.hid hg
  obtain ⟨D0, d0, rfl, _⟩ := h0.form
  obtain ⟨D1, d1, rfl, _⟩ := h1.form
  obtain ⟨D2, d2, rfl, _⟩ := h2.form
  clear h0 h1 h2 l0 l1 l2 ht hn hb hf hg e1 e2 e3 e4
  go_enter Tryz.func36, Tryz.ntmps36
  go_wp2_with fail
  have hX : Below w.heap.size w (w.alloc (.cells #[.slice D0 c.tasks.length d0, .slice D1 c.nodes.length d1, .slice D2 c.binds.length d2] 35)) := (by repeat' (first | exact Below.refl _ _ | refine Below.alloc ?_ ?_ _ | refine Below.setCell ?_ ?_ _ | refine Below.drew ?_ | (apply below_step; assumption) | (simp; done) | (simp; omega) | omega))
  refine (HT.out _ (HG.out.below hX (Nat.le_refl _)) (HC.out.below hX).1).mono ?_
  rintro e w1 ⟨rfl, hb1⟩
  have hC1 := below_of hX hb1
  have B1 := (BlockIs.new w 35 #[.slice D0 c.tasks.length d0, .slice D1 c.nodes.length d1, .slice D2 c.binds.length d2]).below hb1 (by simp)
  have HB1 := Lib.hid B1
  have g0 := B1.cell 0
  have g1 := B1.cell 1
  have g2 := B1.cell 2
  simp at g0 g1 g2
  clear B1 hb1
  cases b1
  · go_wp2_with fail
    go_ret
    exact ⟨by rw [HE.out]; simp, hC1⟩
  go_wp2_with fail
  refine (HN.out _ (HG.out.below hC1 (Nat.le_refl _)) (HC.out.below hC1).2.1).mono ?_
  rintro e w2 ⟨rfl, hb2⟩
  have hC2 := below_of hC1 hb2
  have B2 := HB1.out.below hb2 HB1.out.lt
  have HB2 := Lib.hid B2
  have g0 := B2.cell 0
  have g1 := B2.cell 1
  have g2 := B2.cell 2
  simp at g0 g1 g2
  clear B2 hb2
  cases b2
  · go_wp2_with fail
    go_ret
    exact ⟨by rw [HE.out]; simp, hC2⟩
  go_wp2_with fail
  refine (HB.out _ (HG.out.below hC2 (Nat.le_refl _)) (HC.out.below hC2)).mono ?_
  rintro e w3 ⟨rfl, hb3⟩
  have hC3 := below_of hC2 hb3
  have B3 := HB2.out.below hb3 HB2.out.lt
  have g0 := B3.cell 0
  have g1 := B3.cell 1
  have g2 := B3.cell 2
  simp at g0 g1 g2
  clear B3 hb3
  cases b3
  · go_wp2_with fail
    go_ret
    exact ⟨by rw [HE.out]; simp, hC3⟩
  go_wp2_with fail
  refine (HF.out _ (HG.out.below hC3 (Nat.le_refl _)) (HC.out.below hC3)).mono ?_
  rintro e w4 ⟨rfl, hb4⟩
  have hC4 := below_of hC3 hb4
  go_wp2_with fail
  go_ret
  exact ⟨by rw [HE.out]; simp, hC4⟩
end Go.Proofs.YtmkpajjnjgnmkaaGreatDoor

namespace Go.Proofs.YtmkpajjnjgnmkaaGreatDoor
open Go.RowKit

theorem blast {Y w1 : World} {o : Obj} (hb : Below (Y.alloc o).heap.size (Y.alloc o) w1) : (∀ k, w1.cell? ⟨Y.heap.size, k, none⟩ = (Y.alloc o).cell? ⟨Y.heap.size, k, none⟩) ∧ (∀ k, w1.frozen? ⟨Y.heap.size, k, none⟩ = (Y.alloc o).frozen? ⟨Y.heap.size, k, none⟩) ∧ Y.heap.size < w1.heap.size :=
  ⟨fun k => hb.cell (p := ⟨Y.heap.size, k, none⟩) (by simp), fun k => hb.frozen (p := ⟨Y.heap.size, k, none⟩) (by simp), Nat.lt_of_lt_of_le (by simp) hb.size⟩
theorem blastd {Y w1 : World} {o : Obj} (hb : Below (Y.alloc o).drew.heap.size (Y.alloc o).drew w1) : (∀ k, w1.cell? ⟨Y.heap.size, k, none⟩ = (Y.alloc o).cell? ⟨Y.heap.size, k, none⟩) ∧ (∀ k, w1.frozen? ⟨Y.heap.size, k, none⟩ = (Y.alloc o).frozen? ⟨Y.heap.size, k, none⟩) ∧ Y.heap.size < w1.heap.size :=
  ⟨fun k => hb.cell (p := ⟨Y.heap.size, k, none⟩) (by simp), fun k => hb.frozen (p := ⟨Y.heap.size, k, none⟩) (by simp), Nat.lt_of_lt_of_le (by simp) hb.size⟩
def PutAt (X : World) (r : RV) (s5 : Value) (w' : World) : Prop := ∃ g5 : Nat, s5 = .pointer (some ⟨g5, 0, none⟩) ∧ w'.cell? ⟨g5, 0, none⟩ = some (.int .i64 r.c) ∧ w'.cell? ⟨g5, 1, none⟩ = some (.int .i64 r.m) ∧ w'.cell? ⟨g5, 2, none⟩ = some (.int .i64 r.p) ∧ Below X.heap.size X w'
end Go.Proofs.YtmkpajjnjgnmkaaGreatDoor

namespace Go.Proofs.YtmkpajjnjgnmkaaGreatDoor
open Go.RowKit

theorem six_keep (X : World) {b0 o0 b1 o1 b2 o2 b3 o3 b4 o4 b5 o5 : Nat} {v0 v1 v2 v3 v4 v5 : Value} (h : X.cell? ⟨b0, o0, none⟩ = some v0 ∧ X.cell? ⟨b1, o1, none⟩ = some v1 ∧ X.cell? ⟨b2, o2, none⟩ = some v2 ∧ X.cell? ⟨b3, o3, none⟩ = some v3 ∧ X.cell? ⟨b4, o4, none⟩ = some v4 ∧ X.cell? ⟨b5, o5, none⟩ = some v5) : ∀ w' : World, Below X.heap.size X w' → Below X.heap.size X w' ∧ w'.cell? ⟨b0, o0, none⟩ = some v0 ∧ w'.cell? ⟨b1, o1, none⟩ = some v1 ∧ w'.cell? ⟨b2, o2, none⟩ = some v2 ∧ w'.cell? ⟨b3, o3, none⟩ = some v3 ∧ w'.cell? ⟨b4, o4, none⟩ = some v4 ∧ w'.cell? ⟨b5, o5, none⟩ = some v5 := by
  intro w' hb
  obtain ⟨h0, h1, h2, h3, h4, h5⟩ := h
  refine ⟨hb, ?_, ?_, ?_, ?_, ?_, ?_⟩
  · exact (hb.cell (p := ⟨b0, o0, none⟩) (World.block_lt_of_cell? _ _ h0)).trans h0
  · exact (hb.cell (p := ⟨b1, o1, none⟩) (World.block_lt_of_cell? _ _ h1)).trans h1
  · exact (hb.cell (p := ⟨b2, o2, none⟩) (World.block_lt_of_cell? _ _ h2)).trans h2
  · exact (hb.cell (p := ⟨b3, o3, none⟩) (World.block_lt_of_cell? _ _ h3)).trans h3
  · exact (hb.cell (p := ⟨b4, o4, none⟩) (World.block_lt_of_cell? _ _ h4)).trans h4
  · exact (hb.cell (p := ⟨b5, o5, none⟩) (World.block_lt_of_cell? _ _ h5)).trans h5

set_option maxHeartbeats 1600000 in
theorem sResSum_any (v : Value) (l : List RV) (w : World) (hv : ResSl w v l) (hlen : l.length ≤ 1048576) :
    Calls Tryz.prog 145 #[v] w (RetR (sumGo RV.zero l).1 (sumGo RV.zero l).2 w) := by
  obtain ⟨A, c, rfl, hA⟩ := hv.form
  have HA := Lib.hid hA
  clear hA hv
  go_enter Tryz.func145, Tryz.ntmps145
  go_wp2_with fail
  go_loopw [5] (fun s5 wr => ∃ (k : Nat) (s : RV), k ≤ l.length ∧ s5 = .int .i64 k ∧ sumGo RV.zero l = sumGo s (l.drop k) ∧ SumAt ((w.alloc (.cells #[.int .i64 0, .int .i64 0, .int .i64 0] 57)).alloc (.cells #[.int .i64 0, .int .i64 0, .int .i64 0] 57)) (w.heap.size + 1) s wr) (fun s5 _ => (l.length - intOf s5).toNat)
  case atStart =>
    refine ⟨0, RV.zero, by omega, rfl, by rw [List.drop_zero], (by repeat' (first | exact Below.refl _ _ | refine Below.alloc ?_ ?_ _ | refine Below.setCell ?_ ?_ _ | refine Below.drew ?_ | (apply below_step; assumption) | (simp; done) | (simp; omega) | omega)), by simp, ?_⟩
    have := BlockIs.new (w.alloc (.cells #[.int .i64 0, .int .i64 0, .int .i64 0] 57)) 57 #[.int .i64 0, .int .i64 0, .int .i64 0]
    simpa [RV.zero] using this
  case round =>
    obtain ⟨k, s, hk, rfl, hsum, hB, hzr, hblk⟩ := hrel
    have HS := Lib.hid hsum
    clear hsum
    simp at hzr
    have t0 := hblk.cell 0
    have t1 := hblk.cell 1
    have t2 := hblk.cell 2
    have tf := hblk.frozen
    simp at t0 t1 t2
    have hBL := Lib.hid hblk
    clear hblk
    have hcr : ∀ b o, b < w.heap.size + 1 → wr.cell? ⟨b, o, none⟩ = ((w.alloc (.cells #[.int .i64 0, .int .i64 0, .int .i64 0] 57)).alloc (.cells #[.int .i64 0, .int .i64 0, .int .i64 0] 57)).cell? ⟨b, o, none⟩ := fun b o h => hB.cell (p := ⟨b, o, none⟩) h
    have hfr : ∀ b o, b < w.heap.size + 1 → wr.frozen? ⟨b, o, none⟩ = ((w.alloc (.cells #[.int .i64 0, .int .i64 0, .int .i64 0] 57)).alloc (.cells #[.int .i64 0, .int .i64 0, .int .i64 0] 57)).frozen? ⟨b, o, none⟩ := fun b o h => hB.frozen (p := ⟨b, o, none⟩) h
    by_cases hlt : k < l.length
    · obtain ⟨b, off, rfl, hbw, hat⟩ := HA.out (by omega)
      obtain ⟨r, hr⟩ : ∃ r, l[k]? = some r := ⟨_, List.getElem?_eq_getElem hlt⟩
      have hd := drop_at hr
      obtain ⟨q0, q1, q2⟩ := hat k r hr
      have hbn : b < w.heap.size + 1 := by omega
      have HSD := Lib.hid (HS.out.trans (congrArg (sumGo s) hd))
      have hr1 : w.heap.size + 1 < wr.heap.size := by omega
      clear hd hr hat
      have hadd := fun w => sResAdd_any s r w
      have hbr : b < wr.heap.size := by omega
      have e0 : wr.cell? ⟨b, off + k * 3, none⟩ = some (.int .i64 r.c) := by rw [hcr _ _ hbn, World.cell?_alloc_lt _ _ _ (by simp; omega), World.cell?_alloc_lt _ _ _ hbw]; exact q0
      have e1 : wr.cell? ⟨b, off + k * 3 + 1, none⟩ = some (.int .i64 r.m) := by rw [hcr _ _ hbn, World.cell?_alloc_lt _ _ _ (by simp; omega), World.cell?_alloc_lt _ _ _ hbw]; exact q1
      have e2 : wr.cell? ⟨b, off + k * 3 + 2, none⟩ = some (.int .i64 r.p) := by rw [hcr _ _ hbn, World.cell?_alloc_lt _ _ _ (by simp; omega), World.cell?_alloc_lt _ _ _ hbw]; exact q2
      have HK := Lib.hid (six_keep wr ⟨t0, t1, t2, e0, e1, e2⟩)
      have hlti : (k : Int) < (l.length : Int) := by omega
      have hk0 : (0 : Int) ≤ (k : Int) := by omega
      generalize ho : resAddOk s r = ok at hadd
      have HADD := Lib.hid hadd
      have HO := Lib.hid ho
      clear hadd ho e0 e1 e2
      go_upto_region 5 with fail
      go_cut [6, 7] (fun s6 s7 wx => s7 = .bool ok ∧ PutAt wr (resAdd s r) s6 wx)
      case first =>
        go_region_held3 (fun w' => Below wr.heap.size wr w' ∧ w'.cell? ⟨w.heap.size + 1, 0, none⟩ = some (.int .i64 s.c) ∧ w'.cell? ⟨w.heap.size + 1, 1, none⟩ = some (.int .i64 s.m) ∧ w'.cell? ⟨w.heap.size + 1, 2, none⟩ = some (.int .i64 s.p) ∧ w'.cell? ⟨b, off + k * 3, none⟩ = some (.int .i64 r.c) ∧ w'.cell? ⟨b, off + k * 3 + 1, none⟩ = some (.int .i64 r.m) ∧ w'.cell? ⟨b, off + k * 3 + 2, none⟩ = some (.int .i64 r.p))
          (exact HK.out _ (by repeat' (first | exact Below.refl _ _ | refine Below.alloc ?_ ?_ _ | refine Below.setCell ?_ ?_ _ | refine Below.drew ?_ | (apply below_step; assumption) | (simp; done) | (simp; omega) | omega)))
          (first | (go_at_call 161; refine (HADD.out _).mono ?_; rintro e w3 ⟨rfl, hb3⟩; obtain ⟨hc3, hf3⟩ := bcell hb3; have hl3 := blt hb3; (first | have hm3 := (blast hb3).2.2 | have hm3 := (blastd hb3).2.2 | have hm3 := True.intro); (try simp at hm3); have hz3 := hb3.size; try simp at hz3))
        all_goals
          go_wp2_with fail
          go_meet
          exact ⟨rfl, _, rfl, by (first | (simp; done) | (go_simp; done)), by (first | (simp; done) | (go_simp; done)), by (first | (simp; done) | (go_simp; done)), (by repeat' (first | exact Below.refl _ _ | refine Below.alloc ?_ ?_ _ | refine Below.setCell ?_ ?_ _ | refine Below.drew ?_ | (apply below_step; assumption) | (simp; done) | (simp; omega) | omega))⟩
      case rest =>
        obtain ⟨rfl, g6, rfl, m0, m1, m2, hB2⟩ := hcut
        have hz2 := hB2.size
        obtain ⟨hc2, hf2⟩ := bcell hB2
        have hq0 : w.heap.size < wc.heap.size := by omega
        have hq1 : w.heap.size + 1 < wc.heap.size := by omega
        have hq2 : w.heap.size < wr.heap.size := by omega
        cases ok
        · have HF : Hid (sumGo RV.zero l = (RV.zero, false)) := HSD.out.trans (sumGo_cons_no HO.out)
          have hz : ∀ o, wc.cell? ⟨w.heap.size, o, none⟩ = wr.cell? ⟨w.heap.size, o, none⟩ := fun o => hc2 _ _ hq2
          go_wp2_with fail
          refine bodyPost_ret (v := .tuple #[.agg #[.int .i64 RV.zero.c, .int .i64 RV.zero.m, .int .i64 RV.zero.p], .bool false]) (by first | (simp [results, Tryz.results145, go_sem]; done) | (simp [results, Tryz.results145, go_sem, hz, hcr]; done) | (simp [results, Tryz.results145, go_sem, hz, hcr, RV.zero]; done) | simp [results, Tryz.results145, go_sem, hz, hcr, hq0, RV.zero]) rfl ?_
          rw [HF.out]
          exact ⟨rfl, (by repeat' (first | exact Below.refl _ _ | refine Below.alloc ?_ ?_ _ | refine Below.setCell ?_ ?_ _ | refine Below.drew ?_ | (apply below_step; assumption) | (simp; done) | (simp; omega) | omega))⟩
        · go_wp2_with fail
          go_roundw
          case rel =>
            refine ⟨k + 1, resAdd s r, by omega, by go_num, HSD.out.trans (sumGo_cons_yes HO.out), (by repeat' (first | exact Below.refl _ _ | refine Below.alloc ?_ ?_ _ | refine Below.setCell ?_ ?_ _ | refine Below.drew ?_ | (apply below_step; assumption) | (simp; done) | (simp; omega) | omega)), by simp; omega, ?_⟩
            have hb4 := (((hBL.out.below hB2 (by omega)).put 0 (.int .i64 (resAdd s r).c)).put 1 (.int .i64 (resAdd s r).m)).put 2 (.int .i64 (resAdd s r).p)
            simpa using hb4
          case measure => simp [intOf]; omega
    · have hkl : k = l.length := by omega
      have HF : Hid (sumGo RV.zero l = (s, true)) := by
        show _ = _
        rw [HS.out, hkl, List.drop_length]; rfl
      clear hkl
      have hr0 : w.heap.size < wr.heap.size := by omega
      go_wp2_with fail
      refine bodyPost_ret (v := .tuple #[.agg #[.int .i64 s.c, .int .i64 s.m, .int .i64 s.p], .bool true]) (by first | (simp [results, Tryz.results145, go_sem, hcr]; done) | simp [results, Tryz.results145, go_sem, hcr, t0, t1, t2]) rfl ?_
      rw [HF.out]
      exact ⟨rfl, (by repeat' (first | exact Below.refl _ _ | refine Below.alloc ?_ ?_ _ | refine Below.setCell ?_ ?_ _ | refine Below.drew ?_ | (apply below_step; assumption) | (simp; done) | (simp; omega) | omega))⟩
end Go.Proofs.YtmkpajjnjgnmkaaGreatDoor

namespace Go.Proofs.YtmkpajjnjgnmkaaGreatDoor
open Go.RowKit

theorem sLabsOk_long (A : Option Addr) (n c : Nat) (w : World) (h : 6 < n) (hm : n ≤ 1048576) :
    Calls Tryz.prog 138 #[.slice A n c] w fun e w' => e = .returned (.bool false) ∧ Below w.heap.size w w' := by
  have h6 : (6 : Int) < (n : Int) := by omega
  go_enter Tryz.func138, Tryz.ntmps138
  go_wp2_with fail
  go_ret
  exact ⟨rfl, (by repeat' (first | exact Below.refl _ _ | refine Below.alloc ?_ ?_ _ | refine Below.setCell ?_ ?_ _ | refine Below.drew ?_ | (apply below_step; assumption) | (simp; done) | (simp; omega) | omega))⟩

def lastK (l : List LV) (k : Nat) : Int := if k = 0 then -1 else (l.getD (k - 1) ⟨0, 0⟩).k

set_option maxHeartbeats 3200000 in
theorem sLabsOk_short (v : Value) (l : List LV) (w : World) (hv : LabSl w v l) (hlen : l.length ≤ 6) :
    Calls Tryz.prog 138 #[v] w fun e w' => e = .returned (.bool (labsOk l)) ∧ Below w.heap.size w w' := by
  obtain ⟨A, c, rfl, hA⟩ := hv.form
  have HA := Lib.hid hA
  have HO := Lib.hid (labsOk_short hlen)
  clear hA hv
  have hl6 : (l.length : Int) ≤ 6 := by omega
  go_enter Tryz.func138, Tryz.ntmps138
  go_wp2_with fail
  go_loopw [3] (fun s3 wr => ∃ (k : Nat), k ≤ l.length ∧ s3 = .int .i64 k ∧ labsFrom (-1) l = labsFrom (lastK l k) (l.drop k) ∧ Below w.heap.size w wr) (fun s3 _ => (l.length - intOf s3).toNat)
  case atStart => exact ⟨0, by omega, rfl, by rw [List.drop_zero]; rfl, Below.refl _ _⟩
  case round =>
    obtain ⟨k, hk, rfl, hF, hB⟩ := hrel
    have HF := Lib.hid hF
    have hzr := hB.size
    clear hF
    by_cases hlt : k < l.length
    · obtain ⟨b, off, rfl, hbw, hat⟩ := HA.out (by omega)
      obtain ⟨r, hr⟩ : ∃ r, l[k]? = some r := ⟨_, List.getElem?_eq_getElem hlt⟩
      have HD := Lib.hid (drop_at hr)
      have HN : Hid (lastK l (k + 1) = r.k) := by
        show _ = _
        simp [lastK, List.getD, hr]
      obtain ⟨q0, q1⟩ := (hat.below hB hbw) k r hr
      have hlti : (k : Int) < (l.length : Int) := by omega
      have hbr : b < wr.heap.size := by omega
      rcases (show r.k < 0 ∨ (0 ≤ r.k ∧ 9 < r.k) ∨ (0 ≤ r.k ∧ r.k ≤ 9 ∧ r.v < 0) ∨ (0 ≤ r.k ∧ r.k ≤ 9 ∧ 0 ≤ r.v ∧ 9 < r.v) ∨ (0 ≤ r.k ∧ r.k ≤ 9 ∧ 0 ≤ r.v ∧ r.v ≤ 9) by omega) with g | g | g | g | g
      case inr.inr.inr.inr => 
        obtain ⟨g0, g1, g2, g3⟩ := g
        have HR := Lib.hid (LV.ok_iff.2 ⟨g0, g1, g2, g3⟩)
        by_cases hk0 : k = 0
        · have HL : Hid (lastK l k < r.k) := by
            show _ < _
            rw [hk0]; simp [lastK]; omega
          have HK0 := Lib.hid hk0
          have hkb : decide (0 < k) = false := by simp; omega
          have b0 : decide (r.k < 0) = false := by simp; omega
          have b1 : decide (9 < r.k) = false := by simp; omega
          have b2 : decide (r.v < 0) = false := by simp; omega
          have b3 : decide (9 < r.v) = false := by simp; omega
          clear hat hr hk0 g0 g1 g2 g3
          go_wp2_with fail
          go_quiet (fail)
          go_wp2_with fail
          go_roundw
          case rel =>
            refine ⟨k + 1, by omega, by go_num, ?_, (by repeat' (first | exact Below.refl _ _ | refine Below.alloc ?_ ?_ _ | refine Below.setCell ?_ ?_ _ | refine Below.drew ?_ | refine below_drewN ?_ _ | (apply below_step; assumption) | (simp; done) | (simp; omega) | omega))⟩
            rw [HF.out, HD.out, HN.out, labsFrom_yes HR.out HL.out]
          case measure => simp [intOf]; omega
        · obtain ⟨q, hq⟩ : ∃ q, l[k - 1]? = some q := ⟨_, List.getElem?_eq_getElem (by omega)⟩
          obtain ⟨p0, _⟩ := (hat.below hB hbw) (k - 1) q hq
          have HL : Hid (lastK l k = q.k) := by
            show _ = _
            simp [lastK, List.getD, hq, hk0]
          have hkb : decide (0 < k) = true := by simp; omega
          have b0 : decide (r.k < 0) = false := by simp; omega
          have b1 : decide (9 < r.k) = false := by simp; omega
          have b2 : decide (r.v < 0) = false := by simp; omega
          have b3 : decide (9 < r.v) = false := by simp; omega
          have n1 : (0 : Int) ≤ (k : Int) - 1 := by omega
          have n2 : (1 : Int) ≤ (k : Int) := by omega
          have n3 : (k : Int) - 1 < (l.length : Int) := by omega
          have n4 : ((k : Int) - 1).toNat = k - 1 := by omega
          have n5 : IntKind.i64.wrap ((k : Int) - 1) = (k : Int) - 1 := IntWalk.i64_in _ (by omega)
          by_cases hle : r.k ≤ q.k
          · have HLE := Lib.hid hle
            have b4 : decide (r.k ≤ q.k) = true := by simpa using hle
            clear hat hr hk0 g0 g1 g2 g3 hq hle
            go_wp2_with fail
            go_quiet (fail)
            go_wp2_with fail
            have HX : Hid (labsOk l = false) := by
              show _ = _
              rw [HO.out, HF.out, HD.out, labsFrom_low (by rw [HL.out]; exact HLE.out)]
            go_ret
            rw [HX.out]
            exact ⟨rfl, (by repeat' (first | exact Below.refl _ _ | refine Below.alloc ?_ ?_ _ | refine Below.setCell ?_ ?_ _ | refine Below.drew ?_ | refine below_drewN ?_ _ | (apply below_step; assumption) | (simp; done) | (simp; omega) | omega))⟩
          · have HLE := Lib.hid (show q.k < r.k by omega)
            have b4 : decide (r.k ≤ q.k) = false := by simp; omega
            clear hat hr hk0 g0 g1 g2 g3 hq hle
            go_wp2_with fail
            go_quiet (fail)
            go_wp2_with fail
            clear n4 n5
            go_roundw
            case rel =>
              refine ⟨k + 1, by omega, by go_num, ?_, (by repeat' (first | exact Below.refl _ _ | refine Below.alloc ?_ ?_ _ | refine Below.setCell ?_ ?_ _ | refine Below.drew ?_ | refine below_drewN ?_ _ | (apply below_step; assumption) | (simp; done) | (simp; omega) | omega))⟩
              rw [HF.out, HD.out, HN.out, labsFrom_yes HR.out (by rw [HL.out]; exact HLE.out)]
            case measure => simp [intOf]; omega
      · have HR := Lib.hid (LV.bad_iff.2 (show ¬ (0 ≤ r.k ∧ r.k ≤ 9 ∧ 0 ≤ r.v ∧ r.v ≤ 9) by omega))
        have b0 : decide (r.k < 0) = true := by simp; omega
        clear hat hr g
        go_wp2_with fail
        go_quiet (fail)
        go_wp2_with fail
        have HX : Hid (labsOk l = false) := by
          show _ = _
          rw [HO.out, HF.out, HD.out, labsFrom_bad HR.out]
        go_ret
        rw [HX.out]
        exact ⟨rfl, (by repeat' (first | exact Below.refl _ _ | refine Below.alloc ?_ ?_ _ | refine Below.setCell ?_ ?_ _ | refine Below.drew ?_ | refine below_drewN ?_ _ | (apply below_step; assumption) | (simp; done) | (simp; omega) | omega))⟩
      · have HR := Lib.hid (LV.bad_iff.2 (show ¬ (0 ≤ r.k ∧ r.k ≤ 9 ∧ 0 ≤ r.v ∧ r.v ≤ 9) by omega))
        have b0 : decide (r.k < 0) = false := by simp; omega
        have b1 : decide (9 < r.k) = true := by simp; omega
        clear hat hr g
        go_wp2_with fail
        go_quiet (fail)
        go_wp2_with fail
        have HX : Hid (labsOk l = false) := by
          show _ = _
          rw [HO.out, HF.out, HD.out, labsFrom_bad HR.out]
        go_ret
        rw [HX.out]
        exact ⟨rfl, (by repeat' (first | exact Below.refl _ _ | refine Below.alloc ?_ ?_ _ | refine Below.setCell ?_ ?_ _ | refine Below.drew ?_ | refine below_drewN ?_ _ | (apply below_step; assumption) | (simp; done) | (simp; omega) | omega))⟩
      · have HR := Lib.hid (LV.bad_iff.2 (show ¬ (0 ≤ r.k ∧ r.k ≤ 9 ∧ 0 ≤ r.v ∧ r.v ≤ 9) by omega))
        have b0 : decide (r.k < 0) = false := by simp; omega
        have b1 : decide (9 < r.k) = false := by simp; omega
        have b2 : decide (r.v < 0) = true := by simp; omega
        clear hat hr g
        go_wp2_with fail
        go_quiet (fail)
        go_wp2_with fail
        have HX : Hid (labsOk l = false) := by
          show _ = _
          rw [HO.out, HF.out, HD.out, labsFrom_bad HR.out]
        go_ret
        rw [HX.out]
        exact ⟨rfl, (by repeat' (first | exact Below.refl _ _ | refine Below.alloc ?_ ?_ _ | refine Below.setCell ?_ ?_ _ | refine Below.drew ?_ | refine below_drewN ?_ _ | (apply below_step; assumption) | (simp; done) | (simp; omega) | omega))⟩
      · have HR := Lib.hid (LV.bad_iff.2 (show ¬ (0 ≤ r.k ∧ r.k ≤ 9 ∧ 0 ≤ r.v ∧ r.v ≤ 9) by omega))
        have b0 : decide (r.k < 0) = false := by simp; omega
        have b1 : decide (9 < r.k) = false := by simp; omega
        have b2 : decide (r.v < 0) = false := by simp; omega
        have b3 : decide (9 < r.v) = true := by simp; omega
        clear hat hr g
        go_wp2_with fail
        go_quiet (fail)
        go_wp2_with fail
        have HX : Hid (labsOk l = false) := by
          show _ = _
          rw [HO.out, HF.out, HD.out, labsFrom_bad HR.out]
        go_ret
        rw [HX.out]
        exact ⟨rfl, (by repeat' (first | exact Below.refl _ _ | refine Below.alloc ?_ ?_ _ | refine Below.setCell ?_ ?_ _ | refine Below.drew ?_ | refine below_drewN ?_ _ | (apply below_step; assumption) | (simp; done) | (simp; omega) | omega))⟩
    · have hkl : k = l.length := by omega
      have HX : Hid (labsOk l = true) := by
        show _ = _
        rw [HO.out, HF.out, hkl, List.drop_length]; rfl
      clear hkl
      go_wp2_with fail
      go_ret
      rw [HX.out]
      exact ⟨rfl, hB⟩
end Go.Proofs.YtmkpajjnjgnmkaaGreatDoor

namespace Go.Proofs.YtmkpajjnjgnmkaaGreatDoor
open Go.RowKit

theorem sLabsOk_any (v : Value) (l : List LV) (w : World) (hv : LabSl w v l) (hlen : l.length ≤ 1048576) :
    Calls Tryz.prog 138 #[v] w fun e w' => e = .returned (.bool (labsOk l)) ∧ Below w.heap.size w w' := by
  by_cases h : l.length ≤ 6
  · exact sLabsOk_short v l w hv h
  · obtain ⟨A, c, rfl, _⟩ := hv.form
    rw [labsOk_long (by omega)]
    exact sLabsOk_long A l.length c w (by omega) hlen




set_option maxHeartbeats 1600000 in
theorem sLabsGet_any (v : Value) (l : List LV) (key : Int) (w : World) (hv : LabSl w v l) (hlen : l.length ≤ 1048576) :
    Calls Tryz.prog 80 #[v, .int .i64 key] w (RetI (getOf l key) w) := by
  have hok := fun w1 (hb : Below w.heap.size w w1) => sLabsOk_any v l w1 (hv.below hb) hlen
  cases ho : labsOk l
  · rw [ho] at hok
    have HG := Lib.hid (getOf_no (k := key) ho)
    have HOK := Lib.hid hok
    obtain ⟨A, c, rfl, _⟩ := hv.form
    clear hok ho hv
    go_enter Tryz.func80, Tryz.ntmps80
    go_wp2_with fail
    refine wp_loop_rounds 1 ?_
    rw [rounds_succ]
    go_wp2_with fail
    refine (HOK.out w (Below.refl _ _)).mono ?_
    rintro e w1 ⟨rfl, hb1⟩
    have hz1 := hb1.size
    go_wp2_with fail
    go_ret2
    rw [HG.out]
    exact ⟨rfl, hb1⟩
  · rw [ho] at hok
    have HG := Lib.hid (getOf_yes (k := key) ho)
    have HOK := Lib.hid hok
    obtain ⟨A, c, rfl, hA⟩ := hv.form
    have HA := Lib.hid hA
    clear hok ho hv hA
    go_enter Tryz.func80, Tryz.ntmps80
    go_wp2_with fail
    go_loopw [6] (fun s6 wr => ∃ (k : Nat), k ≤ l.length ∧ s6 = .int .i64 k ∧ findK l key = findK (l.drop k) key ∧ Below w.heap.size w wr) (fun s6 _ => (l.length - intOf s6).toNat)
    case atStart => exact ⟨0, by omega, rfl, by rw [List.drop_zero], Below.refl _ _⟩
    case round =>
      obtain ⟨k, hk, rfl, hF, hB⟩ := hrel
      have HF := Lib.hid hF
      have hzr := hB.size
      clear hF
      by_cases hlt : k < l.length
      · obtain ⟨b, off, rfl, hbw, hat⟩ := HA.out (by omega)
        obtain ⟨r, hr⟩ : ∃ r, l[k]? = some r := ⟨_, List.getElem?_eq_getElem hlt⟩
        have HD := Lib.hid (drop_at hr)
        have hlti : (k : Int) < (l.length : Int) := by omega
        go_wp2_with fail
        refine (HOK.out wr hB).mono ?_
        rintro e w1 ⟨rfl, hb1⟩
        have hz1 := hb1.size
        have hB1 : Below w.heap.size w w1 := (by repeat' (first | exact Below.refl _ _ | refine Below.alloc ?_ ?_ _ | refine Below.setCell ?_ ?_ _ | refine Below.drew ?_ | (apply below_step; assumption) | (simp; done) | (simp; omega) | omega))
        obtain ⟨q0, q1⟩ := (hat.below hB1 hbw) k r hr
        clear hat hr
        by_cases hkk : r.k = key
        · have HK := Lib.hid hkk
          have hkb : (r.k == key) = true := by simpa using hkk
          clear hkk
          go_wp2_with fail
          go_ret2
          rw [HG.out, HF.out, HD.out, findK_hit HK.out]
          exact ⟨rfl, hB1⟩
        · have HK := Lib.hid hkk
          have hkb : (r.k == key) = false := by simpa using hkk
          clear hkk
          go_wp2_with fail
          go_roundw
          case rel =>
            refine ⟨k + 1, by omega, by go_num, ?_, hB1⟩
            rw [HF.out, HD.out, findK_miss HK.out]
          case measure => simp [intOf]; omega
      · have hkl : k = l.length := by omega
        have HX : Hid (findK l key = (0, false)) := by
          show _ = _
          rw [HF.out, hkl, List.drop_length]; rfl
        clear hkl
        have hlti : ¬ (k : Int) < (l.length : Int) := by omega
        go_wp2_with fail
        refine (HOK.out wr hB).mono ?_
        rintro e w1 ⟨rfl, hb1⟩
        have hz1 := hb1.size
        have hB1 : Below w.heap.size w w1 := (by repeat' (first | exact Below.refl _ _ | refine Below.alloc ?_ ?_ _ | refine Below.setCell ?_ ?_ _ | refine Below.drew ?_ | (apply below_step; assumption) | (simp; done) | (simp; omega) | omega))
        go_wp2_with fail
        go_ret2
        rw [HG.out, HX.out]
        exact ⟨rfl, hB1⟩

theorem hasAllOf_yes {a r : List LV} {x : LV} (h1 : (findK a x.k).2 = true) (h2 : (findK a x.k).1 = x.v) : hasAllOf a (x :: r) = hasAllOf a r := by simp [hasAllOf, h1, h2]
theorem hasAllOf_no1 {a r : List LV} {x : LV} (h1 : (findK a x.k).2 = false) : hasAllOf a (x :: r) = false := by simp [hasAllOf, h1]
theorem hasAllOf_no2 {a r : List LV} {x : LV} (h2 : (findK a x.k).1 ≠ x.v) : hasAllOf a (x :: r) = false := by simp [hasAllOf, h2]
theorem matchOf_both {a b : List LV} (ha : labsOk a = true) (hb : labsOk b = true) : matchOf a b = hasAllOf a b := by simp [matchOf, ha, hb]

set_option maxHeartbeats 1600000 in
theorem sLabsMatch_any (v1 v2 : Value) (a b : List LV) (w : World) (h1 : LabSl w v1 a) (h2 : LabSl w v2 b) (hl1 : a.length ≤ 1048576) (hl2 : b.length ≤ 1048576) :
    Calls Tryz.prog 169 #[v1, v2] w fun e w' => e = .returned (.bool (matchOf a b)) ∧ Below w.heap.size w w' := by
  have r1 := sLabsOk_any v1 a w h1 hl1
  have r2 := fun w1 (hb : Below w.heap.size w w1) => sLabsOk_any v2 b w1 (h2.below hb) hl2
  have r3 := fun key w1 (hb : Below w.heap.size w w1) => sLabsGet_any v1 a key w1 (h1.below hb) hl1
  cases ha : labsOk a
  · rw [ha] at r1
    have R1 := Lib.hid r1
    have HM := Lib.hid (matchOf_no1 (b := b) ha)
    clear r1 r2 r3 ha h1 h2
    go_enter Tryz.func169, Tryz.ntmps169
    go_wp2_with fail
    refine R1.out.mono ?_
    rintro e w1 ⟨rfl, hb1⟩
    have hz1 := hb1.size
    go_wp2_with fail
    go_ret
    rw [HM.out]
    exact ⟨rfl, hb1⟩
  · rw [ha] at r1
    cases hb : labsOk b
    · rw [hb] at r2
      have R1 := Lib.hid r1
      have R2 := Lib.hid r2
      have HM := Lib.hid (matchOf_no2 (a := a) hb)
      clear r1 r2 r3 ha hb h1 h2
      go_enter Tryz.func169, Tryz.ntmps169
      go_wp2_with fail
      refine R1.out.mono ?_
      rintro e w1 ⟨rfl, hb1⟩
      have hz1 := hb1.size
      go_wp2_with fail
      refine (R2.out w1 hb1).mono ?_
      rintro e w2 ⟨rfl, hb2⟩
      have hz2 := hb2.size
      go_wp2_with fail
      go_ret
      rw [HM.out]
      exact ⟨rfl, (by repeat' (first | exact Below.refl _ _ | refine Below.alloc ?_ ?_ _ | refine Below.setCell ?_ ?_ _ | refine Below.drew ?_ | (apply below_step; assumption) | (simp; done) | (simp; omega) | omega))⟩
    · rw [hb] at r2
      have R1 := Lib.hid r1
      have R2 := Lib.hid r2
      have R3 := Lib.hid r3
      have HM := Lib.hid (matchOf_both ha hb)
      have HG := Lib.hid (fun k => getOf_yes (k := k) ha)
      obtain ⟨A, c, rfl, hA⟩ := h2.form
      have HA := Lib.hid hA
      clear r1 r2 r3 ha hb hA h1 h2
      go_enter Tryz.func169, Tryz.ntmps169
      go_wp2_with fail
      refine R1.out.mono ?_
      rintro e w1 ⟨rfl, hb1⟩
      have hz1 := hb1.size
      go_wp2_with fail
      refine (R2.out w1 hb1).mono ?_
      rintro e w2 ⟨rfl, hb2⟩
      have hz2 := hb2.size
      have hB2 : Below w.heap.size w w2 := (by repeat' (first | exact Below.refl _ _ | refine Below.alloc ?_ ?_ _ | refine Below.setCell ?_ ?_ _ | refine Below.drew ?_ | (apply below_step; assumption) | (simp; done) | (simp; omega) | omega))
      go_wp2_with fail
      go_loopw [5] (fun s5 wr => ∃ (k : Nat), k ≤ b.length ∧ s5 = .int .i64 k ∧ hasAllOf a b = hasAllOf a (b.drop k) ∧ Below w.heap.size w wr) (fun s5 _ => (b.length - intOf s5).toNat)
      case atStart => exact ⟨0, by omega, rfl, by rw [List.drop_zero], hB2⟩
      case round =>
        obtain ⟨k, hk, rfl, hF, hB⟩ := hrel
        have HF := Lib.hid hF
        have hzr := hB.size
        clear hF
        by_cases hlt : k < b.length
        · obtain ⟨g, off, rfl, hbw, hat⟩ := HA.out (by omega)
          obtain ⟨r, hr⟩ : ∃ r, b[k]? = some r := ⟨_, List.getElem?_eq_getElem hlt⟩
          have HD := Lib.hid (drop_at hr)
          have hlti : (k : Int) < (b.length : Int) := by omega
          obtain ⟨q0, q1⟩ := (hat.below hB hbw) k r hr
          have HAT := Lib.hid hat
          have HRR := Lib.hid hr
          clear hat hr
          have r3 := R3.out r.k
          rw [HG.out] at r3
          cases hf : (findK a r.k).2
          · have HN := Lib.hid (hasAllOf_no1 (r := b.drop (k + 1)) hf)
            rw [show findK a r.k = ((findK a r.k).1, false) by rw [← hf]] at r3
            have R := Lib.hid r3
            generalize (findK a r.k).1 = z at R
            clear r3 hf
            go_wp2_with fail
            refine (R.out wr hB).mono ?_
            rintro e w3 ⟨rfl, hb3⟩
            have hz3 := hb3.size
            go_wp2_with fail
            go_ret
            rw [HM.out, HF.out, HD.out, HN.out]
            exact ⟨rfl, (by repeat' (first | exact Below.refl _ _ | refine Below.alloc ?_ ?_ _ | refine Below.setCell ?_ ?_ _ | refine Below.drew ?_ | (apply below_step; assumption) | (simp; done) | (simp; omega) | omega))⟩
          · by_cases hv : (findK a r.k).1 = r.v
            · have HN := Lib.hid (hasAllOf_yes (r := b.drop (k + 1)) hf hv)
              rw [show findK a r.k = (r.v, true) by rw [← hf, ← hv]] at r3
              have R := Lib.hid r3
              clear r3 hf hv
              go_wp2_with fail
              refine (R.out wr hB).mono ?_
              rintro e w3 ⟨rfl, hb3⟩
              have hz3 := hb3.size
              have hB3 : Below w.heap.size w w3 := (by repeat' (first | exact Below.refl _ _ | refine Below.alloc ?_ ?_ _ | refine Below.setCell ?_ ?_ _ | refine Below.drew ?_ | (apply below_step; assumption) | (simp; done) | (simp; omega) | omega))
              obtain ⟨p0, p1⟩ := (HAT.out.below hB3 hbw) k r HRR.out
              have hne : (r.v != r.v) = false := by simp
              go_wp2_with fail
              go_roundw
              case rel =>
                refine ⟨k + 1, by omega, by go_num, ?_, hB3⟩
                rw [HF.out, HD.out, HN.out]
              case measure => simp [intOf]; omega
            · have HN := Lib.hid (hasAllOf_no2 (r := b.drop (k + 1)) hv)
              rw [show findK a r.k = ((findK a r.k).1, true) by rw [← hf]] at r3
              have R := Lib.hid r3
              have HV := Lib.hid hv
              generalize (findK a r.k).1 = z at R HV
              clear r3 hf hv
              go_wp2_with fail
              refine (R.out wr hB).mono ?_
              rintro e w3 ⟨rfl, hb3⟩
              have hz3 := hb3.size
              have hB3 : Below w.heap.size w w3 := (by repeat' (first | exact Below.refl _ _ | refine Below.alloc ?_ ?_ _ | refine Below.setCell ?_ ?_ _ | refine Below.drew ?_ | (apply below_step; assumption) | (simp; done) | (simp; omega) | omega))
              obtain ⟨p0, p1⟩ := (HAT.out.below hB3 hbw) k r HRR.out
              have hne : (z != r.v) = true := by simpa using HV.out
              go_wp2_with fail
              go_ret
              rw [HM.out, HF.out, HD.out, HN.out]
              exact ⟨rfl, hB3⟩
        · have hkl : k = b.length := by omega
          have HX : Hid (hasAllOf a b = true) := by
            show _ = _
            rw [HF.out, hkl, List.drop_length]; rfl
          clear hkl
          go_wp2_with fail
          go_ret
          rw [HM.out, HX.out]
          exact ⟨rfl, hB⟩
end Go.Proofs.YtmkpajjnjgnmkaaGreatDoor

namespace Go.Proofs.YtmkpajjnjgnmkaaGreatDoor
open Go.RowKit

theorem sTaintsOk_long (A : Option Addr) (n c : Nat) (w : World) (h : 6 < n) (hm : n ≤ 1048576) :
    Calls Tryz.prog 144 #[.slice A n c] w fun e w' => e = .returned (.bool false) ∧ Below w.heap.size w w' := by
  have h6 : (6 : Int) < (n : Int) := by omega
  go_enter Tryz.func144, Tryz.ntmps144
  go_wp2_with fail
  go_ret
  exact ⟨rfl, (by repeat' (first | exact Below.refl _ _ | refine Below.alloc ?_ ?_ _ | refine Below.setCell ?_ ?_ _ | refine Below.drew ?_ | (apply below_step; assumption) | (simp; done) | (simp; omega) | omega))⟩

def lastT (l : List Int) (k : Nat) : Int := if k = 0 then -1 else l.getD (k - 1) 0
theorem tl_cons (z : Int) (r : List Int) : tl (z :: r) = ⟨z, 0⟩ :: tl r := rfl

set_option maxHeartbeats 3200000 in
theorem sTaintsOk_short (v : Value) (l : List Int) (w : World) (hv : IntSl w v l) (hlen : l.length ≤ 6) :
    Calls Tryz.prog 144 #[v] w fun e w' => e = .returned (.bool (labsOk (tl l))) ∧ Below w.heap.size w w' := by
  obtain ⟨A, c, rfl, hA⟩ := hv.form
  have HA := Lib.hid hA
  have HO := Lib.hid (labsOk_short (l := tl l) (by rw [tl_len]; exact hlen))
  clear hA hv
  have hl6 : (l.length : Int) ≤ 6 := by omega
  go_enter Tryz.func144, Tryz.ntmps144
  go_wp2_with fail
  go_loopw [3] (fun s3 wr => ∃ (k : Nat), k ≤ l.length ∧ s3 = .int .i64 k ∧ labsFrom (-1) (tl l) = labsFrom (lastT l k) (tl (l.drop k)) ∧ Below w.heap.size w wr) (fun s3 _ => (l.length - intOf s3).toNat)
  case atStart => exact ⟨0, by omega, rfl, by rw [List.drop_zero]; rfl, Below.refl _ _⟩
  case round =>
    obtain ⟨k, hk, rfl, hF, hB⟩ := hrel
    have HF := Lib.hid hF
    have hzr := hB.size
    clear hF
    by_cases hlt : k < l.length
    · obtain ⟨b, off, rfl, hbw, hat⟩ := HA.out (by omega)
      obtain ⟨r, hr⟩ : ∃ r, l[k]? = some r := ⟨_, List.getElem?_eq_getElem hlt⟩
      have HD := Lib.hid ((congrArg tl (dropI_at hr)).trans (tl_cons r _))
      have HN : Hid (lastT l (k + 1) = r) := by
        show _ = _
        simp [lastT, List.getD, hr]
      have q0 := (hat.below hB hbw) k r hr
      have hlti : (k : Int) < (l.length : Int) := by omega
      have hbr : b < wr.heap.size := by omega
      rcases (show r < 0 ∨ (0 ≤ r ∧ 9 < r) ∨ (0 ≤ r ∧ r ≤ 9) by omega) with g | g | g
      case inr.inr =>
        obtain ⟨g0, g1⟩ := g
        have HR : Hid (LV.ok ⟨r, 0⟩ = true) := LV.ok_iff.2 ⟨g0, g1, by simp, by simp⟩
        have b0 : decide (r < 0) = false := by simp; omega
        have b1 : decide (9 < r) = false := by simp; omega
        by_cases hk0 : k = 0
        · have HL : Hid (lastT l k < r) := by
            show _ < _
            rw [hk0]; simp [lastT]; omega
          have hkb : decide (0 < k) = false := by simp; omega
          clear hat hr hk0 g0 g1
          go_wp2_with fail
          go_quiet (fail)
          go_wp2_with fail
          go_roundw
          case rel =>
            refine ⟨k + 1, by omega, by go_num, ?_, (by repeat' (first | exact Below.refl _ _ | refine Below.alloc ?_ ?_ _ | refine Below.setCell ?_ ?_ _ | refine Below.drew ?_ | refine below_drewN ?_ _ | (apply below_step; assumption) | (simp; done) | (simp; omega) | omega))⟩
            rw [HF.out, HD.out, HN.out, labsFrom_yes HR.out HL.out]
          case measure => simp [intOf]; omega
        · obtain ⟨q, hq⟩ : ∃ q, l[k - 1]? = some q := ⟨_, List.getElem?_eq_getElem (by omega)⟩
          have p0 := (hat.below hB hbw) (k - 1) q hq
          have HL : Hid (lastT l k = q) := by
            show _ = _
            simp [lastT, List.getD, hq, hk0]
          have hkb : decide (0 < k) = true := by simp; omega
          have n1 : (0 : Int) ≤ (k : Int) - 1 := by omega
          have n2 : (1 : Int) ≤ (k : Int) := by omega
          have n3 : (k : Int) - 1 < (l.length : Int) := by omega
          have n4 : ((k : Int) - 1).toNat = k - 1 := by omega
          have n5 : IntKind.i64.wrap ((k : Int) - 1) = (k : Int) - 1 := IntWalk.i64_in _ (by omega)
          by_cases hle : r ≤ q
          · have HLE := Lib.hid hle
            have b4 : decide (r ≤ q) = true := by simpa using hle
            clear hat hr hk0 g0 g1 hq hle
            go_wp2_with fail
            go_quiet (fail)
            go_wp2_with fail
            have HX : Hid (labsOk (tl l) = false) := by
              show _ = _
              rw [HO.out, HF.out, HD.out, labsFrom_low (by rw [HL.out]; exact HLE.out)]
            go_ret
            rw [HX.out]
            exact ⟨rfl, (by repeat' (first | exact Below.refl _ _ | refine Below.alloc ?_ ?_ _ | refine Below.setCell ?_ ?_ _ | refine Below.drew ?_ | refine below_drewN ?_ _ | (apply below_step; assumption) | (simp; done) | (simp; omega) | omega))⟩
          · have HLE := Lib.hid (show q < r by omega)
            have b4 : decide (r ≤ q) = false := by simp; omega
            clear hat hr hk0 g0 g1 hq hle
            go_wp2_with fail
            go_quiet (fail)
            go_wp2_with fail
            clear n4 n5
            go_roundw
            case rel =>
              refine ⟨k + 1, by omega, by go_num, ?_, (by repeat' (first | exact Below.refl _ _ | refine Below.alloc ?_ ?_ _ | refine Below.setCell ?_ ?_ _ | refine Below.drew ?_ | refine below_drewN ?_ _ | (apply below_step; assumption) | (simp; done) | (simp; omega) | omega))⟩
              rw [HF.out, HD.out, HN.out, labsFrom_yes HR.out (by rw [HL.out]; exact HLE.out)]
            case measure => simp [intOf]; omega
      · have HR : Hid (LV.ok ⟨r, 0⟩ = false) := LV.bad_iff.2 (fun h => by have := h.1; simp at this; omega)
        have b0 : decide (r < 0) = true := by simp; omega
        clear hat hr g
        go_wp2_with fail
        go_quiet (fail)
        go_wp2_with fail
        have HX : Hid (labsOk (tl l) = false) := by
          show _ = _
          rw [HO.out, HF.out, HD.out, labsFrom_bad HR.out]
        go_ret
        rw [HX.out]
        exact ⟨rfl, (by repeat' (first | exact Below.refl _ _ | refine Below.alloc ?_ ?_ _ | refine Below.setCell ?_ ?_ _ | refine Below.drew ?_ | refine below_drewN ?_ _ | (apply below_step; assumption) | (simp; done) | (simp; omega) | omega))⟩
      · have HR : Hid (LV.ok ⟨r, 0⟩ = false) := LV.bad_iff.2 (fun h => by have := h.2.1; simp at this; omega)
        have b0 : decide (r < 0) = false := by simp; omega
        have b1 : decide (9 < r) = true := by simp; omega
        clear hat hr g
        go_wp2_with fail
        go_quiet (fail)
        go_wp2_with fail
        have HX : Hid (labsOk (tl l) = false) := by
          show _ = _
          rw [HO.out, HF.out, HD.out, labsFrom_bad HR.out]
        go_ret
        rw [HX.out]
        exact ⟨rfl, (by repeat' (first | exact Below.refl _ _ | refine Below.alloc ?_ ?_ _ | refine Below.setCell ?_ ?_ _ | refine Below.drew ?_ | refine below_drewN ?_ _ | (apply below_step; assumption) | (simp; done) | (simp; omega) | omega))⟩
    · have hkl : k = l.length := by omega
      have HX : Hid (labsOk (tl l) = true) := by
        show _ = _
        rw [HO.out, HF.out, hkl, List.drop_length]; rfl
      clear hkl
      go_wp2_with fail
      go_ret
      rw [HX.out]
      exact ⟨rfl, hB⟩
theorem sTaintsOk_any (v : Value) (l : List Int) (w : World) (hv : IntSl w v l) (hlen : l.length ≤ 1048576) :
    Calls Tryz.prog 144 #[v] w fun e w' => e = .returned (.bool (labsOk (tl l))) ∧ Below w.heap.size w w' := by
  by_cases h : l.length ≤ 6
  · exact sTaintsOk_short v l w hv h
  · obtain ⟨A, c, rfl, _⟩ := hv.form
    rw [labsOk_long (by rw [tl_len]; omega)]
    exact sTaintsOk_long A l.length c w (by omega) hlen

def inIntsL : List Int → Int → Bool
  | [], _ => false
  | y :: r, z => if y = z then true else inIntsL r z
theorem inIntsL_hit {y z : Int} {r : List Int} (h : y = z) : inIntsL (y :: r) z = true := by simp [inIntsL, h]
theorem inIntsL_miss {y z : Int} {r : List Int} (h : y ≠ z) : inIntsL (y :: r) z = inIntsL r z := by simp [inIntsL, h]
theorem find_tl (b : List Int) (z : Int) : findK (tl b) z = (0, inIntsL b z) := by
  induction b with
  | nil => rfl
  | cons y r ih =>
    rw [tl_cons]
    by_cases h : y = z
    · rw [findK_hit h, inIntsL_hit h]
    · rw [findK_miss h, inIntsL_miss h, ih]

set_option maxHeartbeats 1600000 in
theorem l02In_any (v : Value) (l : List Int) (z : Int) (w : World) (hv : IntSl w v l) (hlen : l.length ≤ 1048576) :
    Calls Tryz.prog 216 #[v, .int .i64 z] w fun e w' => e = .returned (.bool (inIntsL l z)) ∧ Below w.heap.size w w' := by
  obtain ⟨A, c, rfl, hA⟩ := hv.form
  have HA := Lib.hid hA
  clear hA hv
  go_enter Tryz.func216, Tryz.ntmps216
  go_wp2_with fail
  go_loopw [5] (fun s5 wr => ∃ (k : Nat), k ≤ l.length ∧ s5 = .int .i64 k ∧ inIntsL l z = inIntsL (l.drop k) z ∧ Below w.heap.size w wr) (fun s5 _ => (l.length - intOf s5).toNat)
  case atStart => exact ⟨0, by omega, rfl, by rw [List.drop_zero], Below.refl _ _⟩
  case round =>
    obtain ⟨k, hk, rfl, hF, hB⟩ := hrel
    have HF := Lib.hid hF
    have hzr := hB.size
    clear hF
    by_cases hlt : k < l.length
    · obtain ⟨b, off, rfl, hbw, hat⟩ := HA.out (by omega)
      obtain ⟨r, hr⟩ : ∃ r, l[k]? = some r := ⟨_, List.getElem?_eq_getElem hlt⟩
      have HD := Lib.hid (dropI_at hr)
      have hlti : (k : Int) < (l.length : Int) := by omega
      have q0 := (hat.below hB hbw) k r hr
      clear hat hr
      by_cases hkk : r = z
      · have HK := Lib.hid hkk
        have hkb : (r == z) = true := by simpa using hkk
        clear hkk
        go_wp2_with fail
        go_ret
        rw [HF.out, HD.out, inIntsL_hit HK.out]
        exact ⟨rfl, hB⟩
      · have HK := Lib.hid hkk
        have hkb : (r == z) = false := by simpa using hkk
        clear hkk
        go_wp2_with fail
        go_roundw
        case rel =>
          refine ⟨k + 1, by omega, by go_num, ?_, hB⟩
          rw [HF.out, HD.out, inIntsL_miss HK.out]
        case measure => simp [intOf]; omega
    · have hkl : k = l.length := by omega
      have HX : Hid (inIntsL l z = false) := by
        show _ = _
        rw [HF.out, hkl, List.drop_length]; rfl
      clear hkl
      go_wp2_with fail
      go_ret
      rw [HX.out]
      exact ⟨rfl, hB⟩

theorem tolHas_yes {b r : List Int} {z : Int} (h : inIntsL b z = true) : hasAllOf (tl b) (tl (z :: r)) = hasAllOf (tl b) (tl r) := by
  rw [tl_cons, hasAllOf_yes (by rw [find_tl]; exact h) (by rw [find_tl])]
theorem tolHas_no {b r : List Int} {z : Int} (h : inIntsL b z = false) : hasAllOf (tl b) (tl (z :: r)) = false := by
  rw [tl_cons, hasAllOf_no1 (by rw [find_tl]; exact h)]

set_option maxHeartbeats 1600000 in
theorem sTolerates_any (v1 v2 : Value) (a b : List Int) (w : World) (h1 : IntSl w v1 a) (h2 : IntSl w v2 b) (hl1 : a.length ≤ 1048576) (hl2 : b.length ≤ 1048576) :
    Calls Tryz.prog 170 #[v1, v2] w fun e w' => e = .returned (.bool (tolOf a b)) ∧ Below w.heap.size w w' := by
  have r1 := sTaintsOk_any v1 a w h1 hl1
  have r2 := fun w1 (hb : Below w.heap.size w w1) => sTaintsOk_any v2 b w1 (h2.below hb) hl2
  have r3 := fun z w1 (hb : Below w.heap.size w w1) => l02In_any v2 b z w1 (h2.below hb) hl2
  unfold tolOf
  cases ha : labsOk (tl a)
  · rw [ha] at r1
    have R1 := Lib.hid r1
    have HM := Lib.hid (matchOf_no2 (a := tl b) ha)
    clear r1 r2 r3 ha h1 h2
    go_enter Tryz.func170, Tryz.ntmps170
    go_wp2_with fail
    refine R1.out.mono ?_
    rintro e w1 ⟨rfl, hb1⟩
    have hz1 := hb1.size
    go_wp2_with fail
    go_ret
    rw [HM.out]
    exact ⟨rfl, hb1⟩
  · rw [ha] at r1
    cases hb : labsOk (tl b)
    · rw [hb] at r2
      have R1 := Lib.hid r1
      have R2 := Lib.hid r2
      have HM := Lib.hid (matchOf_no1 (b := tl a) hb)
      clear r1 r2 r3 ha hb h1 h2
      go_enter Tryz.func170, Tryz.ntmps170
      go_wp2_with fail
      refine R1.out.mono ?_
      rintro e w1 ⟨rfl, hb1⟩
      have hz1 := hb1.size
      go_wp2_with fail
      refine (R2.out w1 hb1).mono ?_
      rintro e w2 ⟨rfl, hb2⟩
      have hz2 := hb2.size
      go_wp2_with fail
      go_ret
      rw [HM.out]
      exact ⟨rfl, (by repeat' (first | exact Below.refl _ _ | refine Below.alloc ?_ ?_ _ | refine Below.setCell ?_ ?_ _ | refine Below.drew ?_ | (apply below_step; assumption) | (simp; done) | (simp; omega) | omega))⟩
    · rw [hb] at r2
      have R1 := Lib.hid r1
      have R2 := Lib.hid r2
      have R3 := Lib.hid r3
      have HM := Lib.hid (matchOf_both hb ha)
      obtain ⟨A, c, rfl, hA⟩ := h1.form
      have HA := Lib.hid hA
      clear r1 r2 r3 ha hb hA h1 h2
      go_enter Tryz.func170, Tryz.ntmps170
      go_wp2_with fail
      refine R1.out.mono ?_
      rintro e w1 ⟨rfl, hb1⟩
      have hz1 := hb1.size
      go_wp2_with fail
      refine (R2.out w1 hb1).mono ?_
      rintro e w2 ⟨rfl, hb2⟩
      have hz2 := hb2.size
      have hB2 : Below w.heap.size w w2 := (by repeat' (first | exact Below.refl _ _ | refine Below.alloc ?_ ?_ _ | refine Below.setCell ?_ ?_ _ | refine Below.drew ?_ | (apply below_step; assumption) | (simp; done) | (simp; omega) | omega))
      go_wp2_with fail
      go_loopw [5] (fun s5 wr => ∃ (k : Nat), k ≤ a.length ∧ s5 = .int .i64 k ∧ hasAllOf (tl b) (tl a) = hasAllOf (tl b) (tl (a.drop k)) ∧ Below w.heap.size w wr) (fun s5 _ => (a.length - intOf s5).toNat)
      case atStart => exact ⟨0, by omega, rfl, by rw [List.drop_zero], hB2⟩
      case round =>
        obtain ⟨k, hk, rfl, hF, hB⟩ := hrel
        have HF := Lib.hid hF
        have hzr := hB.size
        clear hF
        by_cases hlt : k < a.length
        · obtain ⟨g, off, rfl, hbw, hat⟩ := HA.out (by omega)
          obtain ⟨r, hr⟩ : ∃ r, a[k]? = some r := ⟨_, List.getElem?_eq_getElem hlt⟩
          have HD := Lib.hid (dropI_at hr)
          have hlti : (k : Int) < (a.length : Int) := by omega
          have q0 := (hat.below hB hbw) k r hr
          clear hat hr
          have r3 := R3.out r
          cases hf : inIntsL b r
          · rw [hf] at r3
            have HN := Lib.hid (tolHas_no (r := a.drop (k + 1)) hf)
            have R := Lib.hid r3
            clear r3 hf
            go_wp2_with fail
            refine (R.out wr hB).mono ?_
            rintro e w3 ⟨rfl, hb3⟩
            have hz3 := hb3.size
            go_wp2_with fail
            go_ret
            rw [HM.out, HF.out, HD.out, HN.out]
            exact ⟨rfl, (by repeat' (first | exact Below.refl _ _ | refine Below.alloc ?_ ?_ _ | refine Below.setCell ?_ ?_ _ | refine Below.drew ?_ | (apply below_step; assumption) | (simp; done) | (simp; omega) | omega))⟩
          · rw [hf] at r3
            have HN := Lib.hid (tolHas_yes (r := a.drop (k + 1)) hf)
            have R := Lib.hid r3
            clear r3 hf
            go_wp2_with fail
            refine (R.out wr hB).mono ?_
            rintro e w3 ⟨rfl, hb3⟩
            have hz3 := hb3.size
            have hB3 : Below w.heap.size w w3 := (by repeat' (first | exact Below.refl _ _ | refine Below.alloc ?_ ?_ _ | refine Below.setCell ?_ ?_ _ | refine Below.drew ?_ | (apply below_step; assumption) | (simp; done) | (simp; omega) | omega))
            go_wp2_with fail
            go_roundw
            case rel =>
              refine ⟨k + 1, by omega, by go_num, ?_, hB3⟩
              rw [HF.out, HD.out, HN.out]
            case measure => simp [intOf]; omega
        · have hkl : k = a.length := by omega
          have HX : Hid (hasAllOf (tl b) (tl a) = true) := by
            show _ = _
            rw [HF.out, hkl, List.drop_length]; rfl
          clear hkl
          go_wp2_with fail
          go_ret
          rw [HM.out, HX.out]
          exact ⟨rfl, hB⟩
end Go.Proofs.YtmkpajjnjgnmkaaGreatDoor

namespace Go.Proofs.YtmkpajjnjgnmkaaGreatDoor
open Go.RowKit

theorem sId_any (n : Int) (w : World) : Calls Tryz.prog 142 #[.int .i64 n] w fun e w' => e = .returned (.bool (idOk n)) ∧ w = w' := by
  by_cases h1 : 1 ≤ n
  · by_cases h2 : n ≤ 99
    · have H := Lib.hid (idOk_iff.2 ⟨h1, h2⟩)
      go_enter Tryz.func142, Tryz.ntmps142
      go_wp2
      go_ret
      exact ⟨by rw [H.out]; simp, rfl⟩
    · have H := Lib.hid (idBad_iff.2 (fun h => h2 h.2))
      have h3 : 99 < n := by omega
      clear h2
      go_enter Tryz.func142, Tryz.ntmps142
      go_wp2
      go_ret
      exact ⟨by rw [H.out]; simp; omega, rfl⟩
  · have H := Lib.hid (idBad_iff.2 (fun h => h1 h.1))
    have h2 : n < 1 := by omega
    clear h1
    go_enter Tryz.func142, Tryz.ntmps142
    go_wp2
    go_ret
    exact ⟨by rw [H.out]; rfl, rfl⟩

set_option maxHeartbeats 1600000 in
theorem sTaskOk_any (t : TV) (v1 v2 : Value) (w : World) (h1 : LabSl w v1 t.want) (h2 : IntSl w v2 t.tols) (l1 : t.want.length ≤ 1048576) (l2 : t.tols.length ≤ 1048576) :
    Calls Tryz.prog 88 #[.agg #[.int .i64 t.id, .int .i64 t.prio, .int .i64 t.need.c, .int .i64 t.need.m, .int .i64 t.need.p, v1, v2]] w fun e w' => e = .returned (.bool t.ok) ∧ Below w.heap.size w w' := by
  have HL := Lib.hid h1
  have HI := Lib.hid h2
  have HE := Lib.hid (tv_ok_eq t)
  have hid := sId_any t.id
  have hne : ∀ w, Calls Tryz.prog 143 #[.agg #[.int .i64 t.need.c, .int .i64 t.need.m, .int .i64 t.need.p]] w fun e w' => e = .returned (.bool t.need.ok) ∧ Below w.heap.size w w' := fun w => sResOk_any t.need w
  have hla : ∀ w (h : LabSl w v1 t.want), Calls Tryz.prog 138 #[v1] w fun e w' => e = .returned (.bool (labsOk t.want)) ∧ Below w.heap.size w w' := fun w h => sLabsOk_any v1 t.want w h l1
  have hta : ∀ w (h : IntSl w v2 t.tols), Calls Tryz.prog 144 #[v2] w fun e w' => e = .returned (.bool (labsOk (tl t.tols))) ∧ Below w.heap.size w w' := fun w h => sTaintsOk_any v2 t.tols w h l2
  generalize t.ok = ok at *
  generalize e1 : idOk t.id = b1 at hid
  generalize e2 : decide (0 ≤ t.prio) = b2
  generalize e3 : decide (t.prio ≤ 9) = b3
  generalize e4 : t.need.ok = b4 at hne
  generalize e5 : labsOk t.want = b5 at hla
  generalize e6 : labsOk (tl t.tols) = b6 at hta
  have HE' := Lib.hid (HE.out _ _ _ _ _ _ e1 e2 e3 e4 e5 e6)
  have HID := Lib.hid hid
  have HNE := Lib.hid hne
  have HLA := Lib.hid hla
  have HTA := Lib.hid hta
  clear h1 h2 hid hne hla hta e1 e4 e5 e6 HE l1 l2
  go_enter Tryz.func88, Tryz.ntmps88
  go_wp2_with fail
  refine (HID.out _).mono ?_
  rintro e w1 ⟨rfl, rfl⟩
  cases b1
  · go_wp2_with fail
    go_ret
    exact ⟨by rw [HE'.out]; simp, (by repeat' (first | exact Below.refl _ _ | refine Below.alloc ?_ ?_ _ | refine Below.setCell ?_ ?_ _ | refine Below.drew ?_ | (apply below_step; assumption) | (simp; done) | (simp; omega) | omega))⟩
  cases b2
  · go_wp2_with fail
    go_ret
    exact ⟨by rw [HE'.out]; simp, (by repeat' (first | exact Below.refl _ _ | refine Below.alloc ?_ ?_ _ | refine Below.setCell ?_ ?_ _ | refine Below.drew ?_ | (apply below_step; assumption) | (simp; done) | (simp; omega) | omega))⟩
  cases b3
  · go_wp2_with fail
    go_ret
    exact ⟨by rw [HE'.out]; simp, (by repeat' (first | exact Below.refl _ _ | refine Below.alloc ?_ ?_ _ | refine Below.setCell ?_ ?_ _ | refine Below.drew ?_ | (apply below_step; assumption) | (simp; done) | (simp; omega) | omega))⟩
  go_wp2_with fail
  refine (HNE.out _).mono ?_
  rintro e w2 ⟨rfl, hb2⟩
  have hz2 := hb2.size
  simp at hz2
  obtain ⟨hc2, hf2⟩ := bcell hb2
  have hC2 : Below w.heap.size w w2 := ((Below.refl _ _).alloc (Nat.le_refl _) _).trans (hb2.mono (by simp))
  cases b4
  · go_wp2_with fail
    go_ret
    exact ⟨by rw [HE'.out]; simp, hC2⟩
  go_wp2_with fail
  refine (HLA.out _ (HL.out.below hC2)).mono ?_
  rintro e w3 ⟨rfl, hb3⟩
  have hz3 := hb3.size
  obtain ⟨hc3, hf3⟩ := bcell hb3
  have hs2 : w.heap.size < w2.heap.size := by omega
  have hC3 : Below w.heap.size w w3 := hC2.trans (hb3.mono hC2.size)
  cases b5
  · go_wp2_with fail
    go_ret
    exact ⟨by rw [HE'.out]; simp, hC3⟩
  go_wp2_with fail
  refine (HTA.out _ (HI.out.below hC3)).mono ?_
  rintro e w4 ⟨rfl, hb4⟩
  have hC4 : Below w.heap.size w w4 := hC3.trans (hb4.mono hC3.size)
  go_wp2_with fail
  go_ret
  exact ⟨by rw [HE'.out]; simp, hC4⟩
set_option maxHeartbeats 1600000 in
theorem sNodeOk_any (t : NV) (v1 v2 : Value) (w : World) (h1 : LabSl w v1 t.labs) (h2 : IntSl w v2 t.taints) (l1 : t.labs.length ≤ 1048576) (l2 : t.taints.length ≤ 1048576) :
    Calls Tryz.prog 90 #[.agg #[.int .i64 t.id, .int .i64 t.pool, .int .i64 t.cap.c, .int .i64 t.cap.m, .int .i64 t.cap.p, v1, v2, .bool t.cordon]] w fun e w' => e = .returned (.bool t.ok) ∧ Below w.heap.size w w' := by
  have HL := Lib.hid h1
  have HI := Lib.hid h2
  have HE := Lib.hid (nv_ok_eq t)
  have hid := sId_any t.id
  have hne : ∀ w, Calls Tryz.prog 143 #[.agg #[.int .i64 t.cap.c, .int .i64 t.cap.m, .int .i64 t.cap.p]] w fun e w' => e = .returned (.bool t.cap.ok) ∧ Below w.heap.size w w' := fun w => sResOk_any t.cap w
  have hla : ∀ w (h : LabSl w v1 t.labs), Calls Tryz.prog 138 #[v1] w fun e w' => e = .returned (.bool (labsOk t.labs)) ∧ Below w.heap.size w w' := fun w h => sLabsOk_any v1 t.labs w h l1
  have hta : ∀ w (h : IntSl w v2 t.taints), Calls Tryz.prog 144 #[v2] w fun e w' => e = .returned (.bool (labsOk (tl t.taints))) ∧ Below w.heap.size w w' := fun w h => sTaintsOk_any v2 t.taints w h l2
  generalize t.ok = ok at *
  generalize e1 : idOk t.id = b1 at hid
  generalize e2 : decide (0 ≤ t.pool) = b2
  generalize e3 : decide (t.pool < 5) = b3
  generalize e4 : t.cap.ok = b4 at hne
  generalize e5 : labsOk t.labs = b5 at hla
  generalize e6 : labsOk (tl t.taints) = b6 at hta
  have HE' := Lib.hid (HE.out _ _ _ _ _ _ e1 e2 e3 e4 e5 e6)
  have HID := Lib.hid hid
  have HNE := Lib.hid hne
  have HLA := Lib.hid hla
  have HTA := Lib.hid hta
  clear h1 h2 hid hne hla hta e1 e4 e5 e6 HE l1 l2
  go_enter Tryz.func90, Tryz.ntmps90
  go_wp2_with fail
  refine (HID.out _).mono ?_
  rintro e w1 ⟨rfl, rfl⟩
  cases b1
  · go_wp2_with fail
    go_ret
    exact ⟨by rw [HE'.out]; simp, (by repeat' (first | exact Below.refl _ _ | refine Below.alloc ?_ ?_ _ | refine Below.setCell ?_ ?_ _ | refine Below.drew ?_ | (apply below_step; assumption) | (simp; done) | (simp; omega) | omega))⟩
  cases b2
  · go_wp2_with fail
    go_ret
    exact ⟨by rw [HE'.out]; simp, (by repeat' (first | exact Below.refl _ _ | refine Below.alloc ?_ ?_ _ | refine Below.setCell ?_ ?_ _ | refine Below.drew ?_ | (apply below_step; assumption) | (simp; done) | (simp; omega) | omega))⟩
  cases b3
  · go_wp2_with fail
    go_ret
    exact ⟨by rw [HE'.out]; simp, (by repeat' (first | exact Below.refl _ _ | refine Below.alloc ?_ ?_ _ | refine Below.setCell ?_ ?_ _ | refine Below.drew ?_ | (apply below_step; assumption) | (simp; done) | (simp; omega) | omega))⟩
  go_wp2_with fail
  refine (HNE.out _).mono ?_
  rintro e w2 ⟨rfl, hb2⟩
  have hz2 := hb2.size
  simp at hz2
  obtain ⟨hc2, hf2⟩ := bcell hb2
  have hC2 : Below w.heap.size w w2 := ((Below.refl _ _).alloc (Nat.le_refl _) _).trans (hb2.mono (by simp))
  cases b4
  · go_wp2_with fail
    go_ret
    exact ⟨by rw [HE'.out]; simp, hC2⟩
  go_wp2_with fail
  refine (HLA.out _ (HL.out.below hC2)).mono ?_
  rintro e w3 ⟨rfl, hb3⟩
  have hz3 := hb3.size
  obtain ⟨hc3, hf3⟩ := bcell hb3
  have hs2 : w.heap.size < w2.heap.size := by omega
  have hC3 : Below w.heap.size w w3 := hC2.trans (hb3.mono hC2.size)
  cases b5
  · go_wp2_with fail
    go_ret
    exact ⟨by rw [HE'.out]; simp, hC3⟩
  go_wp2_with fail
  refine (HTA.out _ (HI.out.below hC3)).mono ?_
  rintro e w4 ⟨rfl, hb4⟩
  have hC4 : Below w.heap.size w w4 := hC3.trans (hb4.mono hC3.size)
  go_wp2_with fail
  go_ret
  exact ⟨by rw [HE'.out]; simp, hC4⟩


theorem hosts_eq (n : NV) (t : TV) (b3 b4 : Bool) (h3 : matchOf n.labs t.want = b3) (h4 : tolOf n.taints t.tols = b4) : hosts n t = (b3 && b4) := by
  subst h3 h4; rfl
set_option maxHeartbeats 1600000 in
theorem sHosts_any (n : NV) (t : TV) (u1 u2 v1 v2 : Value) (w : World) (k1 : LabSl w u1 n.labs) (k2 : IntSl w u2 n.taints) (h1 : LabSl w v1 t.want) (h2 : IntSl w v2 t.tols)
    (m1 : n.labs.length ≤ 1048576) (m2 : n.taints.length ≤ 1048576) (l1 : t.want.length ≤ 1048576) (l2 : t.tols.length ≤ 1048576) :
    Calls Tryz.prog 115 #[.agg #[.int .i64 n.id, .int .i64 n.pool, .int .i64 n.cap.c, .int .i64 n.cap.m, .int .i64 n.cap.p, u1, u2, .bool n.cordon], .agg #[.int .i64 t.id, .int .i64 t.prio, .int .i64 t.need.c, .int .i64 t.need.m, .int .i64 t.need.p, v1, v2]] w fun e w' => e = .returned (.bool (hosts n t)) ∧ Below w.heap.size w w' := by
  have K1 := Lib.hid k1
  have K2 := Lib.hid k2
  have H1 := Lib.hid h1
  have H2 := Lib.hid h2
  have hla : ∀ w (k : LabSl w u1 n.labs) (h : LabSl w v1 t.want), Calls Tryz.prog 169 #[u1, v1] w fun e w' => e = .returned (.bool (matchOf n.labs t.want)) ∧ Below w.heap.size w w' := fun w k h => sLabsMatch_any u1 v1 n.labs t.want w k h m1 l1
  have hta : ∀ w (k : IntSl w u2 n.taints) (h : IntSl w v2 t.tols), Calls Tryz.prog 170 #[u2, v2] w fun e w' => e = .returned (.bool (tolOf n.taints t.tols)) ∧ Below w.heap.size w w' := fun w k h => sTolerates_any u2 v2 n.taints t.tols w k h m2 l2
  have HE := Lib.hid (hosts_eq n t)
  generalize hosts n t = ok at *
  generalize e3 : matchOf n.labs t.want = b3 at hla
  generalize e4 : tolOf n.taints t.tols = b4 at hta
  have HE' := Lib.hid (HE.out _ _ e3 e4)
  have HLA := Lib.hid hla
  have HTA := Lib.hid hta
  clear k1 k2 h1 h2 hla hta e3 e4 HE m1 m2 l1 l2
  go_enter Tryz.func115, Tryz.ntmps115
  go_wp2_with fail
  have hC0 : Below w.heap.size w ((w.alloc (.cells #[.int .i64 n.id, .int .i64 n.pool, .int .i64 n.cap.c, .int .i64 n.cap.m, .int .i64 n.cap.p, u1, u2, .bool n.cordon] 83)).alloc (.cells #[.int .i64 t.id, .int .i64 t.prio, .int .i64 t.need.c, .int .i64 t.need.m, .int .i64 t.need.p, v1, v2] 88)) := (by repeat' (first | exact Below.refl _ _ | refine Below.alloc ?_ ?_ _ | refine Below.setCell ?_ ?_ _ | refine Below.drew ?_ | (apply below_step; assumption) | (simp; done) | (simp; omega) | omega))
  refine (HLA.out _ (K1.out.below hC0) (H1.out.below hC0)).mono ?_
  rintro e w1 ⟨rfl, hb1⟩
  have hz1 := hb1.size
  simp at hz1
  obtain ⟨hc1, hf1⟩ := bcell hb1
  have hC1 : Below w.heap.size w w1 := hC0.trans (hb1.mono hC0.size)
  cases b3
  · go_wp2_with fail
    go_ret
    exact ⟨by rw [HE'.out]; simp, hC1⟩
  go_wp2_with fail
  refine (HTA.out _ (K2.out.below hC1) (H2.out.below hC1)).mono ?_
  rintro e w2 ⟨rfl, hb2⟩
  have hC2 : Below w.heap.size w w2 := hC1.trans (hb2.mono hC1.size)
  go_wp2_with fail
  go_ret
  exact ⟨by rw [HE'.out]; simp, hC2⟩

theorem sch_eq (n : NV) (t : TV) (b1 b2 b3 : Bool) (h1 : n.ok = b1) (h2 : t.ok = b2) (h3 : hosts n t = b3) : canHost n t = (b1 && b2 && b3) := by
  subst h1 h2 h3; rfl
set_option maxHeartbeats 1600000 in
theorem sCanHost_any (n : NV) (t : TV) (u1 u2 v1 v2 : Value) (w : World) (k1 : LabSl w u1 n.labs) (k2 : IntSl w u2 n.taints) (h1 : LabSl w v1 t.want) (h2 : IntSl w v2 t.tols)
    (m1 : n.labs.length ≤ 1048576) (m2 : n.taints.length ≤ 1048576) (l1 : t.want.length ≤ 1048576) (l2 : t.tols.length ≤ 1048576) :
    Calls Tryz.prog 92 #[.agg #[.int .i64 n.id, .int .i64 n.pool, .int .i64 n.cap.c, .int .i64 n.cap.m, .int .i64 n.cap.p, u1, u2, .bool n.cordon], .agg #[.int .i64 t.id, .int .i64 t.prio, .int .i64 t.need.c, .int .i64 t.need.m, .int .i64 t.need.p, v1, v2]] w fun e w' => e = .returned (.bool (canHost n t)) ∧ Below w.heap.size w w' := by
  have K1 := Lib.hid k1
  have K2 := Lib.hid k2
  have H1 := Lib.hid h1
  have H2 := Lib.hid h2
  have hn : ∀ w (h1 : LabSl w u1 n.labs) (h2 : IntSl w u2 n.taints), Calls Tryz.prog 90 #[.agg #[.int .i64 n.id, .int .i64 n.pool, .int .i64 n.cap.c, .int .i64 n.cap.m, .int .i64 n.cap.p, u1, u2, .bool n.cordon]] w fun e w' => e = .returned (.bool n.ok) ∧ Below w.heap.size w w' := fun w h1 h2 => sNodeOk_any n u1 u2 w h1 h2 m1 m2
  have ht : ∀ w (h1 : LabSl w v1 t.want) (h2 : IntSl w v2 t.tols), Calls Tryz.prog 88 #[.agg #[.int .i64 t.id, .int .i64 t.prio, .int .i64 t.need.c, .int .i64 t.need.m, .int .i64 t.need.p, v1, v2]] w fun e w' => e = .returned (.bool t.ok) ∧ Below w.heap.size w w' := fun w h1 h2 => sTaskOk_any t v1 v2 w h1 h2 l1 l2
  have hh : ∀ w (k1 : LabSl w u1 n.labs) (k2 : IntSl w u2 n.taints) (h1 : LabSl w v1 t.want) (h2 : IntSl w v2 t.tols), Calls Tryz.prog 115 #[.agg #[.int .i64 n.id, .int .i64 n.pool, .int .i64 n.cap.c, .int .i64 n.cap.m, .int .i64 n.cap.p, u1, u2, .bool n.cordon], .agg #[.int .i64 t.id, .int .i64 t.prio, .int .i64 t.need.c, .int .i64 t.need.m, .int .i64 t.need.p, v1, v2]] w fun e w' => e = .returned (.bool (hosts n t)) ∧ Below w.heap.size w w' := fun w k1 k2 h1 h2 => sHosts_any n t u1 u2 v1 v2 w k1 k2 h1 h2 m1 m2 l1 l2
  have HE := Lib.hid (sch_eq n t)
  generalize canHost n t = ok at *
  generalize e1 : n.ok = b1 at hn
  generalize e2 : t.ok = b2 at ht
  generalize e3 : hosts n t = b3 at hh
  have HE' := Lib.hid (HE.out _ _ _ e1 e2 e3)
  have HN := Lib.hid hn
  have HT := Lib.hid ht
  have HH := Lib.hid hh
  clear k1 k2 h1 h2 hn ht hh e1 e2 e3 HE m1 m2 l1 l2
  go_enter Tryz.func92, Tryz.ntmps92
  go_wp2_with fail
  have hC0 : Below w.heap.size w ((w.alloc (.cells #[.int .i64 n.id, .int .i64 n.pool, .int .i64 n.cap.c, .int .i64 n.cap.m, .int .i64 n.cap.p, u1, u2, .bool n.cordon] 83)).alloc (.cells #[.int .i64 t.id, .int .i64 t.prio, .int .i64 t.need.c, .int .i64 t.need.m, .int .i64 t.need.p, v1, v2] 88)) := (by repeat' (first | exact Below.refl _ _ | refine Below.alloc ?_ ?_ _ | refine Below.setCell ?_ ?_ _ | refine Below.drew ?_ | (apply below_step; assumption) | (simp; done) | (simp; omega) | omega))
  refine (HT.out _ (H1.out.below hC0) (H2.out.below hC0)).mono ?_
  rintro e w1 ⟨rfl, hb1⟩
  have hz1 := hb1.size
  simp at hz1
  obtain ⟨hc1, hf1⟩ := bcell hb1
  have hC1 : Below w.heap.size w w1 := hC0.trans (hb1.mono hC0.size)
  cases b2
  · go_wp2_with fail
    go_ret
    exact ⟨by rw [HE'.out]; simp, hC1⟩
  go_wp2_with fail
  refine (HN.out _ (K1.out.below hC1) (K2.out.below hC1)).mono ?_
  rintro e w2 ⟨rfl, hb2⟩
  have hz2 := hb2.size
  obtain ⟨hc2, hf2⟩ := bcell hb2
  have hs1 : w.heap.size < w1.heap.size := by omega
  have hs1' : w.heap.size + 1 < w1.heap.size := by omega
  have hC2 : Below w.heap.size w w2 := hC1.trans (hb2.mono hC1.size)
  cases b1
  · go_wp2_with fail
    go_ret
    exact ⟨by rw [HE'.out]; simp, hC2⟩
  go_wp2_with fail
  refine (HH.out _ (K1.out.below hC2) (K2.out.below hC2) (H1.out.below hC2) (H2.out.below hC2)).mono ?_
  rintro e w3 ⟨rfl, hb3⟩
  have hC3 : Below w.heap.size w w3 := hC2.trans (hb3.mono hC2.size)
  go_wp2_with fail
  go_ret
  exact ⟨by rw [HE'.out]; simp, hC3⟩
end Go.Proofs.YtmkpajjnjgnmkaaGreatDoor
