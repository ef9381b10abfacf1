/- The laws' helpers over clusters: toTaskS, toNodeS, toBindS, toCluster. -/
import Derived.Test.YtocfgejceoenmaaGreatDoorCluLaw
namespace Go.Proofs.YtocfgejceoenmaaGreatDoor
open Go.RowKit

/-- cs with the cells ds from place o on. -/
def setAll (cs : Array Value) (o : Nat) : List Value → Array Value
  | [] => cs
  | u :: r => setAll (cs.setIfInBounds o u) (o + 1) r
/-- w with the cells ds stored into block g from place o on. -/
def putAll (w : World) (g o : Nat) : List Value → World
  | [] => w
  | u :: r => putAll (w.setCell ⟨g, o, none⟩ u) g (o + 1) r
theorem setAll_size (cs : Array Value) (o : Nat) (ds : List Value) : (setAll cs o ds).size = cs.size := by
  induction ds generalizing cs o with
  | nil => rfl
  | cons u r ih => simp [setAll, ih]
theorem setAll_far {cs : Array Value} {o i : Nat} {ds : List Value} (h : i < o ∨ o + ds.length ≤ i) : (setAll cs o ds)[i]? = cs[i]? := by
  induction ds generalizing cs o with
  | nil => rfl
  | cons u r ih =>
    simp only [List.length_cons] at h
    rw [setAll, ih (by omega), Array.getElem?_setIfInBounds_ne (by omega)]
theorem setAll_at {cs : Array Value} {o j : Nat} {ds : List Value} {u : Value} (hj : ds[j]? = some u) (h : o + ds.length ≤ cs.size) : (setAll cs o ds)[o + j]? = some u := by
  induction ds generalizing cs o j with
  | nil => simp at hj
  | cons x r ih =>
    simp only [List.length_cons] at h
    cases j with
    | zero =>
      simp at hj; subst hj
      rw [setAll, setAll_far (by omega), Nat.add_zero, Array.getElem?_setIfInBounds_self_of_lt (by omega)]
    | succ j =>
      have := ih (cs := cs.setIfInBounds o x) (o := o + 1) (j := j) (by simpa using hj) (by simp; omega)
      rw [setAll, show o + (j + 1) = o + 1 + j by omega]
      exact this
theorem BlockIs.putAll {w : World} {g o : Nat} {t : TypeId} {cs : Array Value} {ds : List Value} (h : BlockIs w g t cs) : BlockIs (putAll w g o ds) g t (setAll cs o ds) := by
  induction ds generalizing w o cs with
  | nil => exact h
  | cons u r ih => exact ih (h.put o u)
theorem BlockIs.putFar {w : World} {g b o : Nat} {t : TypeId} {cs : Array Value} {ds : List Value} (h : BlockIs w b t cs) (hne : b ≠ g) : BlockIs (Go.Proofs.YtocfgejceoenmaaGreatDoor.putAll w g o ds) b t cs := by
  induction ds generalizing w o with
  | nil => exact h
  | cons u r ih => exact ih (h.far hne u)
theorem IntAt.putFar {w : World} {g b o off : Nat} {l : List Int} {ds : List Value} (h : IntAt w b off l) (hne : b ≠ g) : IntAt (putAll w g o ds) b off l := by
  induction ds generalizing w o with
  | nil => exact h
  | cons u r ih => exact ih (h.far hne u)
theorem putAll_size {w : World} {g o : Nat} {ds : List Value} : (putAll w g o ds).heap.size = w.heap.size := by
  induction ds generalizing w o with
  | nil => rfl
  | cons u r ih => rw [putAll, ih]; simp [World.setCell]
theorem putAll_below {B : Nat} {a w : World} {g o : Nat} {ds : List Value} (h : Below B a w) (hg : B ≤ g) : Below B a (putAll w g o ds) := by
  induction ds generalizing w o with
  | nil => exact h
  | cons u r ih => exact ih (h.setCell hg u)

/-- The cells of a task of the call's own: its lists lie in blocks from base on. -/
def TaskN (base : Nat) (w : World) (t : TV) (cs : List Value) : Prop := ∃ g1 g2, cs = [.int .i64 t.id, .int .i64 t.prio, .int .i64 t.need.c, .int .i64 t.need.m, .int .i64 t.need.p, .slice (some ⟨g1, 0, none⟩) t.want.length t.want.length, .slice (some ⟨g2, 0, none⟩) t.tols.length t.tols.length] ∧
  base ≤ g1 ∧ base ≤ g2 ∧ g2 < w.heap.size ∧ BlockIs w g1 120 (labL t.want).toArray ∧ IntAt w g2 0 t.tols ∧ t.want.length ≤ 1048576 ∧ t.tols.length ≤ 1048576
def NodeN (base : Nat) (w : World) (t : NV) (cs : List Value) : Prop := ∃ g1 g2, cs = [.int .i64 t.id, .int .i64 t.pool, .int .i64 t.cap.c, .int .i64 t.cap.m, .int .i64 t.cap.p, .slice (some ⟨g1, 0, none⟩) t.labs.length t.labs.length, .slice (some ⟨g2, 0, none⟩) t.taints.length t.taints.length, .bool t.cordon] ∧
  base ≤ g1 ∧ base ≤ g2 ∧ g2 < w.heap.size ∧ BlockIs w g1 120 (labL t.labs).toArray ∧ IntAt w g2 0 t.taints ∧ t.labs.length ≤ 1048576 ∧ t.taints.length ≤ 1048576
def BindN (_ : Nat) (_ : World) (t : BV) (cs : List Value) : Prop := cs = [.int .i64 t.task, .int .i64 t.node]
theorem TaskN.kept (base : Nat) : Kept (TaskN base) := fun _ _ _ _ hb ⟨g1, g2, e, h1, h2, h3, h4, h5, h6⟩ => ⟨g1, g2, e, h1, h2, Nat.lt_of_lt_of_le h3 hb.size, h4.below hb h4.lt, h5.below hb h3, h6⟩
theorem TaskN.put {base g o : Nat} {w : World} {t : TV} {cs ds : List Value} (h : TaskN base w t cs) (hg : g < base) : TaskN base (putAll w g o ds) t cs := by
  obtain ⟨g1, g2, e, h1, h2, h3, h4, h5, h6⟩ := h
  exact ⟨g1, g2, e, h1, h2, by rw [putAll_size]; exact h3, h4.putFar (by omega), h5.putFar (by omega), h6⟩
theorem TaskN.r {base : Nat} {w : World} {t : TV} {cs : List Value} (h : TaskN base w t cs) : TaskR w t cs := by
  obtain ⟨g1, g2, e, h1, h2, h3, h4, h5, h6⟩ := h
  exact ⟨_, _, e, .inr ⟨g1, 0, _, rfl, h4.lt, LabAt.of_cells h4⟩, .inr ⟨g2, 0, _, rfl, h3, h5⟩, h6⟩
theorem TaskN.len {base : Nat} {w : World} {t : TV} {cs : List Value} (h : TaskN base w t cs) : cs.length = 7 := by
  obtain ⟨g1, g2, e, _⟩ := h; subst e; rfl
theorem NodeN.kept (base : Nat) : Kept (NodeN base) := fun _ _ _ _ hb ⟨g1, g2, e, h1, h2, h3, h4, h5, h6⟩ => ⟨g1, g2, e, h1, h2, Nat.lt_of_lt_of_le h3 hb.size, h4.below hb h4.lt, h5.below hb h3, h6⟩
theorem NodeN.put {base g o : Nat} {w : World} {t : NV} {cs ds : List Value} (h : NodeN base w t cs) (hg : g < base) : NodeN base (putAll w g o ds) t cs := by
  obtain ⟨g1, g2, e, h1, h2, h3, h4, h5, h6⟩ := h
  exact ⟨g1, g2, e, h1, h2, by rw [putAll_size]; exact h3, h4.putFar (by omega), h5.putFar (by omega), h6⟩
theorem NodeN.r {base : Nat} {w : World} {t : NV} {cs : List Value} (h : NodeN base w t cs) : NodeR w t cs := by
  obtain ⟨g1, g2, e, h1, h2, h3, h4, h5, h6⟩ := h
  exact ⟨_, _, e, .inr ⟨g1, 0, _, rfl, h4.lt, LabAt.of_cells h4⟩, .inr ⟨g2, 0, _, rfl, h3, h5⟩, h6⟩
theorem NodeN.len {base : Nat} {w : World} {t : NV} {cs : List Value} (h : NodeN base w t cs) : cs.length = 8 := by
  obtain ⟨g1, g2, e, _⟩ := h; subst e; rfl
theorem BindN.kept (base : Nat) : Kept (BindN base) := fun _ _ _ _ _ h => h
theorem BindN.put {base g o : Nat} {w : World} {t : BV} {cs ds : List Value} (h : BindN base w t cs) (_ : g < base) : BindN base (putAll w g o ds) t cs := h
theorem BindN.r {base : Nat} {w : World} {t : BV} {cs : List Value} (h : BindN base w t cs) : BindR w t cs := h
theorem BindN.len {base : Nat} {w : World} {t : BV} {cs : List Value} (h : BindN base w t cs) : cs.length = 2 := by rw [h]; rfl

/-- The first k elements have been copied into block g. -/
def CopyG {α : Type} (R : World → α → List Value → Prop) (n : Nat) (ty : TypeId) (w : World) (g : Nat) (l : List α) (k : Nat) : Prop :=
  ∃ cs : Array Value, BlockIs w g ty cs ∧ cs.size = l.length * n ∧ ∀ (i : Nat) (x : α), i < k → l[i]? = some x → ∃ ds, R w x ds ∧ ds.length = n ∧ ∀ (j : Nat) (u : Value), ds[j]? = some u → cs[i * n + j]? = some u
section
variable {α : Type} {R : World → α → List Value → Prop} {n g k : Nat} {ty : TypeId} {w w' : World} {l : List α}
theorem CopyG.lt (h : CopyG R n ty w g l k) : g < w.heap.size := by obtain ⟨cs, hb, _⟩ := h; exact hb.lt
theorem CopyG.below (hR : Kept R) (h : CopyG R n ty w g l k) (hb : Below w.heap.size w w') : CopyG R n ty w' g l k := by
  obtain ⟨cs, h1, h2, h3⟩ := h
  refine ⟨cs, h1.below hb h1.lt, h2, fun i x hi hx => ?_⟩
  obtain ⟨ds, a, b⟩ := h3 i x hi hx
  exact ⟨ds, hR _ _ _ _ hb a, b⟩
theorem CopyG.step {x : α} {ds : List Value} (h : CopyG R n ty w g l k) (hx : l[k]? = some x) (hd : R (putAll w g (k * n) ds) x ds) (hn : ds.length = n) (hp : ∀ y es, R w y es → R (putAll w g (k * n) ds) y es) : CopyG R n ty (putAll w g (k * n) ds) g l (k + 1) := by
  obtain ⟨cs, h1, h2, h3⟩ := h
  have hk : k < l.length := (List.getElem?_eq_some_iff.1 hx).1
  have hkn : k * n + n ≤ l.length * n := by
    have := Nat.mul_le_mul_right n (show k + 1 ≤ l.length from hk)
    rw [Nat.add_mul, Nat.one_mul] at this; exact this
  refine ⟨_, h1.putAll, by rw [setAll_size, h2], fun i y hi hy => ?_⟩
  by_cases e : i = k
  · subst e
    obtain rfl := Option.some.inj (hx.symm.trans hy)
    exact ⟨ds, hd, hn, fun j u hu => setAll_at hu (by omega)⟩
  · obtain ⟨es, a, b, d⟩ := h3 i y (by omega) hy
    refine ⟨es, hp y es a, b, fun j u hu => ?_⟩
    have hj : j < n := by rw [← b]; exact (List.getElem?_eq_some_iff.1 hu).1
    have hin : i * n + n ≤ k * n := by
      have := Nat.mul_le_mul_right n (show i + 1 ≤ k by omega)
      rw [Nat.add_mul, Nat.one_mul] at this; exact this
    rw [setAll_far (by omega)]; exact d j u hu
theorem CopyG.sl {S : World → α → List Value → Prop} (hRS : ∀ x cs, R w x cs → S w x cs) (h : CopyG R n ty w g l l.length) : GSl S n w (.slice (some ⟨g, 0, none⟩) l.length l.length) l := by
  obtain ⟨cs, h1, h2, h3⟩ := h
  refine .inr ⟨g, 0, _, rfl, h1.lt, fun i x hx => ?_⟩
  obtain ⟨ds, a, b, d⟩ := h3 i x (List.getElem?_eq_some_iff.1 hx).1 hx
  exact ⟨ds, hRS _ _ a, CellsAt.of_block h1 (fun j u hu => by rw [Nat.zero_add]; exact d j u hu)⟩
end

theorem toBind_any (r : BV) (w : World) :
    Calls Tryz.prog 35 #[.agg #[.int .i64 r.task, .int .i64 r.node]] w fun e w' => e = .returned (.agg #[.int .i64 r.task, .int .i64 r.node]) ∧ Below w.heap.size w w' := by
  go_enter Tryz.func35, Tryz.ntmps35
  go_wp2
  exact bodyPost_ret (v := .agg #[.int .i64 r.task, .int .i64 r.node]) (by simp [results, Tryz.results35, go_sem]) rfl ⟨rfl, (by repeat' (first | exact Below.refl _ _ | refine Below.alloc ?_ ?_ _ | refine Below.setCell ?_ ?_ _ | refine Below.drew ?_ | (apply below_step; assumption) | (simp; done) | (simp; omega) | omega))⟩
/-- The ending 'an element of its own'. -/
def RetN {α : Type} (N : Nat → World → α → List Value → Prop) (w : World) (t : α) (e : Ending) (w' : World) : Prop := ∃ cs : List Value, e = .returned (.agg cs.toArray) ∧ N w.heap.size w' t cs ∧ Below w.heap.size w w'
theorem toTask_n (t : TV) (cs : List Value) (w : World) (h : TaskR w t cs) : Calls Tryz.prog 15 #[.agg cs.toArray] w (RetN TaskN w t) := by
  obtain ⟨v1, v2, rfl, h1, h2, l1, l2⟩ := h
  exact (toTask_any t v1 v2 w h1 h2 l1 l2).mono fun _ _ ⟨g1, g2, e, k1, k2, k3, bl, it, hb⟩ => ⟨_, e, ⟨g1, g2, rfl, k1, k2, k3, bl, it, l1, l2⟩, hb⟩
theorem toNode_n (t : NV) (cs : List Value) (w : World) (h : NodeR w t cs) : Calls Tryz.prog 26 #[.agg cs.toArray] w (RetN NodeN w t) := by
  obtain ⟨v1, v2, rfl, h1, h2, l1, l2⟩ := h
  exact (toNode_any t v1 v2 w h1 h2 l1 l2).mono fun _ _ ⟨g1, g2, e, k1, k2, k3, bl, it, hb⟩ => ⟨_, e, ⟨g1, g2, rfl, k1, k2, k3, bl, it, l1, l2⟩, hb⟩
theorem toBind_n (t : BV) (cs : List Value) (w : World) (h : BindR w t cs) : Calls Tryz.prog 35 #[.agg cs.toArray] w (RetN BindN w t) := by
  obtain rfl := h
  exact (toBind_any t w).mono fun _ _ ⟨e, hb⟩ => ⟨_, e, rfl, hb⟩

theorem Tryz.infoTask : (Tryz.prog.info? 46).map (fun i => (i.zero, i.size, i.bytes)) = some (some (.agg #[.int .i64 0, .int .i64 0, .int .i64 0, .int .i64 0, .int .i64 0, .slice none 0 0, .slice none 0 0]), 7, 88) := by kernel_rfl
theorem Tryz.infoNode : (Tryz.prog.info? 60).map (fun i => (i.zero, i.size, i.bytes)) = some (some (.agg #[.int .i64 0, .int .i64 0, .int .i64 0, .int .i64 0, .int .i64 0, .slice none 0 0, .slice none 0 0, .bool false]), 8, 96) := by kernel_rfl
theorem Tryz.infoBind : (Tryz.prog.info? 70).map (fun i => (i.zero, i.size, i.bytes)) = some (some (.agg #[.int .i64 0, .int .i64 0]), 2, 16) := by kernel_rfl
theorem make_task (n : Nat) (h : n ≤ 1048576) (w : World) : (Instr.makeSlice 35 (.int .i64 (n : Int)) (.int .i64 (n : Int))).run Tryz.prog w = .ok (.slice (some ⟨w.heap.size, 0, none⟩) n n) (w.alloc (.cells (madeCells #[.int .i64 0, .int .i64 0, .int .i64 0, .int .i64 0, .int .i64 0, .slice none 0 0, .slice none 0 0] (n * 7)) 46)) := by
  obtain ⟨i, hi, hzz⟩ := Option.map_eq_some_iff.1 Tryz.infoTask
  simp only [Prod.mk.injEq] at hzz
  obtain ⟨hz, hs, hb⟩ := hzz
  have := run_make (P := Tryz.prog) w 35 46 i _ Tryz.underlying35 hi hz .i64 .i64 n n (by omega) (Int.le_refl _) (by rw [hb]; omega) (by omega)
  rw [this, hs]
  simp [Value.cells]
/-- The ending 'a slice of the call's own that reads as the list'. -/
def NewTaskS (w : World) (l : List TV) (e : Ending) (w' : World) : Prop := e = .returned (.slice (some ⟨w.heap.size, 0, none⟩) l.length l.length) ∧ CopyG (TaskN (w.heap.size + 1)) 7 46 w' w.heap.size l l.length ∧ Below w.heap.size w w'

set_option maxHeartbeats 1600000 in
theorem toTaskS_any (v : Value) (l : List TV) (w : World) (hv : TaskSl w v l) (hlen : l.length ≤ 1048576) :
    Calls Tryz.prog 51 #[v] w (NewTaskS w l) := by
  obtain ⟨A, c, rfl, hA⟩ := hv.form
  have HA := Lib.hid hA
  clear hA hv
  have hmk := make_task l.length hlen
  go_enter Tryz.func51, Tryz.ntmps51
  go_wp2_with fail
  go_loopw [4] (fun s4 wr => ∃ k : Nat, k ≤ l.length ∧ s4 = .int .i64 k ∧ CopyG (TaskN (w.heap.size + 1)) 7 46 wr w.heap.size l k ∧ Below w.heap.size w wr) (fun s4 _ => (l.length - intOf s4).toNat)
  case atStart =>
    exact ⟨0, by omega, rfl, ⟨_, BlockIs.new _ _ _, size_madeCells _ _, fun i r hi => absurd hi (by omega)⟩, (by repeat' (first | exact Below.refl _ _ | refine Below.alloc ?_ ?_ _ | refine Below.setCell ?_ ?_ _ | refine Below.drew ?_ | (apply below_step; assumption) | (simp; done) | (simp; omega) | omega))⟩
  case round =>
    obtain ⟨k, hk, rfl, hcp, hB⟩ := hrel
    have HCP := Lib.hid hcp
    have hgl := hcp.lt
    have hzr := hB.size
    clear hcp
    by_cases hlt : k < l.length
    · obtain ⟨b, off, rfl, hbw, hat⟩ := HA.out (by omega)
      obtain ⟨t, ht⟩ : ∃ t, l[k]? = some t := ⟨_, List.getElem?_eq_getElem hlt⟩
      obtain ⟨cs, hR, hC⟩ := (hat.below TaskR.kept hB hbw) k t ht
      have HTK := Lib.hid ht
      have HR := Lib.hid (toTask_n t cs wr hR)
      obtain ⟨v1, v2, rfl, sl, si, m1, m2⟩ := hR; obtain ⟨A1, c1, rfl, _⟩ := sl.form; obtain ⟨A2, c2, rfl, _⟩ := si.form
      clear sl si m1 m2
      obtain ⟨q0, q1, q2, q3, q4, q5, q6⟩ := task_cells hC
      clear hat hC ht
      go_wp2_with fail
      refine HR.out.mono ?_
      rintro e w3 ⟨ds, rfl, hN, hb3⟩
      have hz3 := hb3.size
      have hC3 := below_of hB hb3
      have hcp := HCP.out.below (TaskN.kept _) hb3
      have HN := Lib.hid (show TaskN (w.heap.size + 1) w3 t ds from by obtain ⟨g1, g2, e, h1, h2, h3⟩ := hN; exact ⟨g1, g2, e, by omega, by omega, h3⟩)
      have HCP3 := Lib.hid hcp
      obtain ⟨cs3, hblk, hsz, _⟩ := hcp
      have hk7 : k * 7 + 7 ≤ cs3.size := by omega
      have x0 : w3.cell? ⟨w.heap.size, k * 7 + 0, none⟩ = some (cs3[k * 7 + 0]'(by omega)) := (by rw [hblk.cell]; exact Array.getElem?_eq_getElem (by omega)); have x1 : w3.cell? ⟨w.heap.size, k * 7 + 1, none⟩ = some (cs3[k * 7 + 1]'(by omega)) := (by rw [hblk.cell]; exact Array.getElem?_eq_getElem (by omega)); have x2 : w3.cell? ⟨w.heap.size, k * 7 + 2, none⟩ = some (cs3[k * 7 + 2]'(by omega)) := (by rw [hblk.cell]; exact Array.getElem?_eq_getElem (by omega)); have x3 : w3.cell? ⟨w.heap.size, k * 7 + 3, none⟩ = some (cs3[k * 7 + 3]'(by omega)) := (by rw [hblk.cell]; exact Array.getElem?_eq_getElem (by omega)); have x4 : w3.cell? ⟨w.heap.size, k * 7 + 4, none⟩ = some (cs3[k * 7 + 4]'(by omega)) := (by rw [hblk.cell]; exact Array.getElem?_eq_getElem (by omega)); have x5 : w3.cell? ⟨w.heap.size, k * 7 + 5, none⟩ = some (cs3[k * 7 + 5]'(by omega)) := (by rw [hblk.cell]; exact Array.getElem?_eq_getElem (by omega)); have x6 : w3.cell? ⟨w.heap.size, k * 7 + 6, none⟩ = some (cs3[k * 7 + 6]'(by omega)) := (by rw [hblk.cell]; exact Array.getElem?_eq_getElem (by omega))
      generalize cs3[k * 7 + 0]'(by omega) = y0 at x0; generalize cs3[k * 7 + 1]'(by omega) = y1 at x1; generalize cs3[k * 7 + 2]'(by omega) = y2 at x2; generalize cs3[k * 7 + 3]'(by omega) = y3 at x3; generalize cs3[k * 7 + 4]'(by omega) = y4 at x4; generalize cs3[k * 7 + 5]'(by omega) = y5 at x5; generalize cs3[k * 7 + 6]'(by omega) = y6 at x6
      rw [Nat.add_zero] at x0
      have uf := hblk.frozen
      have hl3 := hblk.lt
      clear hblk hsz hk7 hN hb3
      obtain ⟨g1, g2, rfl, _⟩ := HN.out
      go_wp2_with fail
      go_roundw
      case rel =>
        have st := HCP3.out.step HTK.out (HN.out.put (by omega)) HN.out.len (fun y es h => h.put (by omega))
        exact ⟨k + 1, by omega, by go_num, st, putAll_below (ds := [_, _, _, _, _, _, _]) hC3 (Nat.le_refl _)⟩
      case measure => simp [intOf]; omega
    · have hkl : k = l.length := by omega
      have HF := Lib.hid (show CopyG (TaskN (w.heap.size + 1)) 7 46 wr w.heap.size l l.length by rw [← hkl]; exact HCP.out)
      clear hkl
      go_wp2_with fail
      go_ret
      exact ⟨rfl, HF.out, hB⟩
theorem make_node (n : Nat) (h : n ≤ 1048576) (w : World) : (Instr.makeSlice 36 (.int .i64 (n : Int)) (.int .i64 (n : Int))).run Tryz.prog w = .ok (.slice (some ⟨w.heap.size, 0, none⟩) n n) (w.alloc (.cells (madeCells #[.int .i64 0, .int .i64 0, .int .i64 0, .int .i64 0, .int .i64 0, .slice none 0 0, .slice none 0 0, .bool false] (n * 8)) 60)) := by
  obtain ⟨i, hi, hzz⟩ := Option.map_eq_some_iff.1 Tryz.infoNode
  simp only [Prod.mk.injEq] at hzz
  obtain ⟨hz, hs, hb⟩ := hzz
  have := run_make (P := Tryz.prog) w 36 60 i _ Tryz.underlying36 hi hz .i64 .i64 n n (by omega) (Int.le_refl _) (by rw [hb]; omega) (by omega)
  rw [this, hs]
  simp [Value.cells]
/-- The ending 'a slice of the call's own that reads as the list'. -/
def NewNodeS (w : World) (l : List NV) (e : Ending) (w' : World) : Prop := e = .returned (.slice (some ⟨w.heap.size, 0, none⟩) l.length l.length) ∧ CopyG (NodeN (w.heap.size + 1)) 8 60 w' w.heap.size l l.length ∧ Below w.heap.size w w'

set_option maxHeartbeats 1600000 in
theorem toNodeS_any (v : Value) (l : List NV) (w : World) (hv : NodeSl w v l) (hlen : l.length ≤ 1048576) :
    Calls Tryz.prog 52 #[v] w (NewNodeS w l) := by
  obtain ⟨A, c, rfl, hA⟩ := hv.form
  have HA := Lib.hid hA
  clear hA hv
  have hmk := make_node l.length hlen
  go_enter Tryz.func52, Tryz.ntmps52
  go_wp2_with fail
  go_loopw [4] (fun s4 wr => ∃ k : Nat, k ≤ l.length ∧ s4 = .int .i64 k ∧ CopyG (NodeN (w.heap.size + 1)) 8 60 wr w.heap.size l k ∧ Below w.heap.size w wr) (fun s4 _ => (l.length - intOf s4).toNat)
  case atStart =>
    exact ⟨0, by omega, rfl, ⟨_, BlockIs.new _ _ _, size_madeCells _ _, fun i r hi => absurd hi (by omega)⟩, (by repeat' (first | exact Below.refl _ _ | refine Below.alloc ?_ ?_ _ | refine Below.setCell ?_ ?_ _ | refine Below.drew ?_ | (apply below_step; assumption) | (simp; done) | (simp; omega) | omega))⟩
  case round =>
    obtain ⟨k, hk, rfl, hcp, hB⟩ := hrel
    have HCP := Lib.hid hcp
    have hgl := hcp.lt
    have hzr := hB.size
    clear hcp
    by_cases hlt : k < l.length
    · obtain ⟨b, off, rfl, hbw, hat⟩ := HA.out (by omega)
      obtain ⟨t, ht⟩ : ∃ t, l[k]? = some t := ⟨_, List.getElem?_eq_getElem hlt⟩
      obtain ⟨cs, hR, hC⟩ := (hat.below NodeR.kept hB hbw) k t ht
      have HTK := Lib.hid ht
      have HR := Lib.hid (toNode_n t cs wr hR)
      obtain ⟨v1, v2, rfl, sl, si, m1, m2⟩ := hR; obtain ⟨A1, c1, rfl, _⟩ := sl.form; obtain ⟨A2, c2, rfl, _⟩ := si.form
      clear sl si m1 m2
      obtain ⟨q0, q1, q2, q3, q4, q5, q6, q7⟩ := node_cells hC
      clear hat hC ht
      go_wp2_with fail
      refine HR.out.mono ?_
      rintro e w3 ⟨ds, rfl, hN, hb3⟩
      have hz3 := hb3.size
      have hC3 := below_of hB hb3
      have hcp := HCP.out.below (NodeN.kept _) hb3
      have HN := Lib.hid (show NodeN (w.heap.size + 1) w3 t ds from by obtain ⟨g1, g2, e, h1, h2, h3⟩ := hN; exact ⟨g1, g2, e, by omega, by omega, h3⟩)
      have HCP3 := Lib.hid hcp
      obtain ⟨cs3, hblk, hsz, _⟩ := hcp
      have hk8 : k * 8 + 8 ≤ cs3.size := by omega
      have x0 : w3.cell? ⟨w.heap.size, k * 8 + 0, none⟩ = some (cs3[k * 8 + 0]'(by omega)) := (by rw [hblk.cell]; exact Array.getElem?_eq_getElem (by omega)); have x1 : w3.cell? ⟨w.heap.size, k * 8 + 1, none⟩ = some (cs3[k * 8 + 1]'(by omega)) := (by rw [hblk.cell]; exact Array.getElem?_eq_getElem (by omega)); have x2 : w3.cell? ⟨w.heap.size, k * 8 + 2, none⟩ = some (cs3[k * 8 + 2]'(by omega)) := (by rw [hblk.cell]; exact Array.getElem?_eq_getElem (by omega)); have x3 : w3.cell? ⟨w.heap.size, k * 8 + 3, none⟩ = some (cs3[k * 8 + 3]'(by omega)) := (by rw [hblk.cell]; exact Array.getElem?_eq_getElem (by omega)); have x4 : w3.cell? ⟨w.heap.size, k * 8 + 4, none⟩ = some (cs3[k * 8 + 4]'(by omega)) := (by rw [hblk.cell]; exact Array.getElem?_eq_getElem (by omega)); have x5 : w3.cell? ⟨w.heap.size, k * 8 + 5, none⟩ = some (cs3[k * 8 + 5]'(by omega)) := (by rw [hblk.cell]; exact Array.getElem?_eq_getElem (by omega)); have x6 : w3.cell? ⟨w.heap.size, k * 8 + 6, none⟩ = some (cs3[k * 8 + 6]'(by omega)) := (by rw [hblk.cell]; exact Array.getElem?_eq_getElem (by omega)); have x7 : w3.cell? ⟨w.heap.size, k * 8 + 7, none⟩ = some (cs3[k * 8 + 7]'(by omega)) := (by rw [hblk.cell]; exact Array.getElem?_eq_getElem (by omega))
      generalize cs3[k * 8 + 0]'(by omega) = y0 at x0; generalize cs3[k * 8 + 1]'(by omega) = y1 at x1; generalize cs3[k * 8 + 2]'(by omega) = y2 at x2; generalize cs3[k * 8 + 3]'(by omega) = y3 at x3; generalize cs3[k * 8 + 4]'(by omega) = y4 at x4; generalize cs3[k * 8 + 5]'(by omega) = y5 at x5; generalize cs3[k * 8 + 6]'(by omega) = y6 at x6; generalize cs3[k * 8 + 7]'(by omega) = y7 at x7
      rw [Nat.add_zero] at x0
      have uf := hblk.frozen
      have hl3 := hblk.lt
      clear hblk hsz hk8 hN hb3
      obtain ⟨g1, g2, rfl, _⟩ := HN.out
      go_wp2_with fail
      go_roundw
      case rel =>
        have st := HCP3.out.step HTK.out (HN.out.put (by omega)) HN.out.len (fun y es h => h.put (by omega))
        exact ⟨k + 1, by omega, by go_num, st, putAll_below (ds := [_, _, _, _, _, _, _, _]) hC3 (Nat.le_refl _)⟩
      case measure => simp [intOf]; omega
    · have hkl : k = l.length := by omega
      have HF := Lib.hid (show CopyG (NodeN (w.heap.size + 1)) 8 60 wr w.heap.size l l.length by rw [← hkl]; exact HCP.out)
      clear hkl
      go_wp2_with fail
      go_ret
      exact ⟨rfl, HF.out, hB⟩
theorem make_bind (n : Nat) (h : n ≤ 1048576) (w : World) : (Instr.makeSlice 37 (.int .i64 (n : Int)) (.int .i64 (n : Int))).run Tryz.prog w = .ok (.slice (some ⟨w.heap.size, 0, none⟩) n n) (w.alloc (.cells (madeCells #[.int .i64 0, .int .i64 0] (n * 2)) 70)) := by
  obtain ⟨i, hi, hzz⟩ := Option.map_eq_some_iff.1 Tryz.infoBind
  simp only [Prod.mk.injEq] at hzz
  obtain ⟨hz, hs, hb⟩ := hzz
  have := run_make (P := Tryz.prog) w 37 70 i _ Tryz.underlying37 hi hz .i64 .i64 n n (by omega) (Int.le_refl _) (by rw [hb]; omega) (by omega)
  rw [this, hs]
  simp [Value.cells]
/-- The ending 'a slice of the call's own that reads as the list'. -/
def NewBindS (w : World) (l : List BV) (e : Ending) (w' : World) : Prop := e = .returned (.slice (some ⟨w.heap.size, 0, none⟩) l.length l.length) ∧ CopyG (BindN (w.heap.size + 1)) 2 70 w' w.heap.size l l.length ∧ Below w.heap.size w w'

set_option maxHeartbeats 1600000 in
theorem toBindS_any (v : Value) (l : List BV) (w : World) (hv : BindSl w v l) (hlen : l.length ≤ 1048576) :
    Calls Tryz.prog 53 #[v] w (NewBindS w l) := by
  obtain ⟨A, c, rfl, hA⟩ := hv.form
  have HA := Lib.hid hA
  clear hA hv
  have hmk := make_bind l.length hlen
  go_enter Tryz.func53, Tryz.ntmps53
  go_wp2_with fail
  go_loopw [4] (fun s4 wr => ∃ k : Nat, k ≤ l.length ∧ s4 = .int .i64 k ∧ CopyG (BindN (w.heap.size + 1)) 2 70 wr w.heap.size l k ∧ Below w.heap.size w wr) (fun s4 _ => (l.length - intOf s4).toNat)
  case atStart =>
    exact ⟨0, by omega, rfl, ⟨_, BlockIs.new _ _ _, size_madeCells _ _, fun i r hi => absurd hi (by omega)⟩, (by repeat' (first | exact Below.refl _ _ | refine Below.alloc ?_ ?_ _ | refine Below.setCell ?_ ?_ _ | refine Below.drew ?_ | (apply below_step; assumption) | (simp; done) | (simp; omega) | omega))⟩
  case round =>
    obtain ⟨k, hk, rfl, hcp, hB⟩ := hrel
    have HCP := Lib.hid hcp
    have hgl := hcp.lt
    have hzr := hB.size
    clear hcp
    by_cases hlt : k < l.length
    · obtain ⟨b, off, rfl, hbw, hat⟩ := HA.out (by omega)
      obtain ⟨t, ht⟩ : ∃ t, l[k]? = some t := ⟨_, List.getElem?_eq_getElem hlt⟩
      obtain ⟨cs, hR, hC⟩ := (hat.below BindR.kept hB hbw) k t ht
      have HTK := Lib.hid ht
      have HR := Lib.hid (toBind_n t cs wr hR)
      obtain rfl := hR
      skip
      obtain ⟨q0, q1⟩ := bind_cells hC
      clear hat hC ht
      go_wp2_with fail
      refine HR.out.mono ?_
      rintro e w3 ⟨ds, rfl, hN, hb3⟩
      have hz3 := hb3.size
      have hC3 := below_of hB hb3
      have hcp := HCP.out.below (BindN.kept _) hb3
      have HN := Lib.hid (show BindN (w.heap.size + 1) w3 t ds from hN)
      have HCP3 := Lib.hid hcp
      obtain ⟨cs3, hblk, hsz, _⟩ := hcp
      have hk2 : k * 2 + 2 ≤ cs3.size := by omega
      have x0 : w3.cell? ⟨w.heap.size, k * 2 + 0, none⟩ = some (cs3[k * 2 + 0]'(by omega)) := (by rw [hblk.cell]; exact Array.getElem?_eq_getElem (by omega)); have x1 : w3.cell? ⟨w.heap.size, k * 2 + 1, none⟩ = some (cs3[k * 2 + 1]'(by omega)) := (by rw [hblk.cell]; exact Array.getElem?_eq_getElem (by omega))
      generalize cs3[k * 2 + 0]'(by omega) = y0 at x0; generalize cs3[k * 2 + 1]'(by omega) = y1 at x1
      rw [Nat.add_zero] at x0
      have uf := hblk.frozen
      have hl3 := hblk.lt
      clear hblk hsz hk2 hN hb3
      obtain rfl := HN.out
      go_wp2_with fail
      go_roundw
      case rel =>
        have st := HCP3.out.step HTK.out (HN.out.put (by omega)) HN.out.len (fun y es h => h.put (by omega))
        exact ⟨k + 1, by omega, by go_num, st, putAll_below (ds := [_, _]) hC3 (Nat.le_refl _)⟩
      case measure => simp [intOf]; omega
    · have hkl : k = l.length := by omega
      have HF := Lib.hid (show CopyG (BindN (w.heap.size + 1)) 2 70 wr w.heap.size l l.length by rw [← hkl]; exact HCP.out)
      clear hkl
      go_wp2_with fail
      go_ret
      exact ⟨rfl, HF.out, hB⟩
end Go.Proofs.YtocfgejceoenmaaGreatDoor
namespace Go.Proofs.YtocfgejceoenmaaGreatDoor
open Go.RowKit

section
variable {α : Type} {R S : World → α → List Value → Prop} {n g k : Nat} {ty : TypeId} {w w' : World} {l : List α}
theorem CopyG.weaken (h : CopyG R n ty w g l k) (hRS : ∀ x cs, R w x cs → S w x cs) : CopyG S n ty w g l k := by
  obtain ⟨cs, h1, h2, h3⟩ := h
  refine ⟨cs, h1, h2, fun i x hi hx => ?_⟩
  obtain ⟨ds, a, b⟩ := h3 i x hi hx
  exact ⟨ds, hRS _ _ a, b⟩
theorem CopyG.putFar {b o : Nat} {es : List Value} (h : CopyG R n ty w g l k) (hne : g ≠ b) (hp : ∀ y ds, R w y ds → R (putAll w b o es) y ds) : CopyG R n ty (putAll w b o es) g l k := by
  obtain ⟨cs, h1, h2, h3⟩ := h
  refine ⟨cs, h1.putFar hne, h2, fun i x hi hx => ?_⟩
  obtain ⟨ds, a, b⟩ := h3 i x hi hx
  exact ⟨ds, hp _ _ a, b⟩
end
theorem TaskN.lower {b base : Nat} {w : World} {t : TV} {cs : List Value} (h : TaskN base w t cs) (hb : b ≤ base) : TaskN b w t cs := by
  obtain ⟨g1, g2, e, h1, h2, h3⟩ := h; exact ⟨g1, g2, e, by omega, by omega, h3⟩
theorem NodeN.lower {b base : Nat} {w : World} {t : NV} {cs : List Value} (h : NodeN base w t cs) (hb : b ≤ base) : NodeN b w t cs := by
  obtain ⟨g1, g2, e, h1, h2, h3⟩ := h; exact ⟨g1, g2, e, by omega, by omega, h3⟩
theorem BindN.lower {b base : Nat} {w : World} {t : BV} {cs : List Value} (h : BindN base w t cs) (_ : b ≤ base) : BindN b w t cs := h
/-- A cluster of the call's own: its rows are blocks of their own, all from base on. -/
def CluN (base : Nat) (w : World) (c : CV) (g0 g1 g2 : Nat) : Prop := base ≤ g0 ∧ base ≤ g1 ∧ base ≤ g2 ∧ CopyG (TaskN base) 7 46 w g0 c.tasks c.tasks.length ∧ CopyG (NodeN base) 8 60 w g1 c.nodes c.nodes.length ∧ CopyG (BindN base) 2 70 w g2 c.binds c.binds.length ∧
  c.tasks.length ≤ 1048576 ∧ c.nodes.length ≤ 1048576 ∧ c.binds.length ≤ 1048576
theorem CluN.below {base : Nat} {w w' : World} {c : CV} {g0 g1 g2 : Nat} (h : CluN base w c g0 g1 g2) (hb : Below w.heap.size w w') : CluN base w' c g0 g1 g2 := by
  obtain ⟨a0, a1, a2, h0, h1, h2, l⟩ := h
  exact ⟨a0, a1, a2, h0.below (TaskN.kept _) hb, h1.below (NodeN.kept _) hb, h2.below (BindN.kept _) hb, l⟩
theorem CluN.clu {base : Nat} {w : World} {c : CV} {g0 g1 g2 : Nat} (h : CluN base w c g0 g1 g2) : CluR w c (.slice (some ⟨g0, 0, none⟩) c.tasks.length c.tasks.length) (.slice (some ⟨g1, 0, none⟩) c.nodes.length c.nodes.length) (.slice (some ⟨g2, 0, none⟩) c.binds.length c.binds.length) := by
  obtain ⟨a0, a1, a2, h0, h1, h2, l⟩ := h
  exact ⟨h0.sl (fun _ _ h => h.r), h1.sl (fun _ _ h => h.r), h2.sl (fun _ _ h => h.r), l⟩
/-- The ending 'a cluster of the call's own'. -/
def NewClu (w : World) (c : CV) (e : Ending) (w' : World) : Prop := ∃ g0 g1 g2, e = .returned (.agg #[.slice (some ⟨g0, 0, none⟩) c.tasks.length c.tasks.length, .slice (some ⟨g1, 0, none⟩) c.nodes.length c.nodes.length, .slice (some ⟨g2, 0, none⟩) c.binds.length c.binds.length]) ∧ CluN w.heap.size w' c g0 g1 g2 ∧ Below w.heap.size w w'

set_option maxHeartbeats 1600000 in
theorem toCluster_any (c : CV) (a0 a1 a2 : Value) (w : World) (hc : CluR w c a0 a1 a2) :
    Calls Tryz.prog 14 #[.agg #[a0, a1, a2]] w (NewClu w c) := by
  have HC := Lib.hid hc
  obtain ⟨h0, h1, h2, l0, l1, l2⟩ := hc
  obtain ⟨D0, e0, rfl, _⟩ := h0.form
  obtain ⟨D1, e1, rfl, _⟩ := h1.form
  obtain ⟨D2, e2, rfl, _⟩ := h2.form
  have L := Lib.hid (And.intro l0 (And.intro l1 l2))
  clear h0 h1 h2 l0 l1 l2
  go_enter Tryz.func14, Tryz.ntmps14
  go_wp2_with fail
  have hX : Below w.heap.size w (((w.alloc (.cells #[.slice D0 c.tasks.length e0, .slice D1 c.nodes.length e1, .slice D2 c.binds.length e2] 26)).alloc (.cells #[.slice none 0 0, .slice none 0 0, .slice none 0 0] 39)).alloc (.cells #[.slice none 0 0, .slice none 0 0, .slice none 0 0] 39)) := (by repeat' (first | exact Below.refl _ _ | refine Below.alloc ?_ ?_ _ | refine Below.setCell ?_ ?_ _ | refine Below.drew ?_ | (apply below_step; assumption) | (simp; done) | (simp; omega) | omega))
  refine (toTaskS_any _ c.tasks _ (HC.out.below hX).1 L.out.1).mono ?_
  rintro e w1 ⟨rfl, hg1, hb1⟩
  have hs1 : (((w.alloc (.cells #[.slice D0 c.tasks.length e0, .slice D1 c.nodes.length e1, .slice D2 c.binds.length e2] 26)).alloc (.cells #[.slice none 0 0, .slice none 0 0, .slice none 0 0] 39)).alloc (.cells #[.slice none 0 0, .slice none 0 0, .slice none 0 0] 39)).heap.size = w.heap.size + 3 := by simp
  have B0 : BlockIs w1 w.heap.size 26 #[.slice D0 c.tasks.length e0, .slice D1 c.nodes.length e1, .slice D2 c.binds.length e2] := (((BlockIs.new w _ _).alloc _).alloc _).below hb1 (by simp; omega)
  have B1 : BlockIs w1 (w.heap.size + 1) 39 #[.slice none 0 0, .slice none 0 0, .slice none 0 0] := (BlockIs.alloc (BlockIs.new' (by simp)) _).below hb1 (by simp)
  have B2 : BlockIs w1 (w.heap.size + 1 + 1) 39 #[.slice none 0 0, .slice none 0 0, .slice none 0 0] := (BlockIs.new' (by simp)).below hb1 (by simp)
  have hC1 := below_of hX hb1
  have hz1 := hb1.size
  rw [hs1] at hz1
  generalize hX3 : (((w.alloc (.cells #[.slice D0 c.tasks.length e0, .slice D1 c.nodes.length e1, .slice D2 c.binds.length e2] 26)).alloc (.cells #[.slice none 0 0, .slice none 0 0, .slice none 0 0] 39)).alloc (.cells #[.slice none 0 0, .slice none 0 0, .slice none 0 0] 39)).heap.size = G0 at hg1 hs1 ⊢
  subst hs1
  have T1 := hg1.weaken (S := TaskN (w.heap.size + 3)) (fun _ _ h => h.lower (by omega))
  have c1 := B0.cell 1
  have d0 := B2.cell 0
  have f2 := B2.frozen
  simp at c1 d0
  have HB0 := Lib.hid B0
  have HB1 := Lib.hid B1
  have HB2 := Lib.hid B2
  have HT1 := Lib.hid T1
  clear B0 B1 B2 hb1 hX hg1 T1 hX3
  go_wp2_with fail
  have hC1' : Below w.heap.size w (w1.setCell ⟨w.heap.size + 1 + 1, 0, none⟩ (.slice (some ⟨w.heap.size + 3, 0, none⟩) c.tasks.length c.tasks.length)) := hC1.setCell (by dsimp only; omega) _
  refine (toNodeS_any _ c.nodes _ (HC.out.below hC1').2.1 L.out.2.1).mono ?_
  rintro e w2 ⟨rfl, hg2, hb2⟩
  have hsz1 : (w1.setCell ⟨w.heap.size + 1 + 1, 0, none⟩ (.slice (some ⟨w.heap.size + 3, 0, none⟩) c.tasks.length c.tasks.length)).heap.size = w1.heap.size := by simp [World.setCell]
  have hC2 := below_of hC1' hb2
  have T2 := (HT1.out.putFar (b := w.heap.size + 1 + 1) (o := 0) (es := [.slice (some ⟨w.heap.size + 3, 0, none⟩) c.tasks.length c.tasks.length]) (by omega) (fun y ds h => h.put (by omega))).below (TaskN.kept _) hb2
  have B0 := (HB0.out.far (p := ⟨w.heap.size + 1 + 1, 0, none⟩) (by dsimp only; omega) (.slice (some ⟨w.heap.size + 3, 0, none⟩) c.tasks.length c.tasks.length)).below hb2 (by rw [hsz1]; omega)
  have B1 := (HB1.out.far (p := ⟨w.heap.size + 1 + 1, 0, none⟩) (by dsimp only; omega) (.slice (some ⟨w.heap.size + 3, 0, none⟩) c.tasks.length c.tasks.length)).below hb2 (by rw [hsz1]; omega)
  have B2 := (HB2.out.put 0 (.slice (some ⟨w.heap.size + 3, 0, none⟩) c.tasks.length c.tasks.length)).below hb2 (by rw [hsz1]; omega)
  have hz2 := hb2.size
  rw [hsz1] at hz2 hg2 ⊢
  have N2 := hg2.weaken (S := NodeN (w.heap.size + 3)) (fun _ _ h => h.lower (by omega))
  have c2 := B0.cell 2
  have d1 := B2.cell 1
  have f2 := B2.frozen
  simp at c2 d1
  have HB1 := Lib.hid B1
  have HB2 := Lib.hid B2
  have HT2 := Lib.hid T2
  have HN2 := Lib.hid N2
  clear B0 B1 B2 hb2 hg2 T2 N2 HB0 hC1 hC1' c1 d0 hsz1
  go_wp2_with fail
  have hC2' : Below w.heap.size w (w2.setCell ⟨w.heap.size + 1 + 1, 1, none⟩ (.slice (some ⟨w1.heap.size, 0, none⟩) c.nodes.length c.nodes.length)) := hC2.setCell (by dsimp only; omega) _
  refine (toBindS_any _ c.binds _ (HC.out.below hC2').2.2.1 L.out.2.2).mono ?_
  rintro e w3 ⟨rfl, hg3, hb3⟩
  have hsz2 : (w2.setCell ⟨w.heap.size + 1 + 1, 1, none⟩ (.slice (some ⟨w1.heap.size, 0, none⟩) c.nodes.length c.nodes.length)).heap.size = w2.heap.size := by simp [World.setCell]
  have hC3 := below_of hC2' hb3
  have T3 := (HT2.out.putFar (b := w.heap.size + 1 + 1) (o := 1) (es := [.slice (some ⟨w1.heap.size, 0, none⟩) c.nodes.length c.nodes.length]) (by omega) (fun y ds h => h.put (by omega))).below (TaskN.kept _) hb3
  have N3 := (HN2.out.putFar (b := w.heap.size + 1 + 1) (o := 1) (es := [.slice (some ⟨w1.heap.size, 0, none⟩) c.nodes.length c.nodes.length]) (by omega) (fun y ds h => h.put (by omega))).below (NodeN.kept _) hb3
  have B1 := (HB1.out.far (p := ⟨w.heap.size + 1 + 1, 1, none⟩) (by dsimp only; omega) (.slice (some ⟨w1.heap.size, 0, none⟩) c.nodes.length c.nodes.length)).below hb3 (by rw [hsz2]; omega)
  have B2 := (HB2.out.put 1 (.slice (some ⟨w1.heap.size, 0, none⟩) c.nodes.length c.nodes.length)).below hb3 (by rw [hsz2]; omega)
  have hz3 := hb3.size
  rw [hsz2] at hz3 hg3 ⊢
  have K3 := hg3.weaken (S := BindN (w.heap.size + 3)) (fun _ _ h => h.lower (by omega))
  have d0 := B2.cell 0
  have d1 := B2.cell 1
  have d2 := B2.cell 2
  have f2 := B2.frozen
  have x0 := B1.cell 0
  have x1 := B1.cell 1
  have x2 := B1.cell 2
  have f1 := B1.frozen
  simp at d0 d1 d2 x0 x1 x2
  have HB1 := Lib.hid B1
  have HT3 := Lib.hid T3
  have HN3 := Lib.hid N3
  have HK3 := Lib.hid K3
  clear B1 B2 hb3 hg3 T3 N3 K3 HB2 HT2 HN2 hC2 hC2' c2 hsz2 HT1
  go_wp2_with fail
  have hZ : BlockIs ((((w3.setCell ⟨w.heap.size + 1 + 1, 2, none⟩ (.slice (some ⟨w2.heap.size, 0, none⟩) c.binds.length c.binds.length)).setCell ⟨w.heap.size + 1, 0, none⟩ (.slice (some ⟨w.heap.size + 3, 0, none⟩) c.tasks.length c.tasks.length)).setCell ⟨w.heap.size + 1, 1, none⟩ (.slice (some ⟨w1.heap.size, 0, none⟩) c.nodes.length c.nodes.length)).setCell ⟨w.heap.size + 1, 2, none⟩ (.slice (some ⟨w2.heap.size, 0, none⟩) c.binds.length c.binds.length)) (w.heap.size + 1) 39 #[.slice (some ⟨w.heap.size + 3, 0, none⟩) c.tasks.length c.tasks.length, .slice (some ⟨w1.heap.size, 0, none⟩) c.nodes.length c.nodes.length, .slice (some ⟨w2.heap.size, 0, none⟩) c.binds.length c.binds.length] := by
    have := (((HB1.out.far (p := ⟨w.heap.size + 1 + 1, 2, none⟩) (by dsimp only; omega) (.slice (some ⟨w2.heap.size, 0, none⟩) c.binds.length c.binds.length)).put 0 (.slice (some ⟨w.heap.size + 3, 0, none⟩) c.tasks.length c.tasks.length)).put 1 (.slice (some ⟨w1.heap.size, 0, none⟩) c.nodes.length c.nodes.length)).put 2 (.slice (some ⟨w2.heap.size, 0, none⟩) c.binds.length c.binds.length)
    simpa using this
  have hN : CluN w.heap.size ((((w3.setCell ⟨w.heap.size + 1 + 1, 2, none⟩ (.slice (some ⟨w2.heap.size, 0, none⟩) c.binds.length c.binds.length)).setCell ⟨w.heap.size + 1, 0, none⟩ (.slice (some ⟨w.heap.size + 3, 0, none⟩) c.tasks.length c.tasks.length)).setCell ⟨w.heap.size + 1, 1, none⟩ (.slice (some ⟨w1.heap.size, 0, none⟩) c.nodes.length c.nodes.length)).setCell ⟨w.heap.size + 1, 2, none⟩ (.slice (some ⟨w2.heap.size, 0, none⟩) c.binds.length c.binds.length)) c (w.heap.size + 3) w1.heap.size w2.heap.size := by
    refine ⟨by omega, by omega, by omega, ?_, ?_, ?_, L.out⟩
    · exact ((HT3.out.putFar (b := w.heap.size + 1 + 1) (o := 2) (es := [.slice (some ⟨w2.heap.size, 0, none⟩) c.binds.length c.binds.length]) (by omega) (fun y ds h => h.put (by omega))).putFar (b := w.heap.size + 1) (o := 0) (es := [.slice (some ⟨w.heap.size + 3, 0, none⟩) c.tasks.length c.tasks.length, .slice (some ⟨w1.heap.size, 0, none⟩) c.nodes.length c.nodes.length, .slice (some ⟨w2.heap.size, 0, none⟩) c.binds.length c.binds.length]) (by omega) (fun y ds h => h.put (by omega))).weaken (fun _ _ h => h.lower (by omega))
    · exact ((HN3.out.putFar (b := w.heap.size + 1 + 1) (o := 2) (es := [.slice (some ⟨w2.heap.size, 0, none⟩) c.binds.length c.binds.length]) (by omega) (fun y ds h => h.put (by omega))).putFar (b := w.heap.size + 1) (o := 0) (es := [.slice (some ⟨w.heap.size + 3, 0, none⟩) c.tasks.length c.tasks.length, .slice (some ⟨w1.heap.size, 0, none⟩) c.nodes.length c.nodes.length, .slice (some ⟨w2.heap.size, 0, none⟩) c.binds.length c.binds.length]) (by omega) (fun y ds h => h.put (by omega))).weaken (fun _ _ h => h.lower (by omega))
    · exact ((HK3.out.putFar (b := w.heap.size + 1 + 1) (o := 2) (es := [.slice (some ⟨w2.heap.size, 0, none⟩) c.binds.length c.binds.length]) (by omega) (fun y ds h => h.put (by omega))).putFar (b := w.heap.size + 1) (o := 0) (es := [.slice (some ⟨w.heap.size + 3, 0, none⟩) c.tasks.length c.tasks.length, .slice (some ⟨w1.heap.size, 0, none⟩) c.nodes.length c.nodes.length, .slice (some ⟨w2.heap.size, 0, none⟩) c.binds.length c.binds.length]) (by omega) (fun y ds h => h.put (by omega))).weaken (fun _ _ h => h.lower (by omega))
  have hB : Below w.heap.size w ((((w3.setCell ⟨w.heap.size + 1 + 1, 2, none⟩ (.slice (some ⟨w2.heap.size, 0, none⟩) c.binds.length c.binds.length)).setCell ⟨w.heap.size + 1, 0, none⟩ (.slice (some ⟨w.heap.size + 3, 0, none⟩) c.tasks.length c.tasks.length)).setCell ⟨w.heap.size + 1, 1, none⟩ (.slice (some ⟨w1.heap.size, 0, none⟩) c.nodes.length c.nodes.length)).setCell ⟨w.heap.size + 1, 2, none⟩ (.slice (some ⟨w2.heap.size, 0, none⟩) c.binds.length c.binds.length)) := ((((hC3.setCell (by dsimp only; omega) _).setCell (by dsimp only; omega) _).setCell (by dsimp only; omega) _).setCell (by dsimp only; omega) _)
  generalize ((((w3.setCell ⟨w.heap.size + 1 + 1, 2, none⟩ (.slice (some ⟨w2.heap.size, 0, none⟩) c.binds.length c.binds.length)).setCell ⟨w.heap.size + 1, 0, none⟩ (.slice (some ⟨w.heap.size + 3, 0, none⟩) c.tasks.length c.tasks.length)).setCell ⟨w.heap.size + 1, 1, none⟩ (.slice (some ⟨w1.heap.size, 0, none⟩) c.nodes.length c.nodes.length)).setCell ⟨w.heap.size + 1, 2, none⟩ (.slice (some ⟨w2.heap.size, 0, none⟩) c.binds.length c.binds.length)) = X at hZ hN hB ⊢
  have z0 := hZ.cell 0
  have z1 := hZ.cell 1
  have z2 := hZ.cell 2
  simp at z0 z1 z2
  exact bodyPost_ret (v := .agg #[.slice (some ⟨w.heap.size + 3, 0, none⟩) c.tasks.length c.tasks.length, .slice (some ⟨w1.heap.size, 0, none⟩) c.nodes.length c.nodes.length, .slice (some ⟨w2.heap.size, 0, none⟩) c.binds.length c.binds.length]) (by simp [results, Tryz.results14, go_sem, z0, z1, z2]) rfl ⟨_, _, _, rfl, hN, hB⟩

theorem eqBind_same (t : BV) (w : World) : Calls Tryz.prog 103 #[.agg #[.int .i64 t.task, .int .i64 t.node], .agg #[.int .i64 t.task, .int .i64 t.node]] w fun e w' => e = .returned (.bool true) ∧ Below w.heap.size w w' := by
  have h1 : (t.task != t.task) = false := by simp
  have h2 : (t.node != t.node) = false := by simp
  go_enter Tryz.func103, Tryz.ntmps103
  go_wp2
  go_ret
  exact ⟨rfl, (by repeat' (first | exact Below.refl _ _ | refine Below.alloc ?_ ?_ _ | refine Below.setCell ?_ ?_ _ | refine Below.drew ?_ | (apply below_step; assumption) | (simp; done) | (simp; omega) | omega))⟩
theorem eqTask_r (t : TV) (cs ds : List Value) (w : World) (h : TaskR w t cs) (k : TaskR w t ds) : Calls Tryz.prog 18 #[.agg cs.toArray, .agg ds.toArray] w fun e w' => e = .returned (.bool true) ∧ Below w.heap.size w w' := by
  obtain ⟨v1, v2, rfl, h1, h2, l1, l2⟩ := h
  obtain ⟨u1, u2, rfl, k1, k2, _, _⟩ := k
  exact eqTask_same t v1 v2 u1 u2 w h1 h2 k1 k2 l1 l2
theorem eqNode_r (t : NV) (cs ds : List Value) (w : World) (h : NodeR w t cs) (k : NodeR w t ds) : Calls Tryz.prog 28 #[.agg cs.toArray, .agg ds.toArray] w fun e w' => e = .returned (.bool true) ∧ Below w.heap.size w w' := by
  obtain ⟨v1, v2, rfl, h1, h2, l1, l2⟩ := h
  obtain ⟨u1, u2, rfl, k1, k2, _, _⟩ := k
  exact eqNode_same t v1 v2 u1 u2 w h1 h2 k1 k2 l1 l2
theorem eqBind_r (t : BV) (cs ds : List Value) (w : World) (h : BindR w t cs) (k : BindR w t ds) : Calls Tryz.prog 103 #[.agg cs.toArray, .agg ds.toArray] w fun e w' => e = .returned (.bool true) ∧ Below w.heap.size w w' := by
  obtain rfl := h
  obtain rfl := k
  exact eqBind_same t w
set_option maxHeartbeats 1600000 in
set_option maxRecDepth 20000 in
theorem eqTaskS_same (v1 v2 : Value) (l : List TV) (w : World) (h1 : TaskSl w v1 l) (h2 : TaskSl w v2 l) (hlen : l.length ≤ 1048576) :
    Calls Tryz.prog 59 #[v1, v2] w fun e w' => e = .returned (.bool true) ∧ Below w.heap.size w w' := by
  obtain ⟨A, c, rfl, hA⟩ := h1.form
  obtain ⟨A', c', rfl, hA'⟩ := h2.form
  have HA := Lib.hid hA
  have HA' := Lib.hid hA'
  clear hA hA' h1 h2
  have hnn : ((l.length : Int) != (l.length : Int)) = false := by simp
  go_enter Tryz.func59, Tryz.ntmps59
  go_wp2_with fail
  go_loopw [5] (fun s5 wr => ∃ k : Nat, k ≤ l.length ∧ s5 = .int .i64 k ∧ Below w.heap.size w wr) (fun s5 _ => (l.length - intOf s5).toNat)
  case atStart => exact ⟨0, by omega, rfl, Below.refl _ _⟩
  case round =>
    obtain ⟨k, hk, rfl, hB⟩ := hrel
    have hzr := hB.size
    by_cases hlt : k < l.length
    · obtain ⟨b, off, rfl, hbw, hat⟩ := HA.out (by omega)
      obtain ⟨b', off', rfl, hbw', hat'⟩ := HA'.out (by omega)
      obtain ⟨t, ht⟩ : ∃ t, l[k]? = some t := ⟨_, List.getElem?_eq_getElem hlt⟩
      obtain ⟨ds, hR, hC⟩ := (hat'.below TaskR.kept hB hbw') k t ht
      have HR' := Lib.hid hR
      obtain ⟨v3, v4, rfl, sl, si, m1, m2⟩ := hR; obtain ⟨A3, c3, rfl, _⟩ := sl.form; obtain ⟨A4, c4, rfl, _⟩ := si.form; clear sl si m1 m2
      obtain ⟨p0, p1, p2, p3, p4, p5, p6⟩ := task_cells hC
      clear hC
      obtain ⟨cs, hR, hC⟩ := (hat.below TaskR.kept hB hbw) k t ht
      have HR := Lib.hid hR
      obtain ⟨v1, v2, rfl, sl, si, m1, m2⟩ := hR; obtain ⟨A1, c1, rfl, _⟩ := sl.form; obtain ⟨A2, c2, rfl, _⟩ := si.form
      clear sl si m1 m2
      obtain ⟨q0, q1, q2, q3, q4, q5, q6⟩ := task_cells hC
      have hbr : b < wr.heap.size := by omega
      have hbr' : b' < wr.heap.size := by omega
      have HK := Lib.hid (show ∀ w', Below wr.heap.size wr w' → Below wr.heap.size wr w' ∧ w'.cell? ⟨b, off + k * 7, none⟩ = some (.int .i64 t.id) ∧ w'.cell? ⟨b, off + k * 7 + 1, none⟩ = some (.int .i64 t.prio) ∧ w'.cell? ⟨b, off + k * 7 + 2, none⟩ = some (.int .i64 t.need.c) ∧ w'.cell? ⟨b, off + k * 7 + 3, none⟩ = some (.int .i64 t.need.m) ∧ w'.cell? ⟨b, off + k * 7 + 4, none⟩ = some (.int .i64 t.need.p) ∧ w'.cell? ⟨b, off + k * 7 + 5, none⟩ = some (.slice A1 t.want.length c1) ∧ w'.cell? ⟨b, off + k * 7 + 6, none⟩ = some (.slice A2 t.tols.length c2) ∧ w'.cell? ⟨b', off' + k * 7, none⟩ = some (.int .i64 t.id) ∧ w'.cell? ⟨b', off' + k * 7 + 1, none⟩ = some (.int .i64 t.prio) ∧ w'.cell? ⟨b', off' + k * 7 + 2, none⟩ = some (.int .i64 t.need.c) ∧ w'.cell? ⟨b', off' + k * 7 + 3, none⟩ = some (.int .i64 t.need.m) ∧ w'.cell? ⟨b', off' + k * 7 + 4, none⟩ = some (.int .i64 t.need.p) ∧ w'.cell? ⟨b', off' + k * 7 + 5, none⟩ = some (.slice A3 t.want.length c3) ∧ w'.cell? ⟨b', off' + k * 7 + 6, none⟩ = some (.slice A4 t.tols.length c4) from fun w' hb => ⟨hb, (hb.cell (p := ⟨_, _, none⟩) hbr).trans q0, (hb.cell (p := ⟨_, _, none⟩) hbr).trans q1, (hb.cell (p := ⟨_, _, none⟩) hbr).trans q2, (hb.cell (p := ⟨_, _, none⟩) hbr).trans q3, (hb.cell (p := ⟨_, _, none⟩) hbr).trans q4, (hb.cell (p := ⟨_, _, none⟩) hbr).trans q5, (hb.cell (p := ⟨_, _, none⟩) hbr).trans q6, (hb.cell (p := ⟨_, _, none⟩) hbr').trans p0, (hb.cell (p := ⟨_, _, none⟩) hbr').trans p1, (hb.cell (p := ⟨_, _, none⟩) hbr').trans p2, (hb.cell (p := ⟨_, _, none⟩) hbr').trans p3, (hb.cell (p := ⟨_, _, none⟩) hbr').trans p4, (hb.cell (p := ⟨_, _, none⟩) hbr').trans p5, (hb.cell (p := ⟨_, _, none⟩) hbr').trans p6⟩)
      have hlti : (k : Int) < (l.length : Int) := by omega
      have hk0 : (0 : Int) ≤ (k : Int) := by omega
      clear hat hat' ht hC q0 q1 q2 q3 q4 q5 q6 p0 p1 p2 p3 p4 p5 p6
      go_wp2_with fail
      refine wp_region_held_drew (S := (fun w' => Below wr.heap.size wr w' ∧ w'.cell? ⟨b, off + k * 7, none⟩ = some (.int .i64 t.id) ∧ w'.cell? ⟨b, off + k * 7 + 1, none⟩ = some (.int .i64 t.prio) ∧ w'.cell? ⟨b, off + k * 7 + 2, none⟩ = some (.int .i64 t.need.c) ∧ w'.cell? ⟨b, off + k * 7 + 3, none⟩ = some (.int .i64 t.need.m) ∧ w'.cell? ⟨b, off + k * 7 + 4, none⟩ = some (.int .i64 t.need.p) ∧ w'.cell? ⟨b, off + k * 7 + 5, none⟩ = some (.slice A1 t.want.length c1) ∧ w'.cell? ⟨b, off + k * 7 + 6, none⟩ = some (.slice A2 t.tols.length c2) ∧ w'.cell? ⟨b', off' + k * 7, none⟩ = some (.int .i64 t.id) ∧ w'.cell? ⟨b', off' + k * 7 + 1, none⟩ = some (.int .i64 t.prio) ∧ w'.cell? ⟨b', off' + k * 7 + 2, none⟩ = some (.int .i64 t.need.c) ∧ w'.cell? ⟨b', off' + k * 7 + 3, none⟩ = some (.int .i64 t.need.m) ∧ w'.cell? ⟨b', off' + k * 7 + 4, none⟩ = some (.int .i64 t.need.p) ∧ w'.cell? ⟨b', off' + k * 7 + 5, none⟩ = some (.slice A3 t.want.length c3) ∧ w'.cell? ⟨b', off' + k * 7 + 6, none⟩ = some (.slice A4 t.tols.length c4))) (by kernel_rfl) (by (try dsimp only); exact HK.out _ (by repeat' (first | exact Below.refl _ _ | refine Below.alloc ?_ ?_ _ | refine Below.setCell ?_ ?_ _ | refine Below.drew ?_ | (apply below_step; assumption) | (simp; done) | (simp; omega) | omega))) (fun hHeld => ?_)
      refine hTake (i := 0) (oi := ?a2) (v := ?f2) (d := ?g2) ?b2 ?c2 (by kernel_rfl) ?d2 ?e2 ?h2 (by assumption) ?_; (case b2 => simp only [rhN]; try rfl); (case c2 => (try dsimp only); rfl); (case e2 => rfl); (case d2 => exact fun _ _ _ h => h); (case h2 => intro w hSw; (try dsimp only at hSw); go_simp <;> with_reducible rfl); simp only [Act.put, rhA, rhS, rhT]
      refine hTake (i := 1) (oi := ?a3) (v := ?f3) (d := ?g3) ?b3 ?c3 (by kernel_rfl) ?d3 ?e3 ?h3 (by assumption) ?_; (case b3 => simp only [rhN, rhM]; try rfl); (case c3 => (try dsimp only); rfl); (case e3 => rfl); (case d3 => exact fun _ _ _ h => h); (case h3 => intro w hSw; (try dsimp only at hSw); go_simp <;> with_reducible rfl); simp only [Act.put, rhA, rhS, rhT]
      refine hTake (i := 2) (oi := ?a4) (v := ?f4) (d := ?g4) ?b4 ?c4 (by kernel_rfl) ?d4 ?e4 ?h4 (by assumption) ?_; (case b4 => simp only [rhN, rhM]; try rfl); (case c4 => (try dsimp only); rfl); (case e4 => rfl); (case d4 => exact fun _ _ _ h => h); (case h4 => intro w hSw; (try dsimp only at hSw); go_simp <;> with_reducible rfl); simp only [Act.put, rhA, rhS, rhT]
      refine hTake (i := 3) (oi := ?a5) (v := ?f5) (d := ?g5) ?b5 ?c5 (by kernel_rfl) ?d5 ?e5 ?h5 (by assumption) ?_; (case b5 => simp only [rhN, rhM]; try rfl); (case c5 => (try dsimp only); rfl); (case e5 => rfl); (case d5 => exact fun _ _ _ h => h); (case h5 => intro w hSw; (try dsimp only at hSw); go_simp <;> with_reducible rfl); simp only [Act.put, rhA, rhS, rhT]
      refine hTake (i := 4) (oi := ?a6) (v := ?f6) (d := ?g6) ?b6 ?c6 (by kernel_rfl) ?d6 ?e6 ?h6 (by assumption) ?_; (case b6 => simp only [rhN, rhM]; try rfl); (case c6 => (try dsimp only); rfl); (case e6 => rfl); (case d6 => exact fun _ _ _ h => h); (case h6 => intro w hSw; (try dsimp only at hSw); go_simp <;> with_reducible rfl); simp only [Act.put, rhA, rhS, rhT]
      refine hTake (i := 5) (oi := ?a7) (v := ?f7) (d := ?g7) ?b7 ?c7 (by kernel_rfl) ?d7 ?e7 ?h7 (by assumption) ?_; (case b7 => simp only [rhN, rhM]; try rfl); (case c7 => (try dsimp only); rfl); (case e7 => rfl); (case d7 => exact fun _ _ _ h => h); (case h7 => intro w hSw; (try dsimp only at hSw); go_simp <;> with_reducible rfl); simp only [Act.put, rhA, rhS, rhT]
      refine hTake (i := 6) (oi := ?a8) (v := ?f8) (d := ?g8) ?b8 ?c8 (by kernel_rfl) ?d8 ?e8 ?h8 (by assumption) ?_; (case b8 => simp only [rhN, rhM]; try rfl); (case c8 => (try dsimp only); rfl); (case e8 => rfl); (case d8 => exact fun _ _ _ h => h); (case h8 => intro w hSw; (try dsimp only at hSw); go_simp <;> with_reducible rfl); simp only [Act.put, rhA, rhS, rhT]
      refine hTake (i := 7) (oi := ?a9) (v := ?f9) (d := ?g9) ?b9 ?c9 (by kernel_rfl) ?d9 ?e9 ?h9 (by assumption) ?_; (case b9 => simp only [rhN, rhM]; try rfl); (case c9 => (try dsimp only); rfl); (case e9 => rfl); (case d9 => exact fun _ _ _ h => h); (case h9 => intro w hSw; (try dsimp only at hSw); go_simp <;> with_reducible rfl); simp only [Act.put, rhA, rhS, rhT]
      refine hCall (i := 8) (o := ?a10) ?b10 (by kernel_rfl) ?c10 (fun K hK => ?d10)
      case b10 => simp only [rhN, rhM]; try rfl
      case c10 => rfl
      go_simp
      refine (eqTask_r t _ _ _ (TaskR.kept _ _ _ _ (by repeat' (first | exact Below.refl _ _ | refine Below.alloc ?_ ?_ _ | refine Below.setCell ?_ ?_ _ | refine Below.drew ?_ | (apply below_step; assumption) | (simp; done) | (simp; omega) | omega)) HR.out) (TaskR.kept _ _ _ _ (by repeat' (first | exact Below.refl _ _ | refine Below.alloc ?_ ?_ _ | refine Below.setCell ?_ ?_ _ | refine Below.drew ?_ | (apply below_step; assumption) | (simp; done) | (simp; omega) | omega)) HR'.out)).mono ?_
      rintro e w3 ⟨rfl, hb3⟩
      have hz3 := hb3.size
      try simp at hz3
      go_wp2_with fail
      refine hK.out _ _ (by (try dsimp only); exact HK.out _ (by repeat' (first | exact Below.refl _ _ | refine Below.alloc ?_ ?_ _ | refine Below.setCell ?_ ?_ _ | refine Below.drew ?_ | (apply below_step; assumption) | (simp; done) | (simp; omega) | omega))) (fun hHeld => ?_)
      clear hK K
      try simp only [Act.put, rhA, rhS, rhT]
      refine hTake (i := 9) (oi := ?a12) (v := ?f12) (d := ?g12) ?b12 ?c12 (by kernel_rfl) ?d12 ?e12 ?h12 (by assumption) ?_; (case b12 => simp only [rhN, rhM]; try rfl); (case c12 => (try dsimp only); rfl); (case e12 => rfl); (case d12 => exact fun _ _ _ h => h); (case h12 => intro w hSw; (try dsimp only at hSw); go_simp <;> with_reducible rfl); simp only [Act.put, rhA, rhS, rhT]
      refine wpAnyH_done (by kernel_rfl) ?_ _
      go_wp2_with fail
      go_roundw
      case rel => exact ⟨k + 1, by omega, by go_num, (by repeat' (first | exact Below.refl _ _ | refine Below.alloc ?_ ?_ _ | refine Below.setCell ?_ ?_ _ | refine Below.drew ?_ | (apply below_step; assumption) | (simp; done) | (simp; omega) | omega))⟩
      case measure => simp [intOf]; omega
    · go_wp2_with fail
      go_ret
      exact ⟨rfl, hB⟩
set_option maxHeartbeats 1600000 in
set_option maxRecDepth 20000 in
theorem eqNodeS_same (v1 v2 : Value) (l : List NV) (w : World) (h1 : NodeSl w v1 l) (h2 : NodeSl w v2 l) (hlen : l.length ≤ 1048576) :
    Calls Tryz.prog 60 #[v1, v2] w fun e w' => e = .returned (.bool true) ∧ Below w.heap.size w w' := by
  obtain ⟨A, c, rfl, hA⟩ := h1.form
  obtain ⟨A', c', rfl, hA'⟩ := h2.form
  have HA := Lib.hid hA
  have HA' := Lib.hid hA'
  clear hA hA' h1 h2
  have hnn : ((l.length : Int) != (l.length : Int)) = false := by simp
  go_enter Tryz.func60, Tryz.ntmps60
  go_wp2_with fail
  go_loopw [5] (fun s5 wr => ∃ k : Nat, k ≤ l.length ∧ s5 = .int .i64 k ∧ Below w.heap.size w wr) (fun s5 _ => (l.length - intOf s5).toNat)
  case atStart => exact ⟨0, by omega, rfl, Below.refl _ _⟩
  case round =>
    obtain ⟨k, hk, rfl, hB⟩ := hrel
    have hzr := hB.size
    by_cases hlt : k < l.length
    · obtain ⟨b, off, rfl, hbw, hat⟩ := HA.out (by omega)
      obtain ⟨b', off', rfl, hbw', hat'⟩ := HA'.out (by omega)
      obtain ⟨t, ht⟩ : ∃ t, l[k]? = some t := ⟨_, List.getElem?_eq_getElem hlt⟩
      obtain ⟨ds, hR, hC⟩ := (hat'.below NodeR.kept hB hbw') k t ht
      have HR' := Lib.hid hR
      obtain ⟨v3, v4, rfl, sl, si, m1, m2⟩ := hR; obtain ⟨A3, c3, rfl, _⟩ := sl.form; obtain ⟨A4, c4, rfl, _⟩ := si.form; clear sl si m1 m2
      obtain ⟨p0, p1, p2, p3, p4, p5, p6, p7⟩ := node_cells hC
      clear hC
      obtain ⟨cs, hR, hC⟩ := (hat.below NodeR.kept hB hbw) k t ht
      have HR := Lib.hid hR
      obtain ⟨v1, v2, rfl, sl, si, m1, m2⟩ := hR; obtain ⟨A1, c1, rfl, _⟩ := sl.form; obtain ⟨A2, c2, rfl, _⟩ := si.form
      clear sl si m1 m2
      obtain ⟨q0, q1, q2, q3, q4, q5, q6, q7⟩ := node_cells hC
      have hbr : b < wr.heap.size := by omega
      have hbr' : b' < wr.heap.size := by omega
      have HK := Lib.hid (show ∀ w', Below wr.heap.size wr w' → Below wr.heap.size wr w' ∧ w'.cell? ⟨b, off + k * 8, none⟩ = some (.int .i64 t.id) ∧ w'.cell? ⟨b, off + k * 8 + 1, none⟩ = some (.int .i64 t.pool) ∧ w'.cell? ⟨b, off + k * 8 + 2, none⟩ = some (.int .i64 t.cap.c) ∧ w'.cell? ⟨b, off + k * 8 + 3, none⟩ = some (.int .i64 t.cap.m) ∧ w'.cell? ⟨b, off + k * 8 + 4, none⟩ = some (.int .i64 t.cap.p) ∧ w'.cell? ⟨b, off + k * 8 + 5, none⟩ = some (.slice A1 t.labs.length c1) ∧ w'.cell? ⟨b, off + k * 8 + 6, none⟩ = some (.slice A2 t.taints.length c2) ∧ w'.cell? ⟨b, off + k * 8 + 7, none⟩ = some (.bool t.cordon) ∧ w'.cell? ⟨b', off' + k * 8, none⟩ = some (.int .i64 t.id) ∧ w'.cell? ⟨b', off' + k * 8 + 1, none⟩ = some (.int .i64 t.pool) ∧ w'.cell? ⟨b', off' + k * 8 + 2, none⟩ = some (.int .i64 t.cap.c) ∧ w'.cell? ⟨b', off' + k * 8 + 3, none⟩ = some (.int .i64 t.cap.m) ∧ w'.cell? ⟨b', off' + k * 8 + 4, none⟩ = some (.int .i64 t.cap.p) ∧ w'.cell? ⟨b', off' + k * 8 + 5, none⟩ = some (.slice A3 t.labs.length c3) ∧ w'.cell? ⟨b', off' + k * 8 + 6, none⟩ = some (.slice A4 t.taints.length c4) ∧ w'.cell? ⟨b', off' + k * 8 + 7, none⟩ = some (.bool t.cordon) from fun w' hb => ⟨hb, (hb.cell (p := ⟨_, _, none⟩) hbr).trans q0, (hb.cell (p := ⟨_, _, none⟩) hbr).trans q1, (hb.cell (p := ⟨_, _, none⟩) hbr).trans q2, (hb.cell (p := ⟨_, _, none⟩) hbr).trans q3, (hb.cell (p := ⟨_, _, none⟩) hbr).trans q4, (hb.cell (p := ⟨_, _, none⟩) hbr).trans q5, (hb.cell (p := ⟨_, _, none⟩) hbr).trans q6, (hb.cell (p := ⟨_, _, none⟩) hbr).trans q7, (hb.cell (p := ⟨_, _, none⟩) hbr').trans p0, (hb.cell (p := ⟨_, _, none⟩) hbr').trans p1, (hb.cell (p := ⟨_, _, none⟩) hbr').trans p2, (hb.cell (p := ⟨_, _, none⟩) hbr').trans p3, (hb.cell (p := ⟨_, _, none⟩) hbr').trans p4, (hb.cell (p := ⟨_, _, none⟩) hbr').trans p5, (hb.cell (p := ⟨_, _, none⟩) hbr').trans p6, (hb.cell (p := ⟨_, _, none⟩) hbr').trans p7⟩)
      have hlti : (k : Int) < (l.length : Int) := by omega
      have hk0 : (0 : Int) ≤ (k : Int) := by omega
      clear hat hat' ht hC q0 q1 q2 q3 q4 q5 q6 q7 p0 p1 p2 p3 p4 p5 p6 p7
      go_wp2_with fail
      refine wp_region_held_drew (S := (fun w' => Below wr.heap.size wr w' ∧ w'.cell? ⟨b, off + k * 8, none⟩ = some (.int .i64 t.id) ∧ w'.cell? ⟨b, off + k * 8 + 1, none⟩ = some (.int .i64 t.pool) ∧ w'.cell? ⟨b, off + k * 8 + 2, none⟩ = some (.int .i64 t.cap.c) ∧ w'.cell? ⟨b, off + k * 8 + 3, none⟩ = some (.int .i64 t.cap.m) ∧ w'.cell? ⟨b, off + k * 8 + 4, none⟩ = some (.int .i64 t.cap.p) ∧ w'.cell? ⟨b, off + k * 8 + 5, none⟩ = some (.slice A1 t.labs.length c1) ∧ w'.cell? ⟨b, off + k * 8 + 6, none⟩ = some (.slice A2 t.taints.length c2) ∧ w'.cell? ⟨b, off + k * 8 + 7, none⟩ = some (.bool t.cordon) ∧ w'.cell? ⟨b', off' + k * 8, none⟩ = some (.int .i64 t.id) ∧ w'.cell? ⟨b', off' + k * 8 + 1, none⟩ = some (.int .i64 t.pool) ∧ w'.cell? ⟨b', off' + k * 8 + 2, none⟩ = some (.int .i64 t.cap.c) ∧ w'.cell? ⟨b', off' + k * 8 + 3, none⟩ = some (.int .i64 t.cap.m) ∧ w'.cell? ⟨b', off' + k * 8 + 4, none⟩ = some (.int .i64 t.cap.p) ∧ w'.cell? ⟨b', off' + k * 8 + 5, none⟩ = some (.slice A3 t.labs.length c3) ∧ w'.cell? ⟨b', off' + k * 8 + 6, none⟩ = some (.slice A4 t.taints.length c4) ∧ w'.cell? ⟨b', off' + k * 8 + 7, none⟩ = some (.bool t.cordon))) (by kernel_rfl) (by (try dsimp only); exact HK.out _ (by repeat' (first | exact Below.refl _ _ | refine Below.alloc ?_ ?_ _ | refine Below.setCell ?_ ?_ _ | refine Below.drew ?_ | (apply below_step; assumption) | (simp; done) | (simp; omega) | omega))) (fun hHeld => ?_)
      refine hTake (i := 0) (oi := ?a14) (v := ?f14) (d := ?g14) ?b14 ?c14 (by kernel_rfl) ?d14 ?e14 ?h14 (by assumption) ?_; (case b14 => simp only [rhN]; try rfl); (case c14 => (try dsimp only); rfl); (case e14 => rfl); (case d14 => exact fun _ _ _ h => h); (case h14 => intro w hSw; (try dsimp only at hSw); go_simp <;> with_reducible rfl); simp only [Act.put, rhA, rhS, rhT]
      refine hTake (i := 1) (oi := ?a15) (v := ?f15) (d := ?g15) ?b15 ?c15 (by kernel_rfl) ?d15 ?e15 ?h15 (by assumption) ?_; (case b15 => simp only [rhN, rhM]; try rfl); (case c15 => (try dsimp only); rfl); (case e15 => rfl); (case d15 => exact fun _ _ _ h => h); (case h15 => intro w hSw; (try dsimp only at hSw); go_simp <;> with_reducible rfl); simp only [Act.put, rhA, rhS, rhT]
      refine hTake (i := 2) (oi := ?a16) (v := ?f16) (d := ?g16) ?b16 ?c16 (by kernel_rfl) ?d16 ?e16 ?h16 (by assumption) ?_; (case b16 => simp only [rhN, rhM]; try rfl); (case c16 => (try dsimp only); rfl); (case e16 => rfl); (case d16 => exact fun _ _ _ h => h); (case h16 => intro w hSw; (try dsimp only at hSw); go_simp <;> with_reducible rfl); simp only [Act.put, rhA, rhS, rhT]
      refine hTake (i := 3) (oi := ?a17) (v := ?f17) (d := ?g17) ?b17 ?c17 (by kernel_rfl) ?d17 ?e17 ?h17 (by assumption) ?_; (case b17 => simp only [rhN, rhM]; try rfl); (case c17 => (try dsimp only); rfl); (case e17 => rfl); (case d17 => exact fun _ _ _ h => h); (case h17 => intro w hSw; (try dsimp only at hSw); go_simp <;> with_reducible rfl); simp only [Act.put, rhA, rhS, rhT]
      refine hTake (i := 4) (oi := ?a18) (v := ?f18) (d := ?g18) ?b18 ?c18 (by kernel_rfl) ?d18 ?e18 ?h18 (by assumption) ?_; (case b18 => simp only [rhN, rhM]; try rfl); (case c18 => (try dsimp only); rfl); (case e18 => rfl); (case d18 => exact fun _ _ _ h => h); (case h18 => intro w hSw; (try dsimp only at hSw); go_simp <;> with_reducible rfl); simp only [Act.put, rhA, rhS, rhT]
      refine hTake (i := 5) (oi := ?a19) (v := ?f19) (d := ?g19) ?b19 ?c19 (by kernel_rfl) ?d19 ?e19 ?h19 (by assumption) ?_; (case b19 => simp only [rhN, rhM]; try rfl); (case c19 => (try dsimp only); rfl); (case e19 => rfl); (case d19 => exact fun _ _ _ h => h); (case h19 => intro w hSw; (try dsimp only at hSw); go_simp <;> with_reducible rfl); simp only [Act.put, rhA, rhS, rhT]
      refine hTake (i := 6) (oi := ?a20) (v := ?f20) (d := ?g20) ?b20 ?c20 (by kernel_rfl) ?d20 ?e20 ?h20 (by assumption) ?_; (case b20 => simp only [rhN, rhM]; try rfl); (case c20 => (try dsimp only); rfl); (case e20 => rfl); (case d20 => exact fun _ _ _ h => h); (case h20 => intro w hSw; (try dsimp only at hSw); go_simp <;> with_reducible rfl); simp only [Act.put, rhA, rhS, rhT]
      refine hTake (i := 7) (oi := ?a21) (v := ?f21) (d := ?g21) ?b21 ?c21 (by kernel_rfl) ?d21 ?e21 ?h21 (by assumption) ?_; (case b21 => simp only [rhN, rhM]; try rfl); (case c21 => (try dsimp only); rfl); (case e21 => rfl); (case d21 => exact fun _ _ _ h => h); (case h21 => intro w hSw; (try dsimp only at hSw); go_simp <;> with_reducible rfl); simp only [Act.put, rhA, rhS, rhT]
      refine hCall (i := 8) (o := ?a22) ?b22 (by kernel_rfl) ?c22 (fun K hK => ?d22)
      case b22 => simp only [rhN, rhM]; try rfl
      case c22 => rfl
      go_simp
      refine (eqNode_r t _ _ _ (NodeR.kept _ _ _ _ (by repeat' (first | exact Below.refl _ _ | refine Below.alloc ?_ ?_ _ | refine Below.setCell ?_ ?_ _ | refine Below.drew ?_ | (apply below_step; assumption) | (simp; done) | (simp; omega) | omega)) HR.out) (NodeR.kept _ _ _ _ (by repeat' (first | exact Below.refl _ _ | refine Below.alloc ?_ ?_ _ | refine Below.setCell ?_ ?_ _ | refine Below.drew ?_ | (apply below_step; assumption) | (simp; done) | (simp; omega) | omega)) HR'.out)).mono ?_
      rintro e w3 ⟨rfl, hb3⟩
      have hz3 := hb3.size
      try simp at hz3
      go_wp2_with fail
      refine hK.out _ _ (by (try dsimp only); exact HK.out _ (by repeat' (first | exact Below.refl _ _ | refine Below.alloc ?_ ?_ _ | refine Below.setCell ?_ ?_ _ | refine Below.drew ?_ | (apply below_step; assumption) | (simp; done) | (simp; omega) | omega))) (fun hHeld => ?_)
      clear hK K
      try simp only [Act.put, rhA, rhS, rhT]
      refine hTake (i := 9) (oi := ?a24) (v := ?f24) (d := ?g24) ?b24 ?c24 (by kernel_rfl) ?d24 ?e24 ?h24 (by assumption) ?_; (case b24 => simp only [rhN, rhM]; try rfl); (case c24 => (try dsimp only); rfl); (case e24 => rfl); (case d24 => exact fun _ _ _ h => h); (case h24 => intro w hSw; (try dsimp only at hSw); go_simp <;> with_reducible rfl); simp only [Act.put, rhA, rhS, rhT]
      refine wpAnyH_done (by kernel_rfl) ?_ _
      go_wp2_with fail
      go_roundw
      case rel => exact ⟨k + 1, by omega, by go_num, (by repeat' (first | exact Below.refl _ _ | refine Below.alloc ?_ ?_ _ | refine Below.setCell ?_ ?_ _ | refine Below.drew ?_ | (apply below_step; assumption) | (simp; done) | (simp; omega) | omega))⟩
      case measure => simp [intOf]; omega
    · go_wp2_with fail
      go_ret
      exact ⟨rfl, hB⟩
set_option maxHeartbeats 1600000 in
set_option maxRecDepth 20000 in
theorem eqBindS_same (v1 v2 : Value) (l : List BV) (w : World) (h1 : BindSl w v1 l) (h2 : BindSl w v2 l) (hlen : l.length ≤ 1048576) :
    Calls Tryz.prog 61 #[v1, v2] w fun e w' => e = .returned (.bool true) ∧ Below w.heap.size w w' := by
  obtain ⟨A, c, rfl, hA⟩ := h1.form
  obtain ⟨A', c', rfl, hA'⟩ := h2.form
  have HA := Lib.hid hA
  have HA' := Lib.hid hA'
  clear hA hA' h1 h2
  have hnn : ((l.length : Int) != (l.length : Int)) = false := by simp
  go_enter Tryz.func61, Tryz.ntmps61
  go_wp2_with fail
  go_loopw [5] (fun s5 wr => ∃ k : Nat, k ≤ l.length ∧ s5 = .int .i64 k ∧ Below w.heap.size w wr) (fun s5 _ => (l.length - intOf s5).toNat)
  case atStart => exact ⟨0, by omega, rfl, Below.refl _ _⟩
  case round =>
    obtain ⟨k, hk, rfl, hB⟩ := hrel
    have hzr := hB.size
    by_cases hlt : k < l.length
    · obtain ⟨b, off, rfl, hbw, hat⟩ := HA.out (by omega)
      obtain ⟨b', off', rfl, hbw', hat'⟩ := HA'.out (by omega)
      obtain ⟨t, ht⟩ : ∃ t, l[k]? = some t := ⟨_, List.getElem?_eq_getElem hlt⟩
      obtain ⟨ds, hR, hC⟩ := (hat'.below BindR.kept hB hbw') k t ht
      have HR' := Lib.hid hR
      obtain rfl := hR
      obtain ⟨p0, p1⟩ := bind_cells hC
      clear hC
      obtain ⟨cs, hR, hC⟩ := (hat.below BindR.kept hB hbw) k t ht
      have HR := Lib.hid hR
      obtain rfl := hR
      skip
      obtain ⟨q0, q1⟩ := bind_cells hC
      have hbr : b < wr.heap.size := by omega
      have hbr' : b' < wr.heap.size := by omega
      have HK := Lib.hid (show ∀ w', Below wr.heap.size wr w' → Below wr.heap.size wr w' ∧ w'.cell? ⟨b, off + k * 2, none⟩ = some (.int .i64 t.task) ∧ w'.cell? ⟨b, off + k * 2 + 1, none⟩ = some (.int .i64 t.node) ∧ w'.cell? ⟨b', off' + k * 2, none⟩ = some (.int .i64 t.task) ∧ w'.cell? ⟨b', off' + k * 2 + 1, none⟩ = some (.int .i64 t.node) from fun w' hb => ⟨hb, (hb.cell (p := ⟨_, _, none⟩) hbr).trans q0, (hb.cell (p := ⟨_, _, none⟩) hbr).trans q1, (hb.cell (p := ⟨_, _, none⟩) hbr').trans p0, (hb.cell (p := ⟨_, _, none⟩) hbr').trans p1⟩)
      have hlti : (k : Int) < (l.length : Int) := by omega
      have hk0 : (0 : Int) ≤ (k : Int) := by omega
      clear hat hat' ht hC q0 q1 p0 p1
      go_wp2_with fail
      refine wp_region_held_drew (S := (fun w' => Below wr.heap.size wr w' ∧ w'.cell? ⟨b, off + k * 2, none⟩ = some (.int .i64 t.task) ∧ w'.cell? ⟨b, off + k * 2 + 1, none⟩ = some (.int .i64 t.node) ∧ w'.cell? ⟨b', off' + k * 2, none⟩ = some (.int .i64 t.task) ∧ w'.cell? ⟨b', off' + k * 2 + 1, none⟩ = some (.int .i64 t.node))) (by kernel_rfl) (by (try dsimp only); exact HK.out _ (by repeat' (first | exact Below.refl _ _ | refine Below.alloc ?_ ?_ _ | refine Below.setCell ?_ ?_ _ | refine Below.drew ?_ | (apply below_step; assumption) | (simp; done) | (simp; omega) | omega))) (fun hHeld => ?_)
      refine hTake (i := 0) (oi := ?a26) (v := ?f26) (d := ?g26) ?b26 ?c26 (by kernel_rfl) ?d26 ?e26 ?h26 (by assumption) ?_; (case b26 => simp only [rhN]; try rfl); (case c26 => (try dsimp only); rfl); (case e26 => rfl); (case d26 => exact fun _ _ _ h => h); (case h26 => intro w hSw; (try dsimp only at hSw); go_simp <;> with_reducible rfl); simp only [Act.put, rhA, rhS, rhT]
      refine hTake (i := 1) (oi := ?a27) (v := ?f27) (d := ?g27) ?b27 ?c27 (by kernel_rfl) ?d27 ?e27 ?h27 (by assumption) ?_; (case b27 => simp only [rhN, rhM]; try rfl); (case c27 => (try dsimp only); rfl); (case e27 => rfl); (case d27 => exact fun _ _ _ h => h); (case h27 => intro w hSw; (try dsimp only at hSw); go_simp <;> with_reducible rfl); simp only [Act.put, rhA, rhS, rhT]
      refine hTake (i := 2) (oi := ?a28) (v := ?f28) (d := ?g28) ?b28 ?c28 (by kernel_rfl) ?d28 ?e28 ?h28 (by assumption) ?_; (case b28 => simp only [rhN, rhM]; try rfl); (case c28 => (try dsimp only); rfl); (case e28 => rfl); (case d28 => exact fun _ _ _ h => h); (case h28 => intro w hSw; (try dsimp only at hSw); go_simp <;> with_reducible rfl); simp only [Act.put, rhA, rhS, rhT]
      refine hTake (i := 3) (oi := ?a29) (v := ?f29) (d := ?g29) ?b29 ?c29 (by kernel_rfl) ?d29 ?e29 ?h29 (by assumption) ?_; (case b29 => simp only [rhN, rhM]; try rfl); (case c29 => (try dsimp only); rfl); (case e29 => rfl); (case d29 => exact fun _ _ _ h => h); (case h29 => intro w hSw; (try dsimp only at hSw); go_simp <;> with_reducible rfl); simp only [Act.put, rhA, rhS, rhT]
      refine hTake (i := 4) (oi := ?a30) (v := ?f30) (d := ?g30) ?b30 ?c30 (by kernel_rfl) ?d30 ?e30 ?h30 (by assumption) ?_; (case b30 => simp only [rhN, rhM]; try rfl); (case c30 => (try dsimp only); rfl); (case e30 => rfl); (case d30 => exact fun _ _ _ h => h); (case h30 => intro w hSw; (try dsimp only at hSw); go_simp <;> with_reducible rfl); simp only [Act.put, rhA, rhS, rhT]
      refine hTake (i := 5) (oi := ?a31) (v := ?f31) (d := ?g31) ?b31 ?c31 (by kernel_rfl) ?d31 ?e31 ?h31 (by assumption) ?_; (case b31 => simp only [rhN, rhM]; try rfl); (case c31 => (try dsimp only); rfl); (case e31 => rfl); (case d31 => exact fun _ _ _ h => h); (case h31 => intro w hSw; (try dsimp only at hSw); go_simp <;> with_reducible rfl); simp only [Act.put, rhA, rhS, rhT]
      refine hTake (i := 6) (oi := ?a32) (v := ?f32) (d := ?g32) ?b32 ?c32 (by kernel_rfl) ?d32 ?e32 ?h32 (by assumption) ?_; (case b32 => simp only [rhN, rhM]; try rfl); (case c32 => (try dsimp only); rfl); (case e32 => rfl); (case d32 => exact fun _ _ _ h => h); (case h32 => intro w hSw; (try dsimp only at hSw); go_simp <;> with_reducible rfl); simp only [Act.put, rhA, rhS, rhT]
      refine hTake (i := 7) (oi := ?a33) (v := ?f33) (d := ?g33) ?b33 ?c33 (by kernel_rfl) ?d33 ?e33 ?h33 (by assumption) ?_; (case b33 => simp only [rhN, rhM]; try rfl); (case c33 => (try dsimp only); rfl); (case e33 => rfl); (case d33 => exact fun _ _ _ h => h); (case h33 => intro w hSw; (try dsimp only at hSw); go_simp <;> with_reducible rfl); simp only [Act.put, rhA, rhS, rhT]
      refine hCall (i := 8) (o := ?a34) ?b34 (by kernel_rfl) ?c34 (fun K hK => ?d34)
      case b34 => simp only [rhN, rhM]; try rfl
      case c34 => rfl
      go_simp
      refine (eqBind_r t _ _ _ (BindR.kept _ _ _ _ (by repeat' (first | exact Below.refl _ _ | refine Below.alloc ?_ ?_ _ | refine Below.setCell ?_ ?_ _ | refine Below.drew ?_ | (apply below_step; assumption) | (simp; done) | (simp; omega) | omega)) HR.out) (BindR.kept _ _ _ _ (by repeat' (first | exact Below.refl _ _ | refine Below.alloc ?_ ?_ _ | refine Below.setCell ?_ ?_ _ | refine Below.drew ?_ | (apply below_step; assumption) | (simp; done) | (simp; omega) | omega)) HR'.out)).mono ?_
      rintro e w3 ⟨rfl, hb3⟩
      have hz3 := hb3.size
      try simp at hz3
      go_wp2_with fail
      refine hK.out _ _ (by (try dsimp only); exact HK.out _ (by repeat' (first | exact Below.refl _ _ | refine Below.alloc ?_ ?_ _ | refine Below.setCell ?_ ?_ _ | refine Below.drew ?_ | (apply below_step; assumption) | (simp; done) | (simp; omega) | omega))) (fun hHeld => ?_)
      clear hK K
      try simp only [Act.put, rhA, rhS, rhT]
      refine hTake (i := 9) (oi := ?a36) (v := ?f36) (d := ?g36) ?b36 ?c36 (by kernel_rfl) ?d36 ?e36 ?h36 (by assumption) ?_; (case b36 => simp only [rhN, rhM]; try rfl); (case c36 => (try dsimp only); rfl); (case e36 => rfl); (case d36 => exact fun _ _ _ h => h); (case h36 => intro w hSw; (try dsimp only at hSw); go_simp <;> with_reducible rfl); simp only [Act.put, rhA, rhS, rhT]
      refine wpAnyH_done (by kernel_rfl) ?_ _
      go_wp2_with fail
      go_roundw
      case rel => exact ⟨k + 1, by omega, by go_num, (by repeat' (first | exact Below.refl _ _ | refine Below.alloc ?_ ?_ _ | refine Below.setCell ?_ ?_ _ | refine Below.drew ?_ | (apply below_step; assumption) | (simp; done) | (simp; omega) | omega))⟩
      case measure => simp [intOf]; omega
    · go_wp2_with fail
      go_ret
      exact ⟨rfl, hB⟩

set_option maxHeartbeats 800000 in
theorem eqCluster_same (c : CV) (a0 a1 a2 b0 b1 b2 : Value) (w : World) (h : CluR w c a0 a1 a2) (k : CluR w c b0 b1 b2) :
    Calls Tryz.prog 17 #[.agg #[a0, a1, a2], .agg #[b0, b1, b2]] w fun e w' => e = .returned (.bool true) ∧ Below w.heap.size w w' := by
  have HC := Lib.hid h
  have HD := Lib.hid k
  obtain ⟨h0, h1, h2, l0, l1, l2⟩ := h
  obtain ⟨k0, k1, k2, _⟩ := k
  obtain ⟨D0, d0, rfl, _⟩ := h0.form
  obtain ⟨D1, d1, rfl, _⟩ := h1.form
  obtain ⟨D2, d2, rfl, _⟩ := h2.form
  obtain ⟨E0, e0, rfl, _⟩ := k0.form
  obtain ⟨E1, e1, rfl, _⟩ := k1.form
  obtain ⟨E2, e2, rfl, _⟩ := k2.form
  have L := Lib.hid (And.intro l0 (And.intro l1 l2))
  clear h0 h1 h2 k0 k1 k2 l0 l1 l2
  go_enter Tryz.func17, Tryz.ntmps17
  go_wp2_with fail
  have hX : Below w.heap.size w ((w.alloc (.cells #[.slice D0 c.tasks.length d0, .slice D1 c.nodes.length d1, .slice D2 c.binds.length d2] 39)).alloc (.cells #[.slice E0 c.tasks.length e0, .slice E1 c.nodes.length e1, .slice E2 c.binds.length e2] 39)) := (by repeat' (first | exact Below.refl _ _ | refine Below.alloc ?_ ?_ _ | refine Below.setCell ?_ ?_ _ | refine Below.drew ?_ | (apply below_step; assumption) | (simp; done) | (simp; omega) | omega))
  refine (eqTaskS_same _ _ c.tasks _ (HC.out.below hX).1 (HD.out.below hX).1 L.out.1).mono ?_
  rintro e w1 ⟨rfl, hb1⟩
  have hC1 := below_of hX hb1
  have B0 := ((BlockIs.new w 39 #[.slice D0 c.tasks.length d0, .slice D1 c.nodes.length d1, .slice D2 c.binds.length d2]).alloc (.cells #[.slice E0 c.tasks.length e0, .slice E1 c.nodes.length e1, .slice E2 c.binds.length e2] 39)).below hb1 (by simp; omega)
  have B1 : BlockIs w1 (w.heap.size + 1) 39 #[.slice E0 c.tasks.length e0, .slice E1 c.nodes.length e1, .slice E2 c.binds.length e2] := (BlockIs.new' (by simp)).below hb1 (by simp)
  have x1 := B0.cell 1
  have y1 := B1.cell 1
  simp at x1 y1
  have HB0 := Lib.hid B0
  have HB1 := Lib.hid B1
  clear B0 B1 hb1
  go_wp2_with fail
  refine (eqNodeS_same _ _ c.nodes _ (HC.out.below hC1).2.1 (HD.out.below hC1).2.1 L.out.2.1).mono ?_
  rintro e w2 ⟨rfl, hb2⟩
  have hC2 := below_of hC1 hb2
  have B0 := HB0.out.below hb2 HB0.out.lt
  have B1 := HB1.out.below hb2 HB1.out.lt
  have x2 := B0.cell 2
  have y2 := B1.cell 2
  simp at x2 y2
  clear B0 B1 hb2 x1 y1
  go_wp2_with fail
  refine (eqBindS_same _ _ c.binds _ (HC.out.below hC2).2.2.1 (HD.out.below hC2).2.2.1 L.out.2.2).mono ?_
  rintro e w3 ⟨rfl, hb3⟩
  have hC3 := below_of hC2 hb3
  go_wp2_with fail
  go_ret
  exact ⟨rfl, hC3⟩
end Go.Proofs.YtocfgejceoenmaaGreatDoor
