/- The contracts of Used, Free, NodeOf and of their models. Amounts in plain Lean: shares. The contracts of ResShare and of its model. The contract of ResShare. Boxes that a call has made, behind another call. The contracts of takes, hasRoom, scoreOn, Score. The contracts of the model's l04Score and Score. The second sentinel's cell out of 'laid'. Memory of a call's own, block by block: rows, tasks, nodes, bindings; append. Rows of a call's own, element by element: which blocks turn; rows split and joined; cells of one element set anew. A function value that tells of each element whether p holds; the first place at which it holds: slices.IndexFunc over tasks, nodes and bindings. Pools in plain Lean and in memory; the contracts of PoolOk and of its model. slices.IndexFunc at pools and slices.ContainsFunc at nodes and pools, by a function value that tells of each element whether p holds. The contract of the model's l03Copy. What the laws' marks make of a list of labels, ints, tasks, nodes, bindings, in plain Lean. The laws' helpers toIntS, toTask, toNode, toTaskS, toNodeS, toBindS: their results own their memory, block by block. The laws' helpers over a pool: szPool, toPool, eqPool; a pool as an argument, opened. -/
import Derived.Test.YtmkpajjnjgnmkaaGreatDoorCluSOk
import Derived.Test.YtmkpajjnjgnmkaaGreatDoorMg02
import Derived.Test.YtmkpajjnjgnmkaaGreatDoorMg03
import Derived.Deep.RegionHeld3
import Derived.Deep.QuietTactic
import Derived.BigQuiet
import Derived.WalkSmall
import Derived.Maps.AppendAt
import Derived.Laws.OwnMore
import Derived.OwnWalk
import Derived.Shelf.Abstract
import Derived.Lib.SliceRun
import Derived.Deep.RegionLaw
namespace Go.Proofs.YtmkpajjnjgnmkaaGreatDoor
open Go.RowKit

def usedG (c : CV) (z : Int) : RV × Bool := if clusterOk c && (fstBy NV.id c.nodes z).isSome then usedOf c z else (RV.zero, false)
def freeG (c : CV) (z : Int) : RV × Bool := match fstBy NV.id c.nodes z with
  | some n => if clusterOk c then freeOf c n else (RV.zero, false)
  | none => (RV.zero, false)
def nodeOfB (c : CV) (z : Int) : Int := ((fstBy BV.task c.binds z).getD BV.zero).node
def nodeOfG (c : CV) (z : Int) : Int := if clusterOk c then nodeOfB c z else 0
theorem fitsAll_mem {c : CV} {l : List NV} (h : fitsAll c l = true) {n : NV} (hn : n ∈ l) : (freeOf c n).2 = true := by
  induction l with
  | nil => cases hn
  | cons x r ih =>
    simp only [fitsAll, Bool.and_eq_true] at h
    rcases List.mem_cons.1 hn with rfl | hn
    · exact h.1
    · exact ih h.2 hn
theorem clusterOk_fits {c : CV} (h : clusterOk c = true) : fitsAll c c.nodes = true := by simp only [clusterOk, Bool.and_eq_true] at h; exact h.2
theorem clusterOk_binds {c : CV} (h : clusterOk c = true) : bindsFrom c 0 c.binds = true := by simp only [clusterOk, Bool.and_eq_true] at h; exact h.1.2
theorem freeOf_ok {c : CV} {n : NV} (h : (freeOf c n).2 = true) : freeOf c n = (resSub n.cap (usedOf c n.id).1, true) := by
  unfold freeOf at h ⊢
  split
  · rename_i hu; rw [if_pos hu] at h; simp only at h; rw [h]
  · rename_i hu; rw [if_neg hu] at h; cases h
theorem freeG_ok {c : CV} {z : Int} {n : NV} (h : clusterOk c = true) (hn : fstBy NV.id c.nodes z = some n) : freeG c z = (resSub n.cap (usedOf c z).1, true) := by
  have hz := fstBy_key hn
  unfold freeG
  rw [hn]
  simp only [h, if_true]
  rw [freeOf_ok (fitsAll_mem (clusterOk_fits h) (fstBy_mem hn)), hz]

theorem res_put {w : World} {g : Nat} {t : TypeId} {a b c : Value} (h : BlockIs w g t #[a, b, c]) (r : RV) : BlockIs (((w.setCell ⟨g, 0, none⟩ (.int .i64 r.c)).setCell ⟨g, 1, none⟩ (.int .i64 r.m)).setCell ⟨g, 2, none⟩ (.int .i64 r.p)) g t #[.int .i64 r.c, .int .i64 r.m, .int .i64 r.p] := by
  simpa using ((h.put 0 (.int .i64 r.c)).put 1 (.int .i64 r.m)).put 2 (.int .i64 r.p)
theorem res_below {B : Nat} {a w : World} {g : Nat} (h : Below B a w) (hg : B ≤ g) (u v x : Value) : Below B a (((w.setCell ⟨g, 0, none⟩ (u)).setCell ⟨g, 1, none⟩ (v)).setCell ⟨g, 2, none⟩ (x)) := ((h.setCell hg _).setCell hg _).setCell hg _

set_option maxHeartbeats 1600000 in
theorem Used_any (c : CV) (a0 a1 a2 : Value) (z : Int) (w : World) (x : Addr) (hg : ErrAt x w) (hc : CluR w c a0 a1 a2) :
    Calls Tryz.prog 38 #[.agg #[a0, a1, a2], .int .i64 z] w (RetR (usedG c z).1 (usedG c z).2 w) := by
  have hfind := fun w1 hw1 => findNode_any c a0 a1 a2 z w w1 hw1 hc
  have hok := fun w1 hg1 h => ClusterOk_any c a0 a1 a2 w1 x hg1 h
  have hus := fun w1 hw1 hg1 => usedOn_any c a0 a1 a2 z w w1 hw1 x hg1 hc
  have hG : usedG c z = if clusterOk c && (fstBy NV.id c.nodes z).isSome then ((usedOf c z).1, (usedOf c z).2) else (RV.zero, false) := rfl
  generalize fstBy NV.id c.nodes z = o at hfind hG
  generalize clusterOk c = ok at hok hG
  generalize (usedOf c z).1 = u at hus hG
  generalize (usedOf c z).2 = uo at hus hG
  obtain ⟨D0, D1, D2, e0, e1, e2, rfl, rfl, rfl, hF⟩ := hc.full
  have HC := Lib.hid hc
  have HFI := Lib.hid hfind
  have HOK := Lib.hid hok
  have HUS := Lib.hid hus
  have HR := Lib.hid hG
  have HG := Lib.hid hg
  clear hfind hok hus hG hg hc hF
  go_enter Tryz.func38, Tryz.ntmps38
  go_wp2_with fail
  have hX : Below w.heap.size w ((w.alloc (.cells #[.slice D0 c.tasks.length e0, .slice D1 c.nodes.length e1, .slice D2 c.binds.length e2] 35)).alloc (.cells #[.int .i64 0, .int .i64 0, .int .i64 0] 57)) := (by repeat' (first | exact Below.refl _ _ | refine Below.alloc ?_ ?_ _ | refine Below.setCell ?_ ?_ _ | refine Below.drew ?_ | (apply below_step; assumption) | (simp; done) | (simp; omega) | omega))
  refine (HFI.out _ hX).mono ?_
  rintro e w2 ⟨cs, rfl, hR, hb2⟩
  have hC2 := below_of hX hb2
  have hz2 := hb2.size
  simp at hz2
  have BC : BlockIs w2 w.heap.size 35 #[.slice D0 c.tasks.length e0, .slice D1 c.nodes.length e1, .slice D2 c.binds.length e2] := ((BlockIs.new w _ _).alloc _).below hb2 (by simp; omega)
  have BR : BlockIs w2 (w.heap.size + 1) 57 #[.int .i64 0, .int .i64 0, .int .i64 0] := (BlockIs.new' (by simp)).below hb2 (by simp)
  generalize o.getD NV.zero = t at hR
  obtain ⟨v1, v2, rfl, sl, si, m1, m2⟩ := hR
  obtain ⟨A1, c1, rfl, _⟩ := sl.form
  obtain ⟨A2, c2, rfl, _⟩ := si.form
  have g0 := BC.cell 0
  have g1 := BC.cell 1
  have g2 := BC.cell 2
  have r0 := BR.cell 0
  have r1 := BR.cell 1
  have r2 := BR.cell 2
  have rf := BR.frozen
  have rl := BR.lt
  have cl := BC.lt
  simp at g0 g1 g2 r0 r1 r2
  have HBC := Lib.hid BC
  have HBR := Lib.hid BR
  clear BC BR hb2 hX sl si m1 m2
  cases o with
  | none =>
    go_wp2_with fail
    have hZ := (res_put HBR.out RV.zero).alloc (.cells #[.int .i64 t.id, .int .i64 t.pool, .int .i64 t.cap.c, .int .i64 t.cap.m, .int .i64 t.cap.p, .slice A1 t.labs.length c1, .slice A2 t.taints.length c2, .bool t.cordon] 83)
    have hX' := (res_below (u := .int .i64 RV.zero.c) (v := .int .i64 RV.zero.m) (x := .int .i64 RV.zero.p) hC2 (g := w.heap.size + 1) (by omega)).alloc (o := .cells #[.int .i64 t.id, .int .i64 t.pool, .int .i64 t.cap.c, .int .i64 t.cap.m, .int .i64 t.cap.p, .slice A1 t.labs.length c1, .slice A2 t.taints.length c2, .bool t.cordon] 83) (by simp [World.setCell]; omega)
    simp only [RV.zero] at hZ hX'
    generalize World.alloc (((w2.setCell ⟨w.heap.size + 1, 0, none⟩ (.int .i64 0)).setCell ⟨w.heap.size + 1, 1, none⟩ (.int .i64 0)).setCell ⟨w.heap.size + 1, 2, none⟩ (.int .i64 0)) (.cells #[.int .i64 t.id, .int .i64 t.pool, .int .i64 t.cap.c, .int .i64 t.cap.m, .int .i64 t.cap.p, .slice A1 t.labs.length c1, .slice A2 t.taints.length c2, .bool t.cordon] 83) = Y at hZ hX' ⊢
    have z0 := hZ.cell 0
    have z1 := hZ.cell 1
    have z2 := hZ.cell 2
    simp at z0 z1 z2
    exact bodyPost_ret (v := .tuple #[.agg #[.int .i64 RV.zero.c, .int .i64 RV.zero.m, .int .i64 RV.zero.p], .bool false]) (by simp [results, Tryz.results38, go_sem, z0, z1, z2, RV.zero]) rfl ⟨by rw [HR.out] <;> simp, hX'⟩
  | some n =>
    go_wp2_with fail
    have hX2 : Below w2.heap.size w2 (w2.alloc (.cells #[.int .i64 t.id, .int .i64 t.pool, .int .i64 t.cap.c, .int .i64 t.cap.m, .int .i64 t.cap.p, .slice A1 t.labs.length c1, .slice A2 t.taints.length c2, .bool t.cordon] 83)) := (by repeat' (first | exact Below.refl _ _ | refine Below.alloc ?_ ?_ _ | refine Below.setCell ?_ ?_ _ | refine Below.drew ?_ | (apply below_step; assumption) | (simp; done) | (simp; omega) | omega))
    have hCX2 := below_of hC2 hX2
    refine (HOK.out _ (HG.out.below hCX2 (Nat.le_refl _)) (HC.out.below hCX2)).mono ?_
    rintro e w3 ⟨rfl, hb3⟩
    have hD3 := below_of hX2 hb3
    have hC3 := below_of hC2 hD3
    have hz3 := hD3.size
    have BC := HBC.out.below hD3 HBC.out.lt
    have BR := HBR.out.below hD3 HBR.out.lt
    have g0 := BC.cell 0
    have g1 := BC.cell 1
    have g2 := BC.cell 2
    have r0 := BR.cell 0
    have r1 := BR.cell 1
    have r2 := BR.cell 2
    have rf := BR.frozen
    have rl := BR.lt
    have cl := BC.lt
    simp at g0 g1 g2 r0 r1 r2
    have HBR3 := Lib.hid BR
    clear BC BR hb3 hX2 hCX2
    cases ok
    · go_wp2_with fail
      have hZ := res_put HBR3.out RV.zero
      have hX' := res_below (u := .int .i64 RV.zero.c) (v := .int .i64 RV.zero.m) (x := .int .i64 RV.zero.p) hC3 (g := w.heap.size + 1) (by omega)
      simp only [RV.zero] at hZ hX'
      generalize (((w3.setCell ⟨w.heap.size + 1, 0, none⟩ (.int .i64 0)).setCell ⟨w.heap.size + 1, 1, none⟩ (.int .i64 0)).setCell ⟨w.heap.size + 1, 2, none⟩ (.int .i64 0)) = Y at hZ hX' ⊢
      have z0 := hZ.cell 0
      have z1 := hZ.cell 1
      have z2 := hZ.cell 2
      simp at z0 z1 z2
      exact bodyPost_ret (v := .tuple #[.agg #[.int .i64 RV.zero.c, .int .i64 RV.zero.m, .int .i64 RV.zero.p], .bool false]) (by simp [results, Tryz.results38, go_sem, z0, z1, z2, RV.zero]) rfl ⟨by rw [HR.out] <;> simp, hX'⟩
    · go_wp2_with fail
      refine (HUS.out _ hC3 (HG.out.below hC3 (Nat.le_refl _))).mono ?_
      rintro e w4 ⟨rfl, hb4⟩
      have hC4 := below_of hC3 hb4
      have BR := HBR3.out.below hb4 HBR3.out.lt
      have r0 := BR.cell 0
      have r1 := BR.cell 1
      have r2 := BR.cell 2
      have rf := BR.frozen
      simp at r0 r1 r2
      have HBR4 := Lib.hid BR
      clear BR hb4
      go_wp2_with fail
      have hZ := res_put HBR4.out u
      have hX' := res_below (u := .int .i64 u.c) (v := .int .i64 u.m) (x := .int .i64 u.p) hC4 (g := w.heap.size + 1) (by omega)
      generalize (((w4.setCell ⟨w.heap.size + 1, 0, none⟩ (.int .i64 u.c)).setCell ⟨w.heap.size + 1, 1, none⟩ (.int .i64 u.m)).setCell ⟨w.heap.size + 1, 2, none⟩ (.int .i64 u.p)) = Y at hZ hX' ⊢
      have z0 := hZ.cell 0
      have z1 := hZ.cell 1
      have z2 := hZ.cell 2
      simp at z0 z1 z2
      exact bodyPost_ret (v := .tuple #[.agg #[.int .i64 u.c, .int .i64 u.m, .int .i64 u.p], .bool uo]) (by simp [results, Tryz.results38, go_sem, z0, z1, z2]) rfl ⟨by rw [HR.out] <;> simp, hX'⟩
set_option maxHeartbeats 1600000 in
theorem Free_any (c : CV) (a0 a1 a2 : Value) (z : Int) (w : World) (x : Addr) (hg : ErrAt x w) (hc : CluR w c a0 a1 a2) :
    Calls Tryz.prog 41 #[.agg #[a0, a1, a2], .int .i64 z] w (RetR (freeG c z).1 (freeG c z).2 w) := by
  have hfind := fun w1 hw1 => findNode_any c a0 a1 a2 z w w1 hw1 hc
  have hok := fun w1 hg1 h => ClusterOk_any c a0 a1 a2 w1 x hg1 h
  have hus := fun n u1 u2 w1 hw1 hg1 hn1 hn2 => freeOn_any c n a0 a1 a2 u1 u2 w w1 hw1 x hg1 hc hn1 hn2
  have hG : freeG c z = match fstBy NV.id c.nodes z with
    | some n => if clusterOk c then ((freeOf c n).1, (freeOf c n).2) else (RV.zero, false)
    | none => (RV.zero, false) := rfl
  generalize fstBy NV.id c.nodes z = o at hfind hG
  generalize clusterOk c = ok at hok hG
  obtain ⟨D0, D1, D2, e0, e1, e2, rfl, rfl, rfl, hF⟩ := hc.full
  have HC := Lib.hid hc
  have HFI := Lib.hid hfind
  have HOK := Lib.hid hok
  have HUS := Lib.hid hus
  have HR := Lib.hid hG
  have HG := Lib.hid hg
  clear hfind hok hus hG hg hc hF
  go_enter Tryz.func41, Tryz.ntmps41
  go_wp2_with fail
  have hX : Below w.heap.size w ((w.alloc (.cells #[.slice D0 c.tasks.length e0, .slice D1 c.nodes.length e1, .slice D2 c.binds.length e2] 35)).alloc (.cells #[.int .i64 0, .int .i64 0, .int .i64 0] 57)) := (by repeat' (first | exact Below.refl _ _ | refine Below.alloc ?_ ?_ _ | refine Below.setCell ?_ ?_ _ | refine Below.drew ?_ | (apply below_step; assumption) | (simp; done) | (simp; omega) | omega))
  refine (HFI.out _ hX).mono ?_
  rintro e w2 ⟨cs, rfl, hR, hb2⟩
  have hC2 := below_of hX hb2
  have hz2 := hb2.size
  simp at hz2
  have BC : BlockIs w2 w.heap.size 35 #[.slice D0 c.tasks.length e0, .slice D1 c.nodes.length e1, .slice D2 c.binds.length e2] := ((BlockIs.new w _ _).alloc _).below hb2 (by simp; omega)
  have BR : BlockIs w2 (w.heap.size + 1) 57 #[.int .i64 0, .int .i64 0, .int .i64 0] := (BlockIs.new' (by simp)).below hb2 (by simp)
  have g0 := BC.cell 0
  have g1 := BC.cell 1
  have g2 := BC.cell 2
  have r0 := BR.cell 0
  have r1 := BR.cell 1
  have r2 := BR.cell 2
  have rf := BR.frozen
  have rl := BR.lt
  have cl := BC.lt
  simp at g0 g1 g2 r0 r1 r2
  have HBC := Lib.hid BC
  have HBR := Lib.hid BR
  clear BC BR hb2 hX
  cases o with
  | none =>
    generalize (none : Option NV).getD NV.zero = t at hR
    obtain ⟨v1, v2, rfl, sl, si, m1, m2⟩ := hR
    obtain ⟨A1, c1, rfl, _⟩ := sl.form
    obtain ⟨A2, c2, rfl, _⟩ := si.form
    clear sl si m1 m2
    go_wp2_with fail
    have hZ := (res_put HBR.out RV.zero).alloc (.cells #[.int .i64 t.id, .int .i64 t.pool, .int .i64 t.cap.c, .int .i64 t.cap.m, .int .i64 t.cap.p, .slice A1 t.labs.length c1, .slice A2 t.taints.length c2, .bool t.cordon] 83)
    have hX' := (res_below (u := .int .i64 RV.zero.c) (v := .int .i64 RV.zero.m) (x := .int .i64 RV.zero.p) hC2 (g := w.heap.size + 1) (by omega)).alloc (o := .cells #[.int .i64 t.id, .int .i64 t.pool, .int .i64 t.cap.c, .int .i64 t.cap.m, .int .i64 t.cap.p, .slice A1 t.labs.length c1, .slice A2 t.taints.length c2, .bool t.cordon] 83) (by simp [World.setCell]; omega)
    simp only [RV.zero] at hZ hX'
    generalize World.alloc (((w2.setCell ⟨w.heap.size + 1, 0, none⟩ (.int .i64 0)).setCell ⟨w.heap.size + 1, 1, none⟩ (.int .i64 0)).setCell ⟨w.heap.size + 1, 2, none⟩ (.int .i64 0)) (.cells #[.int .i64 t.id, .int .i64 t.pool, .int .i64 t.cap.c, .int .i64 t.cap.m, .int .i64 t.cap.p, .slice A1 t.labs.length c1, .slice A2 t.taints.length c2, .bool t.cordon] 83) = Y at hZ hX' ⊢
    have z0 := hZ.cell 0
    have z1 := hZ.cell 1
    have z2 := hZ.cell 2
    simp at z0 z1 z2
    exact bodyPost_ret (v := .tuple #[.agg #[.int .i64 RV.zero.c, .int .i64 RV.zero.m, .int .i64 RV.zero.p], .bool false]) (by simp [results, Tryz.results41, go_sem, z0, z1, z2, RV.zero]) rfl ⟨by rw [HR.out] <;> simp, hX'⟩
  | some t =>
    have hR : NodeR w t cs := hR
    obtain ⟨v1, v2, rfl, sl, si, m1, m2⟩ := hR
    have hfr := fun w1 hw1 hg1 => HUS.out t v1 v2 w1 hw1 hg1 sl si
    generalize hu1 : (freeOf c t).1 = u at hfr
    generalize hu2 : (freeOf c t).2 = uo at hfr
    have HFR := Lib.hid hfr
    have HU := Lib.hid (And.intro hu1 hu2)
    obtain ⟨A1, c1, rfl, _⟩ := sl.form
    obtain ⟨A2, c2, rfl, _⟩ := si.form
    clear sl si m1 m2 hfr hu1 hu2 HUS
    go_wp2_with fail
    have hX2 : Below w2.heap.size w2 (w2.alloc (.cells #[.int .i64 t.id, .int .i64 t.pool, .int .i64 t.cap.c, .int .i64 t.cap.m, .int .i64 t.cap.p, .slice A1 t.labs.length c1, .slice A2 t.taints.length c2, .bool t.cordon] 83)) := (by repeat' (first | exact Below.refl _ _ | refine Below.alloc ?_ ?_ _ | refine Below.setCell ?_ ?_ _ | refine Below.drew ?_ | (apply below_step; assumption) | (simp; done) | (simp; omega) | omega))
    have hCX2 := below_of hC2 hX2
    refine (HOK.out _ (HG.out.below hCX2 (Nat.le_refl _)) (HC.out.below hCX2)).mono ?_
    rintro e w3 ⟨rfl, hb3⟩
    have hD3 := below_of hX2 hb3
    have hC3 := below_of hC2 hD3
    have hz3 := hD3.size
    have BC := HBC.out.below hD3 HBC.out.lt
    have BR := HBR.out.below hD3 HBR.out.lt
    have g0 := BC.cell 0
    have g1 := BC.cell 1
    have g2 := BC.cell 2
    have r0 := BR.cell 0
    have r1 := BR.cell 1
    have r2 := BR.cell 2
    have rf := BR.frozen
    have rl := BR.lt
    have cl := BC.lt
    simp at g0 g1 g2 r0 r1 r2
    have HBR3 := Lib.hid BR
    have BN := (BlockIs.new w2 83 #[.int .i64 t.id, .int .i64 t.pool, .int .i64 t.cap.c, .int .i64 t.cap.m, .int .i64 t.cap.p, .slice A1 t.labs.length c1, .slice A2 t.taints.length c2, .bool t.cordon]).below hb3 (by simp)
    have b0 := BN.cell 0
    have b1 := BN.cell 1
    have b2 := BN.cell 2
    have b3 := BN.cell 3
    have b4 := BN.cell 4
    have b5 := BN.cell 5
    have b6 := BN.cell 6
    have b7 := BN.cell 7
    have bl := BN.lt
    simp at b0 b1 b2 b3 b4 b5 b6 b7
    clear BC BR BN hb3 hX2 hCX2
    cases ok
    · go_wp2_with fail
      have hZ := res_put HBR3.out RV.zero
      have hX' := res_below (u := .int .i64 RV.zero.c) (v := .int .i64 RV.zero.m) (x := .int .i64 RV.zero.p) hC3 (g := w.heap.size + 1) (by omega)
      simp only [RV.zero] at hZ hX'
      generalize (((w3.setCell ⟨w.heap.size + 1, 0, none⟩ (.int .i64 0)).setCell ⟨w.heap.size + 1, 1, none⟩ (.int .i64 0)).setCell ⟨w.heap.size + 1, 2, none⟩ (.int .i64 0)) = Y at hZ hX' ⊢
      have z0 := hZ.cell 0
      have z1 := hZ.cell 1
      have z2 := hZ.cell 2
      simp at z0 z1 z2
      exact bodyPost_ret (v := .tuple #[.agg #[.int .i64 RV.zero.c, .int .i64 RV.zero.m, .int .i64 RV.zero.p], .bool false]) (by simp [results, Tryz.results41, go_sem, z0, z1, z2, RV.zero]) rfl ⟨by rw [HR.out] <;> simp, hX'⟩
    · go_wp2_with fail
      refine (HFR.out _ hC3 (HG.out.below hC3 (Nat.le_refl _))).mono ?_
      rintro e w4 ⟨rfl, hb4⟩
      have hC4 := below_of hC3 hb4
      have BR := HBR3.out.below hb4 HBR3.out.lt
      have r0 := BR.cell 0
      have r1 := BR.cell 1
      have r2 := BR.cell 2
      have rf := BR.frozen
      simp at r0 r1 r2
      have HBR4 := Lib.hid BR
      clear BR hb4
      go_wp2_with fail
      have hZ := res_put HBR4.out u
      have hX' := res_below (u := .int .i64 u.c) (v := .int .i64 u.m) (x := .int .i64 u.p) hC4 (g := w.heap.size + 1) (by omega)
      generalize (((w4.setCell ⟨w.heap.size + 1, 0, none⟩ (.int .i64 u.c)).setCell ⟨w.heap.size + 1, 1, none⟩ (.int .i64 u.m)).setCell ⟨w.heap.size + 1, 2, none⟩ (.int .i64 u.p)) = Y at hZ hX' ⊢
      have z0 := hZ.cell 0
      have z1 := hZ.cell 1
      have z2 := hZ.cell 2
      simp at z0 z1 z2
      exact bodyPost_ret (v := .tuple #[.agg #[.int .i64 u.c, .int .i64 u.m, .int .i64 u.p], .bool uo]) (by simp [results, Tryz.results41, go_sem, z0, z1, z2]) rfl ⟨by rw [HR.out]; simp [HU.out.1, HU.out.2], hX'⟩
set_option maxHeartbeats 1600000 in
theorem NodeOf_any (c : CV) (a0 a1 a2 : Value) (z : Int) (w : World) (x : Addr) (hg : ErrAt x w) (hc : CluR w c a0 a1 a2) :
    Calls Tryz.prog 43 #[.agg #[a0, a1, a2], .int .i64 z] w fun e w' => e = .returned (.int .i64 (nodeOfG c z)) ∧ Below w.heap.size w w' := by
  have hfind := fun w1 hw1 => findBind_any c a0 a1 a2 z w w1 hw1 hc
  have hok := fun w1 hg1 h => ClusterOk_any c a0 a1 a2 w1 x hg1 h
  have hG : nodeOfG c z = if clusterOk c then ((fstBy BV.task c.binds z).getD BV.zero).node else 0 := rfl
  generalize fstBy BV.task c.binds z = o at hfind hG
  generalize clusterOk c = ok at hok hG
  obtain ⟨D0, D1, D2, e0, e1, e2, rfl, rfl, rfl, hF⟩ := hc.full
  have HC := Lib.hid hc
  have HFI := Lib.hid hfind
  have HOK := Lib.hid hok
  have HR := Lib.hid hG
  have HG := Lib.hid hg
  clear hfind hok hG hg hc hF
  go_enter Tryz.func43, Tryz.ntmps43
  go_wp2_with fail
  have hX : Below w.heap.size w (w.alloc (.cells #[.slice D0 c.tasks.length e0, .slice D1 c.nodes.length e1, .slice D2 c.binds.length e2] 35)) := (by repeat' (first | exact Below.refl _ _ | refine Below.alloc ?_ ?_ _ | refine Below.setCell ?_ ?_ _ | refine Below.drew ?_ | (apply below_step; assumption) | (simp; done) | (simp; omega) | omega))
  refine (HOK.out _ (HG.out.below hX (Nat.le_refl _)) (HC.out.below hX)).mono ?_
  rintro e w2 ⟨rfl, hb2⟩
  have hC2 := below_of hX hb2
  have BC : BlockIs w2 w.heap.size 35 #[.slice D0 c.tasks.length e0, .slice D1 c.nodes.length e1, .slice D2 c.binds.length e2] := (BlockIs.new w _ _).below hb2 (by simp)
  have g0 := BC.cell 0
  have g1 := BC.cell 1
  have g2 := BC.cell 2
  simp at g0 g1 g2
  clear BC hb2 hX
  cases ok
  · go_wp2_with fail
    go_ret
    exact ⟨by rw [HR.out] <;> simp, hC2⟩
  · go_wp2_with fail
    refine (HFI.out _ hC2).mono ?_
    rintro e w3 ⟨cs, rfl, hR, hb3⟩
    have hC3 := below_of hC2 hb3
    have hz3 := hC3.size
    have HR' := Lib.hid (show nodeOfG c z = (o.getD BV.zero).node from HR.out)
    generalize o.getD BV.zero = t at hR HR'
    obtain rfl := hR
    go_wp2_with fail
    go_ret
    exact ⟨by rw [HR'.out]; simp, hC3.alloc (by omega) _⟩
set_option maxHeartbeats 1600000 in
theorem sUsedG_any (c : CV) (a0 a1 a2 : Value) (z : Int) (w : World) (hc : CluR w c a0 a1 a2) :
    Calls Tryz.prog 37 #[.agg #[a0, a1, a2], .int .i64 z] w (RetR (usedG c z).1 (usedG c z).2 w) := by
  have hix := fun w1 hw1 => sNode_any c a0 a1 a2 z w w1 hw1 hc
  have hok := fun w1 h => sClusterOk_any c a0 a1 a2 w1 h
  have hG : usedG c z = if clusterOk c && (fstBy NV.id c.nodes z).isSome then ((usedOf c z).1, (usedOf c z).2) else (RV.zero, false) := rfl
  have hus := fun (h : clusterOk c = true) w1 hw1 => sUsed_any c a0 a1 a2 z w w1 hw1 hc (bindsFrom_all (clusterOk_binds h))
  generalize (usedOf c z).1 = u at hus hG
  generalize (usedOf c z).2 = uo at hus hG
  obtain ⟨D0, D1, D2, e0, e1, e2, rfl, rfl, rfl, hF⟩ := hc.full
  have HC := Lib.hid hc
  cases ho : clusterOk c
  all_goals
    rw [ho] at hok hG
    have HOK := Lib.hid hok
  · have HR := Lib.hid hG
    clear hix hok hG hc hF hus ho
    go_enter Tryz.func37, Tryz.ntmps37
    go_wp2_with fail
    have hX : Below w.heap.size w ((w.alloc (.cells #[.slice D0 c.tasks.length e0, .slice D1 c.nodes.length e1, .slice D2 c.binds.length e2] 35)).alloc (.cells #[.int .i64 0, .int .i64 0, .int .i64 0] 57)) := (by repeat' (first | exact Below.refl _ _ | refine Below.alloc ?_ ?_ _ | refine Below.setCell ?_ ?_ _ | refine Below.drew ?_ | (apply below_step; assumption) | (simp; done) | (simp; omega) | omega))
    refine (HOK.out _ (HC.out.below hX)).mono ?_
    rintro e w2 ⟨rfl, hb2⟩
    have hC2 := below_of hX hb2
    have BR : BlockIs w2 (w.heap.size + 1) 57 #[.int .i64 0, .int .i64 0, .int .i64 0] := (BlockIs.new' (by simp)).below hb2 (by simp)
    have r0 := BR.cell 0
    have r1 := BR.cell 1
    have r2 := BR.cell 2
    have rf := BR.frozen
    simp at r0 r1 r2
    have HBR := Lib.hid BR
    clear BR hb2 hX
    go_wp2_with fail
    have hZ := res_put HBR.out RV.zero
    have hX' := res_below (u := .int .i64 RV.zero.c) (v := .int .i64 RV.zero.m) (x := .int .i64 RV.zero.p) hC2 (g := w.heap.size + 1) (by omega)
    simp only [RV.zero] at hZ hX'
    generalize (((w2.setCell ⟨w.heap.size + 1, 0, none⟩ (.int .i64 0)).setCell ⟨w.heap.size + 1, 1, none⟩ (.int .i64 0)).setCell ⟨w.heap.size + 1, 2, none⟩ (.int .i64 0)) = Y at hZ hX' ⊢
    have z0 := hZ.cell 0
    have z1 := hZ.cell 1
    have z2 := hZ.cell 2
    simp at z0 z1 z2
    exact bodyPost_ret (v := .tuple #[.agg #[.int .i64 RV.zero.c, .int .i64 RV.zero.m, .int .i64 RV.zero.p], .bool false]) (by simp [results, Tryz.results37, go_sem, z0, z1, z2, RV.zero]) rfl ⟨by rw [HR.out] <;> simp, hX'⟩
  · have HUS := Lib.hid (hus ho)
    cases hn : fstBy NV.id c.nodes z with
    | none =>
      rw [idxBy_none hn] at hix
      rw [hn] at hG
      have HIX := Lib.hid hix
      have HR := Lib.hid hG
      clear hix hok hG hc hF hus ho hn
      go_enter Tryz.func37, Tryz.ntmps37
      go_wp2_with fail
      have hX : Below w.heap.size w ((w.alloc (.cells #[.slice D0 c.tasks.length e0, .slice D1 c.nodes.length e1, .slice D2 c.binds.length e2] 35)).alloc (.cells #[.int .i64 0, .int .i64 0, .int .i64 0] 57)) := (by repeat' (first | exact Below.refl _ _ | refine Below.alloc ?_ ?_ _ | refine Below.setCell ?_ ?_ _ | refine Below.drew ?_ | (apply below_step; assumption) | (simp; done) | (simp; omega) | omega))
      refine (HOK.out _ (HC.out.below hX)).mono ?_
      rintro e w2 ⟨rfl, hb2⟩
      have hC2 := below_of hX hb2
      have BC : BlockIs w2 w.heap.size 35 #[.slice D0 c.tasks.length e0, .slice D1 c.nodes.length e1, .slice D2 c.binds.length e2] := ((BlockIs.new w _ _).alloc _).below hb2 (by simp; omega)
      have BR : BlockIs w2 (w.heap.size + 1) 57 #[.int .i64 0, .int .i64 0, .int .i64 0] := (BlockIs.new' (by simp)).below hb2 (by simp)
      have g0 := BC.cell 0
      have g1 := BC.cell 1
      have g2 := BC.cell 2
      simp at g0 g1 g2
      have HBR := Lib.hid BR
      clear BC BR hb2 hX
      go_wp2_with fail
      refine (HIX.out _ hC2).mono ?_
      rintro e w3 ⟨rfl, hb3⟩
      have hC3 := below_of hC2 hb3
      have BR := HBR.out.below hb3 HBR.out.lt
      have r0 := BR.cell 0
      have r1 := BR.cell 1
      have r2 := BR.cell 2
      have rf := BR.frozen
      simp at r0 r1 r2
      have HBR3 := Lib.hid BR
      clear BR hb3
      go_wp2_with fail
      have hZ := res_put HBR3.out RV.zero
      have hX' := res_below (u := .int .i64 RV.zero.c) (v := .int .i64 RV.zero.m) (x := .int .i64 RV.zero.p) hC3 (g := w.heap.size + 1) (by omega)
      simp only [RV.zero] at hZ hX'
      generalize (((w3.setCell ⟨w.heap.size + 1, 0, none⟩ (.int .i64 0)).setCell ⟨w.heap.size + 1, 1, none⟩ (.int .i64 0)).setCell ⟨w.heap.size + 1, 2, none⟩ (.int .i64 0)) = Y at hZ hX' ⊢
      have z0 := hZ.cell 0
      have z1 := hZ.cell 1
      have z2 := hZ.cell 2
      simp at z0 z1 z2
      exact bodyPost_ret (v := .tuple #[.agg #[.int .i64 RV.zero.c, .int .i64 RV.zero.m, .int .i64 RV.zero.p], .bool false]) (by simp [results, Tryz.results37, go_sem, z0, z1, z2, RV.zero]) rfl ⟨by rw [HR.out] <;> simp, hX'⟩
    | some n =>
      obtain ⟨j, hj, _⟩ := idxBy_some hn
      rw [hj] at hix
      rw [hn] at hG
      have HIX := Lib.hid hix
      have HR := Lib.hid hG
      clear hix hok hG hc hF hus ho hn hj
      have hnn : decide ((j : Int) < 0) = false := by simp
      go_enter Tryz.func37, Tryz.ntmps37
      go_wp2_with fail
      have hX : Below w.heap.size w ((w.alloc (.cells #[.slice D0 c.tasks.length e0, .slice D1 c.nodes.length e1, .slice D2 c.binds.length e2] 35)).alloc (.cells #[.int .i64 0, .int .i64 0, .int .i64 0] 57)) := (by repeat' (first | exact Below.refl _ _ | refine Below.alloc ?_ ?_ _ | refine Below.setCell ?_ ?_ _ | refine Below.drew ?_ | (apply below_step; assumption) | (simp; done) | (simp; omega) | omega))
      refine (HOK.out _ (HC.out.below hX)).mono ?_
      rintro e w2 ⟨rfl, hb2⟩
      have hC2 := below_of hX hb2
      have BC : BlockIs w2 w.heap.size 35 #[.slice D0 c.tasks.length e0, .slice D1 c.nodes.length e1, .slice D2 c.binds.length e2] := ((BlockIs.new w _ _).alloc _).below hb2 (by simp; omega)
      have BR : BlockIs w2 (w.heap.size + 1) 57 #[.int .i64 0, .int .i64 0, .int .i64 0] := (BlockIs.new' (by simp)).below hb2 (by simp)
      have g0 := BC.cell 0
      have g1 := BC.cell 1
      have g2 := BC.cell 2
      simp at g0 g1 g2
      have HBR := Lib.hid BR
      have HBC := Lib.hid BC
      clear BC BR hb2 hX
      go_wp2_with fail
      refine (HIX.out _ hC2).mono ?_
      rintro e w3 ⟨rfl, hb3⟩
      have hC3 := below_of hC2 hb3
      have BC := HBC.out.below hb3 HBC.out.lt
      have g0 := BC.cell 0
      have g1 := BC.cell 1
      have g2 := BC.cell 2
      simp at g0 g1 g2
      have HBR3 := Lib.hid (HBR.out.below hb3 HBR.out.lt)
      clear BC hb3 HBR
      go_wp2_with fail
      refine (HUS.out _ hC3).mono ?_
      rintro e w4 ⟨rfl, hb4⟩
      have hC4 := below_of hC3 hb4
      have BR := HBR3.out.below hb4 HBR3.out.lt
      have r0 := BR.cell 0
      have r1 := BR.cell 1
      have r2 := BR.cell 2
      have rf := BR.frozen
      simp at r0 r1 r2
      have HBR4 := Lib.hid BR
      clear BR hb4
      go_wp2_with fail
      have hZ := res_put HBR4.out u
      have hX' := res_below (u := .int .i64 u.c) (v := .int .i64 u.m) (x := .int .i64 u.p) hC4 (g := w.heap.size + 1) (by omega)
      generalize (((w4.setCell ⟨w.heap.size + 1, 0, none⟩ (.int .i64 u.c)).setCell ⟨w.heap.size + 1, 1, none⟩ (.int .i64 u.m)).setCell ⟨w.heap.size + 1, 2, none⟩ (.int .i64 u.p)) = Y at hZ hX' ⊢
      have z0 := hZ.cell 0
      have z1 := hZ.cell 1
      have z2 := hZ.cell 2
      simp at z0 z1 z2
      exact bodyPost_ret (v := .tuple #[.agg #[.int .i64 u.c, .int .i64 u.m, .int .i64 u.p], .bool uo]) (by simp [results, Tryz.results37, go_sem, z0, z1, z2]) rfl ⟨by rw [HR.out] <;> simp, hX'⟩
set_option maxHeartbeats 3200000 in
set_option maxRecDepth 20000 in
theorem l03Free_any (c : CV) (a0 a1 a2 : Value) (z : Int) (n : NV) (w : World) (hc : CluR w c a0 a1 a2) (hall : ∀ b ∈ c.binds, ∃ t, fstBy TV.id c.tasks b.task = some t) (hn : fstBy NV.id c.nodes z = some n) :
    Calls Tryz.prog 101 #[.agg #[a0, a1, a2], .int .i64 z] w fun e w' => e = .returned (.agg #[.int .i64 (resSub n.cap (usedOf c z).1).c, .int .i64 (resSub n.cap (usedOf c z).1).m, .int .i64 (resSub n.cap (usedOf c z).1).p]) ∧ Below w.heap.size w w' := by
  have hix := fun w1 hw1 => sNode_any c a0 a1 a2 z w w1 hw1 hc
  have hus := fun w1 hw1 => sUsed_any c a0 a1 a2 z w w1 hw1 hc hall
  obtain ⟨D0, D1, D2, e0, e1, e2, rfl, rfl, rfl, hF⟩ := hc.full
  obtain ⟨j, hj, hjt, hkz, hmn⟩ := idxBy_some hn
  clear hkz hmn
  rw [hj] at hix
  generalize (usedOf c z).1 = u at hus ⊢
  generalize (usedOf c z).2 = uo at hus
  have hjl : j < c.nodes.length := (List.getElem?_eq_some_iff.1 hjt).1
  have l1 := hF.l1
  obtain ⟨bn, on, rfl, hbw, hat⟩ := hF.hn (by omega)
  obtain ⟨cs, hR, hC⟩ := hat j n hjt
  obtain ⟨v1, v2, rfl, _, _, _, _⟩ := hR
  have hsub := fun w1 => sResSub_any n.cap u w1
  generalize hs : resSub n.cap u = s at hsub
  generalize resSubOk n.cap u = so at hsub
  have HS := Lib.hid hs
  have HIX := Lib.hid hix
  have HUS := Lib.hid hus
  have HSUB := Lib.hid hsub
  have HCC := Lib.hid hC
  have hji : (j : Int) < (c.nodes.length : Int) := by omega
  have hj0 : (0 : Int) ≤ (j : Int) := by omega
  clear hix hus hsub hc hF hn hj hjt hat hC hs hall
  go_enter Tryz.func101, Tryz.ntmps101
  go_wp2_with fail
  have hX : Below w.heap.size w ((w.alloc (.cells #[.slice D0 c.tasks.length e0, .slice (some ⟨bn, on, none⟩) c.nodes.length e1, .slice D2 c.binds.length e2] 35)).alloc (.cells #[.int .i64 0, .int .i64 0, .int .i64 0] 57)) := (by repeat' (first | exact Below.refl _ _ | refine Below.alloc ?_ ?_ _ | refine Below.setCell ?_ ?_ _ | refine Below.drew ?_ | (apply below_step; assumption) | (simp; done) | (simp; omega) | omega))
  refine (HUS.out _ hX).mono ?_
  rintro e w2 ⟨rfl, hb2⟩
  have hC2 := below_of hX hb2
  have hz2 := hb2.size
  simp at hz2
  have BC : BlockIs w2 w.heap.size 35 #[.slice D0 c.tasks.length e0, .slice (some ⟨bn, on, none⟩) c.nodes.length e1, .slice D2 c.binds.length e2] := ((BlockIs.new w _ _).alloc _).below hb2 (by simp; omega)
  have BR : BlockIs w2 (w.heap.size + 1) 57 #[.int .i64 0, .int .i64 0, .int .i64 0] := (BlockIs.new' (by simp)).below hb2 (by simp)
  have HBC := Lib.hid BC
  have HBR := Lib.hid BR
  have cl := BC.lt
  have rl := BR.lt
  clear BC BR hb2 hX
  go_upto_region 2 with fail
  have hX3 : Below w2.heap.size w2 (w2.alloc (.cells #[.int .i64 u.c, .int .i64 u.m, .int .i64 u.p] 57)) := (by repeat' (first | exact Below.refl _ _ | refine Below.alloc ?_ ?_ _ | refine Below.setCell ?_ ?_ _ | refine Below.drew ?_ | (apply below_step; assumption) | (simp; done) | (simp; omega) | omega))
  have hC3 := below_of hC2 hX3
  have BC := HBC.out.alloc (.cells #[.int .i64 u.c, .int .i64 u.m, .int .i64 u.p] 57)
  have BU := BlockIs.new w2 57 #[.int .i64 u.c, .int .i64 u.m, .int .i64 u.p]
  have HBR3 := Lib.hid (HBR.out.alloc (.cells #[.int .i64 u.c, .int .i64 u.m, .int .i64 u.p] 57))
  have hzw : w2.heap.size < (w2.alloc (.cells #[.int .i64 u.c, .int .i64 u.m, .int .i64 u.p] 57)).heap.size := by simp
  generalize w2.alloc (.cells #[.int .i64 u.c, .int .i64 u.m, .int .i64 u.p] 57) = X at hX3 hC3 BC BU HBR3 hzw ⊢
  obtain ⟨q0, q1, q2, q3, q4, q5, q6, q7⟩ := node_cells (HCC.out.below hC3 hbw)
  have hbX : bn < X.heap.size := Nat.lt_of_lt_of_le hbw hC3.size
  have HK := Lib.hid (show ∀ w', Below X.heap.size X w' → Below X.heap.size X w' ∧ (∀ o, w'.cell? ⟨w.heap.size, o, none⟩ = (#[.slice D0 c.tasks.length e0, .slice (some ⟨bn, on, none⟩) c.nodes.length e1, .slice D2 c.binds.length e2] : Array Value)[o]?) ∧ (∀ o, w'.cell? ⟨w2.heap.size, o, none⟩ = (#[.int .i64 u.c, .int .i64 u.m, .int .i64 u.p] : Array Value)[o]?) ∧ w'.cell? ⟨bn, on + j * 8 + 2, none⟩ = some (.int .i64 n.cap.c) ∧ w'.cell? ⟨bn, on + j * 8 + 3, none⟩ = some (.int .i64 n.cap.m) ∧ w'.cell? ⟨bn, on + j * 8 + 4, none⟩ = some (.int .i64 n.cap.p) from fun w' hb => ⟨hb, (BC.below hb BC.lt).cell, (BU.below hb BU.lt).cell, (hb.cell (p := ⟨_, _, none⟩) hbX).trans q2, (hb.cell (p := ⟨_, _, none⟩) hbX).trans q3, (hb.cell (p := ⟨_, _, none⟩) hbX).trans q4⟩)
  clear q0 q1 q2 q3 q4 q5 q6 q7 BC BU hX3
  go_cut [7] (fun s7 wx => PutAt X s s7 wx)
  case first =>
    go_region_held3 (fun w' => Below X.heap.size X w' ∧ (∀ o, w'.cell? ⟨w.heap.size, o, none⟩ = (#[.slice D0 c.tasks.length e0, .slice (some ⟨bn, on, none⟩) c.nodes.length e1, .slice D2 c.binds.length e2] : Array Value)[o]?) ∧ (∀ o, w'.cell? ⟨w2.heap.size, o, none⟩ = (#[.int .i64 u.c, .int .i64 u.m, .int .i64 u.p] : Array Value)[o]?) ∧ w'.cell? ⟨bn, on + j * 8 + 2, none⟩ = some (.int .i64 n.cap.c) ∧ w'.cell? ⟨bn, on + j * 8 + 3, none⟩ = some (.int .i64 n.cap.m) ∧ w'.cell? ⟨bn, on + j * 8 + 4, none⟩ = some (.int .i64 n.cap.p))
      (exact HK.out _ (by repeat' (first | exact Below.refl _ _ | refine Below.alloc ?_ ?_ _ | refine Below.setCell ?_ ?_ _ | refine Below.drew ?_ | (apply below_step; assumption) | (simp; done) | (simp; omega) | omega)))
      (first
        | (go_at_call 91; refine (HIX.out _ (below_of hC3 (by repeat' (first | exact Below.refl _ _ | refine Below.alloc ?_ ?_ _ | refine Below.setCell ?_ ?_ _ | refine Below.drew ?_ | (apply below_step; assumption) | (simp; done) | (simp; omega) | omega)))).mono ?_; rintro e w4 ⟨rfl, hb4⟩; obtain ⟨hc4, hf4⟩ := bcell hb4; have hl4 := blt hb4; (first | have hm4 := (blast hb4).2.2 | have hm4 := (blastd hb4).2.2 | have hm4 := True.intro); (try simp at hm4); have hz4 := hb4.size; try simp at hz4)
        | (go_at_call 152; refine (HSUB.out _).mono ?_; rintro e w5 ⟨rfl, hb5⟩; obtain ⟨hc5, hf5⟩ := bcell hb5; have hl5 := blt hb5; (first | have hm5 := (blast hb5).2.2 | have hm5 := (blastd hb5).2.2 | have hm5 := True.intro); (try simp at hm5); have hz5 := hb5.size; try simp at hz5))
    all_goals
      go_wp2_with fail
      go_meet
      exact ⟨_, rfl, by (first | (simp; done) | (go_simp; done)), by (first | (simp; done) | (go_simp; done)), by (first | (simp; done) | (go_simp; done)), (by repeat' (first | exact Below.refl _ _ | refine Below.alloc ?_ ?_ _ | refine Below.setCell ?_ ?_ _ | refine Below.drew ?_ | (apply below_step; assumption) | (simp; done) | (simp; omega) | omega))⟩
  case rest =>
    obtain ⟨g7, rfl, y0, y1, y2, hD⟩ := hcut
    have hC4 := below_of hC3 hD
    have BR := HBR3.out.below hD HBR3.out.lt
    have r0 := BR.cell 0
    have r1 := BR.cell 1
    have r2 := BR.cell 2
    have rf := BR.frozen
    simp at r0 r1 r2
    have HBR4 := Lib.hid BR
    clear BR HBR HBR3 HBC
    go_wp2_with fail
    have hZ := res_put HBR4.out s
    have hX' := res_below (u := .int .i64 s.c) (v := .int .i64 s.m) (x := .int .i64 s.p) hC4 (g := w.heap.size + 1) (by omega)
    generalize (((wc.setCell ⟨w.heap.size + 1, 0, none⟩ (.int .i64 s.c)).setCell ⟨w.heap.size + 1, 1, none⟩ (.int .i64 s.m)).setCell ⟨w.heap.size + 1, 2, none⟩ (.int .i64 s.p)) = Y at hZ hX' ⊢
    have z0 := hZ.cell 0
    have z1 := hZ.cell 1
    have z2 := hZ.cell 2
    simp at z0 z1 z2
    exact bodyPost_ret (v := .agg #[.int .i64 s.c, .int .i64 s.m, .int .i64 s.p]) (by simp [results, Tryz.results101, go_sem, z0, z1, z2]) rfl ⟨by have h := HS.out; subst h; rfl, hX'⟩
set_option maxHeartbeats 1600000 in
theorem sFreeG_any (c : CV) (a0 a1 a2 : Value) (z : Int) (w : World) (hc : CluR w c a0 a1 a2) :
    Calls Tryz.prog 40 #[.agg #[a0, a1, a2], .int .i64 z] w (RetR (freeG c z).1 (freeG c z).2 w) := by
  have hix := fun w1 hw1 => sNode_any c a0 a1 a2 z w w1 hw1 hc
  have hok := fun w1 h => sClusterOk_any c a0 a1 a2 w1 h
  have hG : freeG c z = match fstBy NV.id c.nodes z with
    | some n => if clusterOk c then freeOf c n else (RV.zero, false)
    | none => (RV.zero, false) := rfl
  have hus := fun (h : clusterOk c = true) n hn w1 h1 => l03Free_any c a0 a1 a2 z n w1 h1 (bindsFrom_all (clusterOk_binds h)) hn
  have hGo := fun (h : clusterOk c = true) n hn => freeG_ok (c := c) (z := z) (n := n) h hn
  obtain ⟨D0, D1, D2, e0, e1, e2, rfl, rfl, rfl, hF⟩ := hc.full
  have HC := Lib.hid hc
  cases ho : clusterOk c
  all_goals
    rw [ho] at hok hG
    have HOK := Lib.hid hok
  · have HR := Lib.hid (show freeG c z = (RV.zero, false) by rw [hG]; cases fstBy NV.id c.nodes z <;> rfl)
    clear hix hok hG hc hF hus ho hGo
    go_enter Tryz.func40, Tryz.ntmps40
    go_wp2_with fail
    have hX : Below w.heap.size w ((w.alloc (.cells #[.slice D0 c.tasks.length e0, .slice D1 c.nodes.length e1, .slice D2 c.binds.length e2] 35)).alloc (.cells #[.int .i64 0, .int .i64 0, .int .i64 0] 57)) := (by repeat' (first | exact Below.refl _ _ | refine Below.alloc ?_ ?_ _ | refine Below.setCell ?_ ?_ _ | refine Below.drew ?_ | (apply below_step; assumption) | (simp; done) | (simp; omega) | omega))
    refine (HOK.out _ (HC.out.below hX)).mono ?_
    rintro e w2 ⟨rfl, hb2⟩
    have hC2 := below_of hX hb2
    have BR : BlockIs w2 (w.heap.size + 1) 57 #[.int .i64 0, .int .i64 0, .int .i64 0] := (BlockIs.new' (by simp)).below hb2 (by simp)
    have r0 := BR.cell 0
    have r1 := BR.cell 1
    have r2 := BR.cell 2
    have rf := BR.frozen
    simp at r0 r1 r2
    have HBR := Lib.hid BR
    clear BR hb2 hX
    go_wp2_with fail
    have hZ := res_put HBR.out RV.zero
    have hX' := res_below (u := .int .i64 RV.zero.c) (v := .int .i64 RV.zero.m) (x := .int .i64 RV.zero.p) hC2 (g := w.heap.size + 1) (by omega)
    simp only [RV.zero] at hZ hX'
    generalize (((w2.setCell ⟨w.heap.size + 1, 0, none⟩ (.int .i64 0)).setCell ⟨w.heap.size + 1, 1, none⟩ (.int .i64 0)).setCell ⟨w.heap.size + 1, 2, none⟩ (.int .i64 0)) = Y at hZ hX' ⊢
    have z0 := hZ.cell 0
    have z1 := hZ.cell 1
    have z2 := hZ.cell 2
    simp at z0 z1 z2
    exact bodyPost_ret (v := .tuple #[.agg #[.int .i64 RV.zero.c, .int .i64 RV.zero.m, .int .i64 RV.zero.p], .bool false]) (by simp [results, Tryz.results40, go_sem, z0, z1, z2, RV.zero]) rfl ⟨by rw [HR.out] <;> simp, hX'⟩
  · cases hn : fstBy NV.id c.nodes z with
    | none =>
      rw [idxBy_none hn] at hix
      rw [hn] at hG
      have HIX := Lib.hid hix
      have HR := Lib.hid hG
      clear hix hok hG hc hF hus ho hn hGo
      go_enter Tryz.func40, Tryz.ntmps40
      go_wp2_with fail
      have hX : Below w.heap.size w ((w.alloc (.cells #[.slice D0 c.tasks.length e0, .slice D1 c.nodes.length e1, .slice D2 c.binds.length e2] 35)).alloc (.cells #[.int .i64 0, .int .i64 0, .int .i64 0] 57)) := (by repeat' (first | exact Below.refl _ _ | refine Below.alloc ?_ ?_ _ | refine Below.setCell ?_ ?_ _ | refine Below.drew ?_ | (apply below_step; assumption) | (simp; done) | (simp; omega) | omega))
      refine (HOK.out _ (HC.out.below hX)).mono ?_
      rintro e w2 ⟨rfl, hb2⟩
      have hC2 := below_of hX hb2
      have BC : BlockIs w2 w.heap.size 35 #[.slice D0 c.tasks.length e0, .slice D1 c.nodes.length e1, .slice D2 c.binds.length e2] := ((BlockIs.new w _ _).alloc _).below hb2 (by simp; omega)
      have BR : BlockIs w2 (w.heap.size + 1) 57 #[.int .i64 0, .int .i64 0, .int .i64 0] := (BlockIs.new' (by simp)).below hb2 (by simp)
      have g0 := BC.cell 0
      have g1 := BC.cell 1
      have g2 := BC.cell 2
      simp at g0 g1 g2
      have HBR := Lib.hid BR
      clear BC BR hb2 hX
      go_wp2_with fail
      refine (HIX.out _ hC2).mono ?_
      rintro e w3 ⟨rfl, hb3⟩
      have hC3 := below_of hC2 hb3
      have BR := HBR.out.below hb3 HBR.out.lt
      have r0 := BR.cell 0
      have r1 := BR.cell 1
      have r2 := BR.cell 2
      have rf := BR.frozen
      simp at r0 r1 r2
      have HBR3 := Lib.hid BR
      clear BR hb3
      go_wp2_with fail
      have hZ := res_put HBR3.out RV.zero
      have hX' := res_below (u := .int .i64 RV.zero.c) (v := .int .i64 RV.zero.m) (x := .int .i64 RV.zero.p) hC3 (g := w.heap.size + 1) (by omega)
      simp only [RV.zero] at hZ hX'
      generalize (((w3.setCell ⟨w.heap.size + 1, 0, none⟩ (.int .i64 0)).setCell ⟨w.heap.size + 1, 1, none⟩ (.int .i64 0)).setCell ⟨w.heap.size + 1, 2, none⟩ (.int .i64 0)) = Y at hZ hX' ⊢
      have z0 := hZ.cell 0
      have z1 := hZ.cell 1
      have z2 := hZ.cell 2
      simp at z0 z1 z2
      exact bodyPost_ret (v := .tuple #[.agg #[.int .i64 RV.zero.c, .int .i64 RV.zero.m, .int .i64 RV.zero.p], .bool false]) (by simp [results, Tryz.results40, go_sem, z0, z1, z2, RV.zero]) rfl ⟨by rw [HR.out] <;> simp, hX'⟩
    | some n =>
      obtain ⟨j, hj, _⟩ := idxBy_some hn
      rw [hj] at hix
      have hr := hus ho n hn
      have hv := hGo ho n hn
      generalize resSub n.cap (usedOf c z).1 = u at hr hv
      have HIX := Lib.hid hix
      have HUS := Lib.hid hr
      have HR := Lib.hid hv
      clear hix hok hG hc hF hus ho hn hj hGo hr hv
      have hnn : decide ((j : Int) < 0) = false := by simp
      go_enter Tryz.func40, Tryz.ntmps40
      go_wp2_with fail
      have hX : Below w.heap.size w ((w.alloc (.cells #[.slice D0 c.tasks.length e0, .slice D1 c.nodes.length e1, .slice D2 c.binds.length e2] 35)).alloc (.cells #[.int .i64 0, .int .i64 0, .int .i64 0] 57)) := (by repeat' (first | exact Below.refl _ _ | refine Below.alloc ?_ ?_ _ | refine Below.setCell ?_ ?_ _ | refine Below.drew ?_ | (apply below_step; assumption) | (simp; done) | (simp; omega) | omega))
      refine (HOK.out _ (HC.out.below hX)).mono ?_
      rintro e w2 ⟨rfl, hb2⟩
      have hC2 := below_of hX hb2
      have BC : BlockIs w2 w.heap.size 35 #[.slice D0 c.tasks.length e0, .slice D1 c.nodes.length e1, .slice D2 c.binds.length e2] := ((BlockIs.new w _ _).alloc _).below hb2 (by simp; omega)
      have BR : BlockIs w2 (w.heap.size + 1) 57 #[.int .i64 0, .int .i64 0, .int .i64 0] := (BlockIs.new' (by simp)).below hb2 (by simp)
      have g0 := BC.cell 0
      have g1 := BC.cell 1
      have g2 := BC.cell 2
      simp at g0 g1 g2
      have HBR := Lib.hid BR
      have HBC := Lib.hid BC
      clear BC BR hb2 hX
      go_wp2_with fail
      refine (HIX.out _ hC2).mono ?_
      rintro e w3 ⟨rfl, hb3⟩
      have hC3 := below_of hC2 hb3
      have BC := HBC.out.below hb3 HBC.out.lt
      have g0 := BC.cell 0
      have g1 := BC.cell 1
      have g2 := BC.cell 2
      simp at g0 g1 g2
      have HBR3 := Lib.hid (HBR.out.below hb3 HBR.out.lt)
      clear BC hb3 HBR
      go_wp2_with fail
      refine (HUS.out _ (HC.out.below hC3)).mono ?_
      rintro e w4 ⟨rfl, hb4⟩
      have hC4 := below_of hC3 hb4
      have BR := HBR3.out.below hb4 HBR3.out.lt
      have r0 := BR.cell 0
      have r1 := BR.cell 1
      have r2 := BR.cell 2
      have rf := BR.frozen
      simp at r0 r1 r2
      have HBR4 := Lib.hid BR
      clear BR hb4
      go_wp2_with fail
      have hZ := res_put HBR4.out u
      have hX' := res_below (u := .int .i64 u.c) (v := .int .i64 u.m) (x := .int .i64 u.p) hC4 (g := w.heap.size + 1) (by omega)
      generalize (((w4.setCell ⟨w.heap.size + 1, 0, none⟩ (.int .i64 u.c)).setCell ⟨w.heap.size + 1, 1, none⟩ (.int .i64 u.m)).setCell ⟨w.heap.size + 1, 2, none⟩ (.int .i64 u.p)) = Y at hZ hX' ⊢
      have z0 := hZ.cell 0
      have z1 := hZ.cell 1
      have z2 := hZ.cell 2
      simp at z0 z1 z2
      exact bodyPost_ret (v := .tuple #[.agg #[.int .i64 u.c, .int .i64 u.m, .int .i64 u.p], .bool true]) (by simp [results, Tryz.results40, go_sem, z0, z1, z2]) rfl ⟨by rw [HR.out] <;> simp, hX'⟩
set_option maxHeartbeats 1600000 in
theorem sOf_any (c : CV) (a0 a1 a2 : Value) (z : Int) (w : World) (hc : CluR w c a0 a1 a2) :
    Calls Tryz.prog 71 #[.agg #[a0, a1, a2], .int .i64 z] w fun e w' => e = .returned (.int .i64 (nodeOfB c z)) ∧ Below w.heap.size w w' := by
  have hix := fun w1 hw1 => sBind_any c a0 a1 a2 z w w1 hw1 hc
  have hG : nodeOfB c z = ((fstBy BV.task c.binds z).getD BV.zero).node := rfl
  obtain ⟨D0, D1, D2, e0, e1, e2, rfl, rfl, rfl, hF⟩ := hc.full
  cases hn : fstBy BV.task c.binds z with
  | none =>
    rw [idxBy_none hn] at hix
    rw [hn] at hG
    have HIX := Lib.hid hix
    have HR := Lib.hid hG
    clear hix hG hc hF hn
    go_enter Tryz.func71, Tryz.ntmps71
    go_wp2_with fail
    have hX : Below w.heap.size w (w.alloc (.cells #[.slice D0 c.tasks.length e0, .slice D1 c.nodes.length e1, .slice D2 c.binds.length e2] 35)) := (by repeat' (first | exact Below.refl _ _ | refine Below.alloc ?_ ?_ _ | refine Below.setCell ?_ ?_ _ | refine Below.drew ?_ | (apply below_step; assumption) | (simp; done) | (simp; omega) | omega))
    refine (HIX.out _ hX).mono ?_
    rintro e w2 ⟨rfl, hb2⟩
    go_wp2_with fail
    go_ret
    exact ⟨by rw [HR.out]; rfl, below_of hX hb2⟩
  | some t =>
    obtain ⟨j, hj, hjt, hkz, hmn⟩ := idxBy_some hn
    clear hkz hmn
    rw [hj] at hix
    rw [hn] at hG
    have HIX := Lib.hid hix
    have HR := Lib.hid (show nodeOfB c z = t.node from hG)
    have hjl : j < c.binds.length := (List.getElem?_eq_some_iff.1 hjt).1
    have l2 := hF.l2
    obtain ⟨bb, ob, rfl, hbw, hat⟩ := hF.hb (by omega)
    obtain ⟨cs, hR, hC⟩ := hat j t hjt
    obtain rfl := hR
    have HCC := Lib.hid hC
    have hnn : decide ((j : Int) < 0) = false := by simp
    have hji : (j : Int) < (c.binds.length : Int) := by omega
    have hj0 : (0 : Int) ≤ (j : Int) := by omega
    clear hix hG hc hF hn hj hjt hat hC
    go_enter Tryz.func71, Tryz.ntmps71
    go_wp2_with fail
    have hX : Below w.heap.size w (w.alloc (.cells #[.slice D0 c.tasks.length e0, .slice D1 c.nodes.length e1, .slice (some ⟨bb, ob, none⟩) c.binds.length e2] 35)) := (by repeat' (first | exact Below.refl _ _ | refine Below.alloc ?_ ?_ _ | refine Below.setCell ?_ ?_ _ | refine Below.drew ?_ | (apply below_step; assumption) | (simp; done) | (simp; omega) | omega))
    refine (HIX.out _ hX).mono ?_
    rintro e w2 ⟨rfl, hb2⟩
    have hC2 := below_of hX hb2
    have BC : BlockIs w2 w.heap.size 35 #[.slice D0 c.tasks.length e0, .slice D1 c.nodes.length e1, .slice (some ⟨bb, ob, none⟩) c.binds.length e2] := (BlockIs.new w _ _).below hb2 (by simp)
    have g2 := BC.cell 2
    simp at g2
    obtain ⟨q0, q1⟩ := bind_cells (HCC.out.below hC2 hbw)
    clear BC hb2 hX
    go_wp2_with fail
    go_ret
    exact ⟨by rw [HR.out]; rfl, hC2⟩
set_option maxHeartbeats 1600000 in
theorem sNodeOf_any (c : CV) (a0 a1 a2 : Value) (z : Int) (w : World) (hc : CluR w c a0 a1 a2) :
    Calls Tryz.prog 42 #[.agg #[a0, a1, a2], .int .i64 z] w fun e w' => e = .returned (.int .i64 (nodeOfG c z)) ∧ Below w.heap.size w w' := by
  have hof := fun w1 h => sOf_any c a0 a1 a2 z w1 h
  have hok := fun w1 h => sClusterOk_any c a0 a1 a2 w1 h
  have hG : nodeOfG c z = if clusterOk c then nodeOfB c z else 0 := rfl
  generalize nodeOfB c z = m at hof hG
  generalize clusterOk c = ok at hok hG
  obtain ⟨D0, D1, D2, e0, e1, e2, rfl, rfl, rfl, hF⟩ := hc.full
  have HC := Lib.hid hc
  have HOF := Lib.hid hof
  have HOK := Lib.hid hok
  have HR := Lib.hid hG
  clear hof hok hG hc hF
  go_enter Tryz.func42, Tryz.ntmps42
  go_wp2_with fail
  have hX : Below w.heap.size w (w.alloc (.cells #[.slice D0 c.tasks.length e0, .slice D1 c.nodes.length e1, .slice D2 c.binds.length e2] 35)) := (by repeat' (first | exact Below.refl _ _ | refine Below.alloc ?_ ?_ _ | refine Below.setCell ?_ ?_ _ | refine Below.drew ?_ | (apply below_step; assumption) | (simp; done) | (simp; omega) | omega))
  refine (HOK.out _ (HC.out.below hX)).mono ?_
  rintro e w2 ⟨rfl, hb2⟩
  have hC2 := below_of hX hb2
  have BC : BlockIs w2 w.heap.size 35 #[.slice D0 c.tasks.length e0, .slice D1 c.nodes.length e1, .slice D2 c.binds.length e2] := (BlockIs.new w _ _).below hb2 (by simp)
  have g0 := BC.cell 0
  have g1 := BC.cell 1
  have g2 := BC.cell 2
  simp at g0 g1 g2
  clear BC hb2 hX
  cases ok
  · go_wp2_with fail
    go_ret
    exact ⟨by rw [HR.out] <;> simp, hC2⟩
  · go_wp2_with fail
    refine (HOF.out _ (HC.out.below hC2)).mono ?_
    rintro e w3 ⟨rfl, hb3⟩
    go_wp2_with fail
    go_ret
    exact ⟨by rw [HR.out] <;> simp, below_of hC2 hb3⟩
end Go.Proofs.YtmkpajjnjgnmkaaGreatDoor

namespace Go.Proofs.YtmkpajjnjgnmkaaGreatDoor

def shr (u c : Int) : Int := if 0 < c then 1000 * u / c else if 0 < u then 1001 else 0
theorem shr_pos {u c : Int} (h : 0 < c) : shr u c = 1000 * u / c := by unfold shr; rw [if_pos h]
theorem shr_over {u c : Int} (h : ¬ 0 < c) (hu : 0 < u) : shr u c = 1001 := by unfold shr; rw [if_neg h, if_pos hu]
theorem shr_none {u c : Int} (h : ¬ 0 < c) (hu : ¬ 0 < u) : shr u c = 0 := by unfold shr; rw [if_neg h, if_neg hu]
theorem shr_bounds {u c : Int} (h0 : 0 ≤ u) (h1 : u ≤ 1000000) : 0 ≤ shr u c ∧ shr u c ≤ 1000000000 := by
  unfold shr
  split
  · next h =>
    refine ⟨Int.ediv_nonneg (by omega) (by omega), ?_⟩
    refine Int.le_trans (Int.ediv_le_self _ (by omega)) (by omega)
  · split <;> omega
def shareTo (u c : RV) : Nat → Int
  | 0 => 0
  | 1 => max 0 (shr u.c c.c)
  | 2 => max (max 0 (shr u.c c.c)) (shr u.m c.m)
  | _ => max (max (max 0 (shr u.c c.c)) (shr u.m c.m)) (shr u.p c.p)
def resShare (u c : RV) : Int := if u.ok && c.ok then shareTo u c 3 else -1
theorem resShare_in {u c : RV} (hu : u.ok = true) (hc : c.ok = true) : resShare u c = shareTo u c 3 := by unfold resShare; simp [hu, hc]
theorem resShare_out {u c : RV} (h : u.ok = false ∨ c.ok = false) : resShare u c = -1 := by
  unfold resShare; rcases h with h | h <;> simp [h]
theorem shareTo_three {u c : RV} (hu : u.ok = true) : shareTo u c 3 = max (shr u.c c.c) (max (shr u.m c.m) (shr u.p c.p)) := by
  obtain ⟨a1, a2, a3, a4, a5, a6⟩ := RV.ok_iff.1 hu
  have b1 := shr_bounds (c := c.c) a1 a2
  have b2 := shr_bounds (c := c.m) a3 a4
  have b3 := shr_bounds (c := c.p) a5 a6
  have e : shareTo u c 3 = max (max (max 0 (shr u.c c.c)) (shr u.m c.m)) (shr u.p c.p) := rfl
  rw [e]
  omega
end Go.Proofs.YtmkpajjnjgnmkaaGreatDoor

namespace Go.Proofs.YtmkpajjnjgnmkaaGreatDoor
open Go.RowKit

def CapAt (a : Addr) (w : World) : Prop := w.cell? ⟨0, 0, none⟩ = some (.iface 270 (.pointer (some a)))
theorem CapAt.lt {a : Addr} {w : World} (h : CapAt a w) : 0 < w.heap.size := World.block_lt_of_cell? _ _ h
theorem CapAt.below {a : Addr} {w w' : World} {B : Nat} (h : CapAt a w) (hb : Below B w w') (hB : w.heap.size ≤ B) : CapAt a w' := by
  have hl := h.lt
  unfold CapAt at *
  rw [hb.cell (p := ⟨0, 0, none⟩) (Nat.lt_of_lt_of_le hl hB)]; exact h
theorem CapAt.alloc {a : Addr} {w : World} (h : CapAt a w) (o : Obj) : CapAt a (w.alloc o) := h.below ((Below.refl _ _).alloc (Nat.le_refl _) o) (Nat.le_refl _)

theorem ret_int {a b : Int} (h : a = b) : Ending.returned (.int .i64 a) = .returned (.int .i64 b) := by rw [h]
theorem l01Share_any (u c : Int) (w : World) (u0 : 0 ≤ u) (u1 : u ≤ 1000000) (c0 : 0 ≤ c) (c1 : c ≤ 1000000) :
    Calls Tryz.prog 210 #[.int .i64 u, .int .i64 c] w fun e w' => e = .returned (.int .i64 (shr u c)) ∧ w = w' := by
  by_cases h : 0 < c
  · have H := Lib.hid (shr_pos (u := u) h)
    go_enter Tryz.func210, Tryz.ntmps210
    go_wp2
    go_ret
    exact ⟨by rw [H.out]; rfl, rfl⟩
  · by_cases hu : 0 < u
    · have H := Lib.hid (shr_over h hu)
      go_enter Tryz.func210, Tryz.ntmps210
      go_wp2
      go_ret
      exact ⟨by rw [H.out]; rfl, rfl⟩
    · have H := Lib.hid (shr_none h hu)
      go_enter Tryz.func210, Tryz.ntmps210
      go_wp2
      go_ret
      exact ⟨by rw [H.out]; rfl, rfl⟩

theorem l01Share_q (u c : Int) (w : World) (u0 : 0 ≤ u) (u1 : u ≤ 1000000) (c0 : 0 ≤ c) (c1 : c ≤ 1000000) :
    Calls Tryz.prog 210 #[.int .i64 u, .int .i64 c] w fun e w' => e = .returned (.int .i64 (shr u c)) ∧ w' = w :=
  (l01Share_any u c w u0 u1 c0 c1).mono fun _ _ h => ⟨h.1, h.2.symm⟩

theorem fieldShare_pos (s : ByteArray) (u c : Int) (w : World) (u0 : 0 ≤ u) (u1 : u ≤ 1000000) (c0 : 0 < c) (c1 : c ≤ 1000000) :
    Calls Tryz.prog 214 #[.agg #[.string s, .int .i64 u], .int .i64 c] w fun e w' => e = .returned (.tuple #[.int .i64 (shr u c), .nilIface]) ∧ Below w.heap.size w w' := by
  have H := Lib.hid (shr_pos (u := u) c0)
  go_enter Tryz.func214, Tryz.ntmps214
  go_wp2
  go_ret2
  exact ⟨by rw [H.out]; rfl, (by repeat' (first | exact Below.refl _ _ | refine Below.alloc ?_ ?_ _ | refine Below.setCell ?_ ?_ _ | refine Below.drew ?_ | (apply below_step; assumption) | (simp; done) | (simp; omega) | omega))⟩
theorem fieldShare_none (s : ByteArray) (u c : Int) (w : World) (hc : ¬ 0 < c) (hu : ¬ 0 < u) :
    Calls Tryz.prog 214 #[.agg #[.string s, .int .i64 u], .int .i64 c] w fun e w' => e = .returned (.tuple #[.int .i64 0, .nilIface]) ∧ Below w.heap.size w w' := by
  go_enter Tryz.func214, Tryz.ntmps214
  go_wp2
  go_ret2
  exact ⟨rfl, (by repeat' (first | exact Below.refl _ _ | refine Below.alloc ?_ ?_ _ | refine Below.setCell ?_ ?_ _ | refine Below.drew ?_ | (apply below_step; assumption) | (simp; done) | (simp; omega) | omega))⟩
theorem fieldShare_over (s : ByteArray) (u c : Int) (w : World) (y : Addr) (hy : CapAt y w) (hc : ¬ 0 < c) (hu : 0 < u) :
    Calls Tryz.prog 214 #[.agg #[.string s, .int .i64 u], .int .i64 c] w fun e w' => e = .returned (.tuple #[.int .i64 0, .iface 248 (.agg #[.string s, .iface 270 (.pointer (some y))])]) ∧ Below w.heap.size w w' := by
  have hl := hy.lt
  unfold CapAt at hy
  go_enter Tryz.func214, Tryz.ntmps214
  go_wp2
  go_quiet (fail)
  go_wp2
  go_ret2
  exact ⟨rfl, (by repeat' (first | exact Below.refl _ _ | refine Below.alloc ?_ ?_ _ | refine Below.setCell ?_ ?_ _ | refine Below.drew ?_ | refine below_drewN ?_ _ | (apply below_step; assumption) | (simp; done) | (simp; omega) | omega))⟩

theorem sResShare_out1 (u c : RV) (w : World) (hu : u.ok = false) :
    Calls Tryz.prog 162 #[.agg #[.int .i64 u.c, .int .i64 u.m, .int .i64 u.p], .agg #[.int .i64 c.c, .int .i64 c.m, .int .i64 c.p]] w fun e w' => e = .returned (.int .i64 (-1)) ∧ Below w.heap.size w w' := by
  have HU := Lib.hid hu
  clear hu
  go_enter Tryz.func162, Tryz.ntmps162
  go_wp2_with fail
  refine (sResOk_at u false HU.out _).mono ?_
  rintro e w1 ⟨rfl, hb1⟩
  have hz1 := hb1.size
  simp at hz1
  go_wp2_with fail
  go_ret
  exact ⟨rfl, (by repeat' (first | exact Below.refl _ _ | refine Below.alloc ?_ ?_ _ | refine Below.setCell ?_ ?_ _ | refine Below.drew ?_ | (apply below_step; assumption) | (simp; done) | (simp; omega) | omega))⟩
theorem sResShare_out2 (u c : RV) (w : World) (hu : u.ok = true) (hc : c.ok = false) :
    Calls Tryz.prog 162 #[.agg #[.int .i64 u.c, .int .i64 u.m, .int .i64 u.p], .agg #[.int .i64 c.c, .int .i64 c.m, .int .i64 c.p]] w fun e w' => e = .returned (.int .i64 (-1)) ∧ Below w.heap.size w w' := by
  have HU := Lib.hid hu
  have HC := Lib.hid hc
  clear hu hc
  go_enter Tryz.func162, Tryz.ntmps162
  go_wp2_with fail
  refine (sResOk_at u true HU.out _).mono ?_
  rintro e w1 ⟨rfl, hb1⟩
  have hz1 := hb1.size
  simp at hz1
  obtain ⟨hc1, hf1⟩ := bcell hb1
  go_wp2_with fail
  refine (sResOk_at c false HC.out _).mono ?_
  rintro e w2 ⟨rfl, hb2⟩
  have hz2 := hb2.size
  go_wp2_with fail
  go_ret
  exact ⟨rfl, (by repeat' (first | exact Below.refl _ _ | refine Below.alloc ?_ ?_ _ | refine Below.setCell ?_ ?_ _ | refine Below.drew ?_ | (apply below_step; assumption) | (simp; done) | (simp; omega) | omega))⟩
theorem sResShare_in (u c : RV) (w : World) (hu : u.ok = true) (hc : c.ok = true) :
    Calls Tryz.prog 162 #[.agg #[.int .i64 u.c, .int .i64 u.m, .int .i64 u.p], .agg #[.int .i64 c.c, .int .i64 c.m, .int .i64 c.p]] w fun e w' => e = .returned (.int .i64 (shareTo u c 3)) ∧ Below w.heap.size w w' := by
  have HF := Lib.hid (shareTo_three (c := c) hu)
  obtain ⟨a1, a2, a3, a4, a5, a6⟩ := RV.ok_iff.1 hu
  obtain ⟨b1, b2, b3, b4, b5, b6⟩ := RV.ok_iff.1 hc
  have HU := Lib.hid hu
  have HC := Lib.hid hc
  clear hu hc
  go_enter Tryz.func162, Tryz.ntmps162
  go_wp2_with fail
  refine (sResOk_at u true HU.out _).mono ?_
  rintro e w1 ⟨rfl, hb1⟩
  have hz1 := hb1.size
  simp at hz1
  obtain ⟨hc1, hf1⟩ := bcell hb1
  go_wp2_with fail
  refine (sResOk_at c true HC.out _).mono ?_
  rintro e w2 ⟨rfl, hb2⟩
  have hz2 := hb2.size
  obtain ⟨hc2, hf2⟩ := bcell hb2
  have hs0 : w.heap.size < w1.heap.size := by omega
  have hs1 : w.heap.size + 1 < w1.heap.size := by omega
  go_wp2_with fail
  go_quiet ((go_at_call 210; exact Calls.quiet_of_same (l01Share_q _ _ _ (by assumption) (by assumption) (by assumption) (by assumption))))
  go_wp2_with fail
  all_goals
    go_ret
    exact ⟨by rw [HF.out]; exact ret_int (by omega), (by repeat' (first | exact Below.refl _ _ | refine Below.alloc ?_ ?_ _ | refine Below.setCell ?_ ?_ _ | refine Below.drew ?_ | refine below_drewN ?_ _ | (apply below_step; assumption) | (simp; done) | (simp; omega) | omega))⟩
end Go.Proofs.YtmkpajjnjgnmkaaGreatDoor

namespace Go.Proofs.YtmkpajjnjgnmkaaGreatDoor
open Go.RowKit

theorem val_int {a b : Int} (h : a = b) : Value.int .i64 a = .int .i64 b := by rw [h]
theorem ResShare_out (u c : RV) (w : World) (x : Addr) (hg : ErrAt x w) (h : u.ok = false ∨ c.ok = false) :
    Calls Tryz.prog 166 #[.agg #[.int .i64 u.c, .int .i64 u.m, .int .i64 u.p], .agg #[.int .i64 c.c, .int .i64 c.m, .int .i64 c.p]] w fun e w' => e = .returned (.int .i64 (-1)) ∧ Below w.heap.size w w' := by
  have hcb : ∀ w, ErrAt x w → Calls Tryz.prog 204 #[.agg #[.int .i64 u.c, .int .i64 u.m, .int .i64 u.p], .agg #[.int .i64 c.c, .int .i64 c.m, .int .i64 c.p]] w (BadAt x w) := by
    intro w hg
    cases ha : u.ok
    · exact checkBoth_no1 u c w x hg ha
    · exact checkBoth_no2 u c w x hg ha (by rcases h with h | h; (rw [ha] at h; cases h); exact h)
  have HC := Lib.hid hcb
  clear hcb h
  go_enter Tryz.func166, Tryz.ntmps166
  go_wp2_with fail
  refine (HC.out _ ((hg.alloc _).alloc _)).mono ?_
  rintro e w1 ⟨s, rfl, hb1⟩
  have hz1 := hb1.size
  simp at hz1
  have hg1 := ((hg.alloc _).alloc _).below hb1 (Nat.le_refl _)
  go_wp2_with fail
  refine (outOfRange_bad s _ x hg1).mono ?_
  rintro e w2 ⟨rfl, hb2⟩
  have hz2 := hb2.size
  go_wp2_with fail
  go_ret
  exact ⟨rfl, (by repeat' (first | exact Below.refl _ _ | refine Below.alloc ?_ ?_ _ | refine Below.setCell ?_ ?_ _ | refine Below.drew ?_ | (apply below_step; assumption) | (simp; done) | (simp; omega) | omega))⟩

set_option maxHeartbeats 4000000 in
theorem ResShare_in (u c : RV) (w : World) (x y : Addr) (hg : ErrAt x w) (hy : CapAt y w) (hu : u.ok = true) (hc : c.ok = true) :
    Calls Tryz.prog 166 #[.agg #[.int .i64 u.c, .int .i64 u.m, .int .i64 u.p], .agg #[.int .i64 c.c, .int .i64 c.m, .int .i64 c.p]] w fun e w' => e = .returned (.int .i64 (shareTo u c 3)) ∧ Below w.heap.size w w' := by
  have i0 := Tryz.ix0
  have i1 := Tryz.ix1
  have i2 := Tryz.ix2
  obtain ⟨a1, a2, a3, a4, a5, a6⟩ := RV.ok_iff.1 hu
  obtain ⟨b1, b2, b3, b4, b5, b6⟩ := RV.ok_iff.1 hc
  have HU := Lib.hid hu
  have HC := Lib.hid hc
  clear hu hc
  go_enter Tryz.func166, Tryz.ntmps166
  go_wp2_with fail
  refine (checkBoth_yes u c _ HU.out HC.out).mono ?_
  rintro e w1 ⟨rfl, hb1⟩
  have hz1 := hb1.size
  simp at hz1
  obtain ⟨hc1, hf1⟩ := bcell hb1
  have hg1 := ((hg.alloc _).alloc _).below hb1 (Nat.le_refl _)
  have hy1 := ((hy.alloc _).alloc _).below hb1 (Nat.le_refl _)
  go_wp2_with fail
  refine (outOfRange_nil _ x hg1).mono ?_
  rintro e w2 ⟨rfl, rfl⟩
  go_wp2_with fail
  refine (fieldsOf_any c _).mono ?_
  rintro e w2 ⟨rfl, hb2⟩
  have hz2 := hb2.size
  obtain ⟨hc2, hf2⟩ := bcell hb2
  have hs0 : w.heap.size < w1.heap.size := by omega
  have hq0 : w.heap.size < w2.heap.size := by omega
  have hy2 := (hy1.below hb2 (Nat.le_refl _)).alloc (.cells #[.string ⟨#[67, 112, 117]⟩, .int .i64 c.c, .string ⟨#[77, 101, 109]⟩, .int .i64 c.m, .string ⟨#[80, 111, 100, 115]⟩, .int .i64 c.p] 221)
  go_wp2_with fail
  refine (fieldsOf_any u _).mono ?_
  rintro e w3 ⟨rfl, hb3⟩
  have hz3 := hb3.size
  simp at hz3
  obtain ⟨hc3, hf3⟩ := bcell hb3
  have hy3 := hy2.below hb3 (Nat.le_refl _)
  have k1 : w3.cell? ⟨w2.heap.size, 1, none⟩ = some (.int .i64 c.c) := by rw [hc3 _ _ (by simp)]; simp
  have k3 : w3.cell? ⟨w2.heap.size, 3, none⟩ = some (.int .i64 c.m) := by rw [hc3 _ _ (by simp)]; simp
  have k5 : w3.cell? ⟨w2.heap.size, 5, none⟩ = some (.int .i64 c.p) := by rw [hc3 _ _ (by simp)]; simp
  have hBw : Below w.heap.size w w3 := (by repeat' (first | exact Below.refl _ _ | refine Below.alloc ?_ ?_ _ | refine Below.setCell ?_ ?_ _ | refine Below.drew ?_ | (apply below_step; assumption) | (simp; done) | (simp; omega) | omega))
  have hzw := hBw.size
  clear hc1 hf1 hc2 hf2 hc3 hf3
  have hs5 : w2.heap.size < w3.heap.size := by omega
  generalize hg5 : w2.heap.size = g5 at *
  clear hb1 hb2 hb3 hz1 hz2 hz3 hg5 hs0 hq0 hg1 hy1 hy2
  go_wp2_with fail
  go_loopw [6, 19] (fun s6 s19 wr => ∃ k : Nat, k ≤ 3 ∧ s19 = .int .i64 k ∧ s6 = .int .i64 (shareTo u c k) ∧ Below w3.heap.size w3 wr) (fun _ s19 _ => (3 - intOf s19).toNat)
  case atStart => exact ⟨0, by omega, rfl, rfl, Below.refl _ _⟩
  case round =>
    obtain ⟨k, hk, rfl, rfl, hB⟩ := hrel
    have hzr := hB.size
    have hyr := hy3.below hB (Nat.le_refl _)
    have hs5r : g5 < wr.heap.size := by omega
    have hlr := hyr.lt
    have k1r : wr.cell? ⟨g5, 1, none⟩ = some (.int .i64 c.c) := (hB.cell (p := ⟨g5, 1, none⟩) hs5).trans k1
    have k3r : wr.cell? ⟨g5, 3, none⟩ = some (.int .i64 c.m) := (hB.cell (p := ⟨g5, 3, none⟩) hs5).trans k3
    have k5r : wr.cell? ⟨g5, 5, none⟩ = some (.int .i64 c.p) := (hB.cell (p := ⟨g5, 5, none⟩) hs5).trans k5
    match k, hk with
    | 3, _ =>
      go_wp2_with fail
      go_ret
      exact ⟨rfl, (by repeat' (first | exact Below.refl _ _ | refine Below.alloc ?_ ?_ _ | refine Below.setCell ?_ ?_ _ | refine Below.drew ?_ | (apply below_step; assumption) | (simp; done) | (simp; omega) | omega))⟩
    | 0, _ =>
      have HP := Lib.hid (show shareTo u c 1 = max (shareTo u c 0) (shr u.c c.c) from rfl)
      have hsb := shr_bounds (u := u.c) (c := c.c) (by assumption) (by assumption)
      generalize shareTo u c 0 = G at *
      by_cases hcap : 0 < c.c
      · skip
        go_wp2_with fail
        go_region_held3 (fun w' => Below wr.heap.size wr w' ∧ wr.heap.size < w'.heap.size ∧ w'.cell? ⟨wr.heap.size, 0, none⟩ = some (.string ⟨#[67, 112, 117]⟩) ∧ w'.cell? ⟨wr.heap.size, 1, none⟩ = some (.int .i64 u.c) ∧ w'.cell? ⟨g5, 1, none⟩ = some (.int .i64 c.c))
          (first | exact ⟨(by repeat' (first | exact Below.refl _ _ | refine Below.alloc ?_ ?_ _ | refine Below.setCell ?_ ?_ _ | refine Below.drew ?_ | (apply below_step; assumption) | (simp; done) | (simp; omega) | omega)), by simp, by simp, by simp, by go_simp⟩ | exact ⟨(by repeat' (first | exact Below.refl _ _ | refine Below.alloc ?_ ?_ _ | refine Below.setCell ?_ ?_ _ | refine Below.drew ?_ | (apply below_step; assumption) | (simp; done) | (simp; omega) | omega)), by omega, by go_simp, by go_simp, by go_simp⟩)
          (first | (go_at_call 214; refine (fieldShare_pos ⟨#[67, 112, 117]⟩ u.c c.c _ (by assumption) (by assumption) (by assumption) (by assumption)).mono ?_; rintro e w4 ⟨rfl, hb4⟩; obtain ⟨hc4, hf4⟩ := bcell hb4; have hz4 := hb4.size; simp at hz4; have hs54 : g5 < w4.heap.size := by omega))
        have hy4 : CapAt y w4 := hyr.below (by repeat' (first | exact Below.refl _ _ | refine Below.alloc ?_ ?_ _ | refine Below.setCell ?_ ?_ _ | refine Below.drew ?_ | (apply below_step; assumption) | (simp; done) | (simp; omega) | omega)) (Nat.le_refl _)
        have hl4 := hy4.lt
        unfold CapAt at hy4
        clear hc4 hf4
        go_wp2_with fail
        refine (is_nil y _).mono ?_
        rintro e w5 ⟨rfl, rfl⟩
        go_wp2_with fail
        all_goals
          go_roundw
          case rel => exact ⟨1, by omega, rfl, val_int (by rw [HP.out]; omega), (by repeat' (first | exact Below.refl _ _ | refine Below.alloc ?_ ?_ _ | refine Below.setCell ?_ ?_ _ | refine Below.drew ?_ | (apply below_step; assumption) | (simp; done) | (simp; omega) | omega))⟩
          case measure => simp [intOf]
      · by_cases huse : 0 < u.c
        · have HV := Lib.hid (shr_over hcap huse)
          have HC0 := Lib.hid hcap
          clear hcap
          go_wp2_with fail
          go_region_held3 (fun w' => Below wr.heap.size wr w' ∧ wr.heap.size < w'.heap.size ∧ w'.cell? ⟨wr.heap.size, 0, none⟩ = some (.string ⟨#[67, 112, 117]⟩) ∧ w'.cell? ⟨wr.heap.size, 1, none⟩ = some (.int .i64 u.c) ∧ w'.cell? ⟨g5, 1, none⟩ = some (.int .i64 c.c))
            (first | exact ⟨(by repeat' (first | exact Below.refl _ _ | refine Below.alloc ?_ ?_ _ | refine Below.setCell ?_ ?_ _ | refine Below.drew ?_ | (apply below_step; assumption) | (simp; done) | (simp; omega) | omega)), by simp, by simp, by simp, by go_simp⟩ | exact ⟨(by repeat' (first | exact Below.refl _ _ | refine Below.alloc ?_ ?_ _ | refine Below.setCell ?_ ?_ _ | refine Below.drew ?_ | (apply below_step; assumption) | (simp; done) | (simp; omega) | omega)), by omega, by go_simp, by go_simp, by go_simp⟩)
            (first | (go_at_call 214; refine (fieldShare_over ⟨#[67, 112, 117]⟩ u.c c.c _ y ?_ (by have hh := HC0.out; omega) (by assumption)).mono ?_; (exact hyr.below (by repeat' (first | exact Below.refl _ _ | refine Below.alloc ?_ ?_ _ | refine Below.setCell ?_ ?_ _ | refine Below.drew ?_ | (apply below_step; assumption) | (simp; done) | (simp; omega) | omega)) (Nat.le_refl _)); rintro e w4 ⟨rfl, hb4⟩; obtain ⟨hc4, hf4⟩ := bcell hb4; have hz4 := hb4.size; simp at hz4; have hs54 : g5 < w4.heap.size := by omega))
          have hy4 : CapAt y w4 := hyr.below (by repeat' (first | exact Below.refl _ _ | refine Below.alloc ?_ ?_ _ | refine Below.setCell ?_ ?_ _ | refine Below.drew ?_ | (apply below_step; assumption) | (simp; done) | (simp; omega) | omega)) (Nat.le_refl _)
          have hl4 := hy4.lt
          unfold CapAt at hy4
          clear hc4 hf4
          go_wp2_with fail
          refine (is_field ⟨#[67, 112, 117]⟩ y _).mono ?_
          rintro e w5 ⟨rfl, hb5⟩
          have hz5 := hb5.size
          go_wp2_with fail
          all_goals
            go_roundw
            case rel => exact ⟨1, by omega, rfl, val_int (by rw [HP.out, HV.out]; omega), (by repeat' (first | exact Below.refl _ _ | refine Below.alloc ?_ ?_ _ | refine Below.setCell ?_ ?_ _ | refine Below.drew ?_ | (apply below_step; assumption) | (simp; done) | (simp; omega) | omega))⟩
            case measure => simp [intOf]
        · have HV := Lib.hid (shr_none hcap huse)
          have HC0 := Lib.hid hcap
          have HU0 := Lib.hid huse
          clear hcap huse
          go_wp2_with fail
          go_region_held3 (fun w' => Below wr.heap.size wr w' ∧ wr.heap.size < w'.heap.size ∧ w'.cell? ⟨wr.heap.size, 0, none⟩ = some (.string ⟨#[67, 112, 117]⟩) ∧ w'.cell? ⟨wr.heap.size, 1, none⟩ = some (.int .i64 u.c) ∧ w'.cell? ⟨g5, 1, none⟩ = some (.int .i64 c.c))
            (first | exact ⟨(by repeat' (first | exact Below.refl _ _ | refine Below.alloc ?_ ?_ _ | refine Below.setCell ?_ ?_ _ | refine Below.drew ?_ | (apply below_step; assumption) | (simp; done) | (simp; omega) | omega)), by simp, by simp, by simp, by go_simp⟩ | exact ⟨(by repeat' (first | exact Below.refl _ _ | refine Below.alloc ?_ ?_ _ | refine Below.setCell ?_ ?_ _ | refine Below.drew ?_ | (apply below_step; assumption) | (simp; done) | (simp; omega) | omega)), by omega, by go_simp, by go_simp, by go_simp⟩)
            (first | (go_at_call 214; refine (fieldShare_none ⟨#[67, 112, 117]⟩ u.c c.c _ (by have hh := HC0.out; omega) (by have hh := HU0.out; omega)).mono ?_; rintro e w4 ⟨rfl, hb4⟩; obtain ⟨hc4, hf4⟩ := bcell hb4; have hz4 := hb4.size; simp at hz4; have hs54 : g5 < w4.heap.size := by omega))
          have hy4 : CapAt y w4 := hyr.below (by repeat' (first | exact Below.refl _ _ | refine Below.alloc ?_ ?_ _ | refine Below.setCell ?_ ?_ _ | refine Below.drew ?_ | (apply below_step; assumption) | (simp; done) | (simp; omega) | omega)) (Nat.le_refl _)
          have hl4 := hy4.lt
          unfold CapAt at hy4
          clear hc4 hf4
          go_wp2_with fail
          refine (is_nil y _).mono ?_
          rintro e w5 ⟨rfl, rfl⟩
          go_wp2_with fail
          all_goals
            go_roundw
            case rel => exact ⟨1, by omega, rfl, val_int (by rw [HP.out, HV.out]; omega), (by repeat' (first | exact Below.refl _ _ | refine Below.alloc ?_ ?_ _ | refine Below.setCell ?_ ?_ _ | refine Below.drew ?_ | (apply below_step; assumption) | (simp; done) | (simp; omega) | omega))⟩
            case measure => simp [intOf]
    | 1, _ =>
      have HP := Lib.hid (show shareTo u c 2 = max (shareTo u c 1) (shr u.m c.m) from rfl)
      have hsb := shr_bounds (u := u.m) (c := c.m) (by assumption) (by assumption)
      generalize shareTo u c 1 = G at *
      by_cases hcap : 0 < c.m
      · skip
        go_wp2_with fail
        go_region_held3 (fun w' => Below wr.heap.size wr w' ∧ wr.heap.size < w'.heap.size ∧ w'.cell? ⟨wr.heap.size, 0, none⟩ = some (.string ⟨#[77, 101, 109]⟩) ∧ w'.cell? ⟨wr.heap.size, 1, none⟩ = some (.int .i64 u.m) ∧ w'.cell? ⟨g5, 3, none⟩ = some (.int .i64 c.m))
          (first | exact ⟨(by repeat' (first | exact Below.refl _ _ | refine Below.alloc ?_ ?_ _ | refine Below.setCell ?_ ?_ _ | refine Below.drew ?_ | (apply below_step; assumption) | (simp; done) | (simp; omega) | omega)), by simp, by simp, by simp, by go_simp⟩ | exact ⟨(by repeat' (first | exact Below.refl _ _ | refine Below.alloc ?_ ?_ _ | refine Below.setCell ?_ ?_ _ | refine Below.drew ?_ | (apply below_step; assumption) | (simp; done) | (simp; omega) | omega)), by omega, by go_simp, by go_simp, by go_simp⟩)
          (first | (go_at_call 214; refine (fieldShare_pos ⟨#[77, 101, 109]⟩ u.m c.m _ (by assumption) (by assumption) (by assumption) (by assumption)).mono ?_; rintro e w4 ⟨rfl, hb4⟩; obtain ⟨hc4, hf4⟩ := bcell hb4; have hz4 := hb4.size; simp at hz4; have hs54 : g5 < w4.heap.size := by omega))
        have hy4 : CapAt y w4 := hyr.below (by repeat' (first | exact Below.refl _ _ | refine Below.alloc ?_ ?_ _ | refine Below.setCell ?_ ?_ _ | refine Below.drew ?_ | (apply below_step; assumption) | (simp; done) | (simp; omega) | omega)) (Nat.le_refl _)
        have hl4 := hy4.lt
        unfold CapAt at hy4
        clear hc4 hf4
        go_wp2_with fail
        refine (is_nil y _).mono ?_
        rintro e w5 ⟨rfl, rfl⟩
        go_wp2_with fail
        all_goals
          go_roundw
          case rel => exact ⟨2, by omega, rfl, val_int (by rw [HP.out]; omega), (by repeat' (first | exact Below.refl _ _ | refine Below.alloc ?_ ?_ _ | refine Below.setCell ?_ ?_ _ | refine Below.drew ?_ | (apply below_step; assumption) | (simp; done) | (simp; omega) | omega))⟩
          case measure => simp [intOf]
      · by_cases huse : 0 < u.m
        · have HV := Lib.hid (shr_over hcap huse)
          have HC0 := Lib.hid hcap
          clear hcap
          go_wp2_with fail
          go_region_held3 (fun w' => Below wr.heap.size wr w' ∧ wr.heap.size < w'.heap.size ∧ w'.cell? ⟨wr.heap.size, 0, none⟩ = some (.string ⟨#[77, 101, 109]⟩) ∧ w'.cell? ⟨wr.heap.size, 1, none⟩ = some (.int .i64 u.m) ∧ w'.cell? ⟨g5, 3, none⟩ = some (.int .i64 c.m))
            (first | exact ⟨(by repeat' (first | exact Below.refl _ _ | refine Below.alloc ?_ ?_ _ | refine Below.setCell ?_ ?_ _ | refine Below.drew ?_ | (apply below_step; assumption) | (simp; done) | (simp; omega) | omega)), by simp, by simp, by simp, by go_simp⟩ | exact ⟨(by repeat' (first | exact Below.refl _ _ | refine Below.alloc ?_ ?_ _ | refine Below.setCell ?_ ?_ _ | refine Below.drew ?_ | (apply below_step; assumption) | (simp; done) | (simp; omega) | omega)), by omega, by go_simp, by go_simp, by go_simp⟩)
            (first | (go_at_call 214; refine (fieldShare_over ⟨#[77, 101, 109]⟩ u.m c.m _ y ?_ (by have hh := HC0.out; omega) (by assumption)).mono ?_; (exact hyr.below (by repeat' (first | exact Below.refl _ _ | refine Below.alloc ?_ ?_ _ | refine Below.setCell ?_ ?_ _ | refine Below.drew ?_ | (apply below_step; assumption) | (simp; done) | (simp; omega) | omega)) (Nat.le_refl _)); rintro e w4 ⟨rfl, hb4⟩; obtain ⟨hc4, hf4⟩ := bcell hb4; have hz4 := hb4.size; simp at hz4; have hs54 : g5 < w4.heap.size := by omega))
          have hy4 : CapAt y w4 := hyr.below (by repeat' (first | exact Below.refl _ _ | refine Below.alloc ?_ ?_ _ | refine Below.setCell ?_ ?_ _ | refine Below.drew ?_ | (apply below_step; assumption) | (simp; done) | (simp; omega) | omega)) (Nat.le_refl _)
          have hl4 := hy4.lt
          unfold CapAt at hy4
          clear hc4 hf4
          go_wp2_with fail
          refine (is_field ⟨#[77, 101, 109]⟩ y _).mono ?_
          rintro e w5 ⟨rfl, hb5⟩
          have hz5 := hb5.size
          go_wp2_with fail
          all_goals
            go_roundw
            case rel => exact ⟨2, by omega, rfl, val_int (by rw [HP.out, HV.out]; omega), (by repeat' (first | exact Below.refl _ _ | refine Below.alloc ?_ ?_ _ | refine Below.setCell ?_ ?_ _ | refine Below.drew ?_ | (apply below_step; assumption) | (simp; done) | (simp; omega) | omega))⟩
            case measure => simp [intOf]
        · have HV := Lib.hid (shr_none hcap huse)
          have HC0 := Lib.hid hcap
          have HU0 := Lib.hid huse
          clear hcap huse
          go_wp2_with fail
          go_region_held3 (fun w' => Below wr.heap.size wr w' ∧ wr.heap.size < w'.heap.size ∧ w'.cell? ⟨wr.heap.size, 0, none⟩ = some (.string ⟨#[77, 101, 109]⟩) ∧ w'.cell? ⟨wr.heap.size, 1, none⟩ = some (.int .i64 u.m) ∧ w'.cell? ⟨g5, 3, none⟩ = some (.int .i64 c.m))
            (first | exact ⟨(by repeat' (first | exact Below.refl _ _ | refine Below.alloc ?_ ?_ _ | refine Below.setCell ?_ ?_ _ | refine Below.drew ?_ | (apply below_step; assumption) | (simp; done) | (simp; omega) | omega)), by simp, by simp, by simp, by go_simp⟩ | exact ⟨(by repeat' (first | exact Below.refl _ _ | refine Below.alloc ?_ ?_ _ | refine Below.setCell ?_ ?_ _ | refine Below.drew ?_ | (apply below_step; assumption) | (simp; done) | (simp; omega) | omega)), by omega, by go_simp, by go_simp, by go_simp⟩)
            (first | (go_at_call 214; refine (fieldShare_none ⟨#[77, 101, 109]⟩ u.m c.m _ (by have hh := HC0.out; omega) (by have hh := HU0.out; omega)).mono ?_; rintro e w4 ⟨rfl, hb4⟩; obtain ⟨hc4, hf4⟩ := bcell hb4; have hz4 := hb4.size; simp at hz4; have hs54 : g5 < w4.heap.size := by omega))
          have hy4 : CapAt y w4 := hyr.below (by repeat' (first | exact Below.refl _ _ | refine Below.alloc ?_ ?_ _ | refine Below.setCell ?_ ?_ _ | refine Below.drew ?_ | (apply below_step; assumption) | (simp; done) | (simp; omega) | omega)) (Nat.le_refl _)
          have hl4 := hy4.lt
          unfold CapAt at hy4
          clear hc4 hf4
          go_wp2_with fail
          refine (is_nil y _).mono ?_
          rintro e w5 ⟨rfl, rfl⟩
          go_wp2_with fail
          all_goals
            go_roundw
            case rel => exact ⟨2, by omega, rfl, val_int (by rw [HP.out, HV.out]; omega), (by repeat' (first | exact Below.refl _ _ | refine Below.alloc ?_ ?_ _ | refine Below.setCell ?_ ?_ _ | refine Below.drew ?_ | (apply below_step; assumption) | (simp; done) | (simp; omega) | omega))⟩
            case measure => simp [intOf]
    | 2, _ =>
      have HP := Lib.hid (show shareTo u c 3 = max (shareTo u c 2) (shr u.p c.p) from rfl)
      have hsb := shr_bounds (u := u.p) (c := c.p) (by assumption) (by assumption)
      generalize shareTo u c 2 = G at *
      by_cases hcap : 0 < c.p
      · skip
        go_wp2_with fail
        go_region_held3 (fun w' => Below wr.heap.size wr w' ∧ wr.heap.size < w'.heap.size ∧ w'.cell? ⟨wr.heap.size, 0, none⟩ = some (.string ⟨#[80, 111, 100, 115]⟩) ∧ w'.cell? ⟨wr.heap.size, 1, none⟩ = some (.int .i64 u.p) ∧ w'.cell? ⟨g5, 5, none⟩ = some (.int .i64 c.p))
          (first | exact ⟨(by repeat' (first | exact Below.refl _ _ | refine Below.alloc ?_ ?_ _ | refine Below.setCell ?_ ?_ _ | refine Below.drew ?_ | (apply below_step; assumption) | (simp; done) | (simp; omega) | omega)), by simp, by simp, by simp, by go_simp⟩ | exact ⟨(by repeat' (first | exact Below.refl _ _ | refine Below.alloc ?_ ?_ _ | refine Below.setCell ?_ ?_ _ | refine Below.drew ?_ | (apply below_step; assumption) | (simp; done) | (simp; omega) | omega)), by omega, by go_simp, by go_simp, by go_simp⟩)
          (first | (go_at_call 214; refine (fieldShare_pos ⟨#[80, 111, 100, 115]⟩ u.p c.p _ (by assumption) (by assumption) (by assumption) (by assumption)).mono ?_; rintro e w4 ⟨rfl, hb4⟩; obtain ⟨hc4, hf4⟩ := bcell hb4; have hz4 := hb4.size; simp at hz4; have hs54 : g5 < w4.heap.size := by omega))
        have hy4 : CapAt y w4 := hyr.below (by repeat' (first | exact Below.refl _ _ | refine Below.alloc ?_ ?_ _ | refine Below.setCell ?_ ?_ _ | refine Below.drew ?_ | (apply below_step; assumption) | (simp; done) | (simp; omega) | omega)) (Nat.le_refl _)
        have hl4 := hy4.lt
        unfold CapAt at hy4
        clear hc4 hf4
        go_wp2_with fail
        refine (is_nil y _).mono ?_
        rintro e w5 ⟨rfl, rfl⟩
        go_wp2_with fail
        all_goals
          go_roundw
          case rel => exact ⟨3, by omega, rfl, val_int (by rw [HP.out]; omega), (by repeat' (first | exact Below.refl _ _ | refine Below.alloc ?_ ?_ _ | refine Below.setCell ?_ ?_ _ | refine Below.drew ?_ | (apply below_step; assumption) | (simp; done) | (simp; omega) | omega))⟩
          case measure => simp [intOf]
      · by_cases huse : 0 < u.p
        · have HV := Lib.hid (shr_over hcap huse)
          have HC0 := Lib.hid hcap
          clear hcap
          go_wp2_with fail
          go_region_held3 (fun w' => Below wr.heap.size wr w' ∧ wr.heap.size < w'.heap.size ∧ w'.cell? ⟨wr.heap.size, 0, none⟩ = some (.string ⟨#[80, 111, 100, 115]⟩) ∧ w'.cell? ⟨wr.heap.size, 1, none⟩ = some (.int .i64 u.p) ∧ w'.cell? ⟨g5, 5, none⟩ = some (.int .i64 c.p))
            (first | exact ⟨(by repeat' (first | exact Below.refl _ _ | refine Below.alloc ?_ ?_ _ | refine Below.setCell ?_ ?_ _ | refine Below.drew ?_ | (apply below_step; assumption) | (simp; done) | (simp; omega) | omega)), by simp, by simp, by simp, by go_simp⟩ | exact ⟨(by repeat' (first | exact Below.refl _ _ | refine Below.alloc ?_ ?_ _ | refine Below.setCell ?_ ?_ _ | refine Below.drew ?_ | (apply below_step; assumption) | (simp; done) | (simp; omega) | omega)), by omega, by go_simp, by go_simp, by go_simp⟩)
            (first | (go_at_call 214; refine (fieldShare_over ⟨#[80, 111, 100, 115]⟩ u.p c.p _ y ?_ (by have hh := HC0.out; omega) (by assumption)).mono ?_; (exact hyr.below (by repeat' (first | exact Below.refl _ _ | refine Below.alloc ?_ ?_ _ | refine Below.setCell ?_ ?_ _ | refine Below.drew ?_ | (apply below_step; assumption) | (simp; done) | (simp; omega) | omega)) (Nat.le_refl _)); rintro e w4 ⟨rfl, hb4⟩; obtain ⟨hc4, hf4⟩ := bcell hb4; have hz4 := hb4.size; simp at hz4; have hs54 : g5 < w4.heap.size := by omega))
          have hy4 : CapAt y w4 := hyr.below (by repeat' (first | exact Below.refl _ _ | refine Below.alloc ?_ ?_ _ | refine Below.setCell ?_ ?_ _ | refine Below.drew ?_ | (apply below_step; assumption) | (simp; done) | (simp; omega) | omega)) (Nat.le_refl _)
          have hl4 := hy4.lt
          unfold CapAt at hy4
          clear hc4 hf4
          go_wp2_with fail
          refine (is_field ⟨#[80, 111, 100, 115]⟩ y _).mono ?_
          rintro e w5 ⟨rfl, hb5⟩
          have hz5 := hb5.size
          go_wp2_with fail
          all_goals
            go_roundw
            case rel => exact ⟨3, by omega, rfl, val_int (by rw [HP.out, HV.out]; omega), (by repeat' (first | exact Below.refl _ _ | refine Below.alloc ?_ ?_ _ | refine Below.setCell ?_ ?_ _ | refine Below.drew ?_ | (apply below_step; assumption) | (simp; done) | (simp; omega) | omega))⟩
            case measure => simp [intOf]
        · have HV := Lib.hid (shr_none hcap huse)
          have HC0 := Lib.hid hcap
          have HU0 := Lib.hid huse
          clear hcap huse
          go_wp2_with fail
          go_region_held3 (fun w' => Below wr.heap.size wr w' ∧ wr.heap.size < w'.heap.size ∧ w'.cell? ⟨wr.heap.size, 0, none⟩ = some (.string ⟨#[80, 111, 100, 115]⟩) ∧ w'.cell? ⟨wr.heap.size, 1, none⟩ = some (.int .i64 u.p) ∧ w'.cell? ⟨g5, 5, none⟩ = some (.int .i64 c.p))
            (first | exact ⟨(by repeat' (first | exact Below.refl _ _ | refine Below.alloc ?_ ?_ _ | refine Below.setCell ?_ ?_ _ | refine Below.drew ?_ | (apply below_step; assumption) | (simp; done) | (simp; omega) | omega)), by simp, by simp, by simp, by go_simp⟩ | exact ⟨(by repeat' (first | exact Below.refl _ _ | refine Below.alloc ?_ ?_ _ | refine Below.setCell ?_ ?_ _ | refine Below.drew ?_ | (apply below_step; assumption) | (simp; done) | (simp; omega) | omega)), by omega, by go_simp, by go_simp, by go_simp⟩)
            (first | (go_at_call 214; refine (fieldShare_none ⟨#[80, 111, 100, 115]⟩ u.p c.p _ (by have hh := HC0.out; omega) (by have hh := HU0.out; omega)).mono ?_; rintro e w4 ⟨rfl, hb4⟩; obtain ⟨hc4, hf4⟩ := bcell hb4; have hz4 := hb4.size; simp at hz4; have hs54 : g5 < w4.heap.size := by omega))
          have hy4 : CapAt y w4 := hyr.below (by repeat' (first | exact Below.refl _ _ | refine Below.alloc ?_ ?_ _ | refine Below.setCell ?_ ?_ _ | refine Below.drew ?_ | (apply below_step; assumption) | (simp; done) | (simp; omega) | omega)) (Nat.le_refl _)
          have hl4 := hy4.lt
          unfold CapAt at hy4
          clear hc4 hf4
          go_wp2_with fail
          refine (is_nil y _).mono ?_
          rintro e w5 ⟨rfl, rfl⟩
          go_wp2_with fail
          all_goals
            go_roundw
            case rel => exact ⟨3, by omega, rfl, val_int (by rw [HP.out, HV.out]; omega), (by repeat' (first | exact Below.refl _ _ | refine Below.alloc ?_ ?_ _ | refine Below.setCell ?_ ?_ _ | refine Below.drew ?_ | (apply below_step; assumption) | (simp; done) | (simp; omega) | omega))⟩
            case measure => simp [intOf]

theorem ResShare_any (u c : RV) (w : World) (x y : Addr) (hg : ErrAt x w) (hy : CapAt y w) :
    Calls Tryz.prog 166 #[.agg #[.int .i64 u.c, .int .i64 u.m, .int .i64 u.p], .agg #[.int .i64 c.c, .int .i64 c.m, .int .i64 c.p]] w fun e w' => e = .returned (.int .i64 (resShare u c)) ∧ Below w.heap.size w w' := by
  by_cases h : u.ok = true ∧ c.ok = true
  · rw [resShare_in h.1 h.2]; exact ResShare_in u c w x y hg hy h.1 h.2
  · have h' : u.ok = false ∨ c.ok = false := by
      cases ha : u.ok
      · exact Or.inl rfl
      · cases hb : c.ok
        · exact Or.inr rfl
        · exact absurd ⟨ha, hb⟩ h
    rw [resShare_out h']; exact ResShare_out u c w x hg h'
theorem sResShare_any (u c : RV) (w : World) :
    Calls Tryz.prog 162 #[.agg #[.int .i64 u.c, .int .i64 u.m, .int .i64 u.p], .agg #[.int .i64 c.c, .int .i64 c.m, .int .i64 c.p]] w fun e w' => e = .returned (.int .i64 (resShare u c)) ∧ Below w.heap.size w w' := by
  cases hu : u.ok
  · rw [resShare_out (.inl hu)]; exact sResShare_out1 u c w hu
  · cases hc : c.ok
    · rw [resShare_out (.inr hc)]; exact sResShare_out2 u c w hu hc
    · rw [resShare_in hu hc]; exact sResShare_in u c w hu hc
end Go.Proofs.YtmkpajjnjgnmkaaGreatDoor

namespace Go.Proofs.YtmkpajjnjgnmkaaGreatDoor
open Go.RowKit

theorem boxes3 (w : World) (t0 t1 t2 : TypeId) (c0 c1 c2 : Array Value) {w2 : World} (hb : Below (((w.alloc (.cells c0 t0)).alloc (.cells c1 t1)).alloc (.cells c2 t2)).heap.size (((w.alloc (.cells c0 t0)).alloc (.cells c1 t1)).alloc (.cells c2 t2)) w2) :
    BlockIs w2 w.heap.size t0 c0 ∧ BlockIs w2 (w.heap.size + 1) t1 c1 ∧ BlockIs w2 (w.heap.size + 1 + 1) t2 c2 :=
  ⟨(((BlockIs.new w t0 c0).alloc _).alloc _).below hb (by simp; omega), (BlockIs.alloc (BlockIs.new' (by simp)) _).below hb (by simp), (BlockIs.new' (by simp)).below hb (by simp)⟩
end Go.Proofs.YtmkpajjnjgnmkaaGreatDoor

namespace Go.Proofs.YtmkpajjnjgnmkaaGreatDoor
open Go.RowKit

def takesV (n : NV) (t : TV) : Bool := !n.cordon && hosts n t
def roomV (c : CV) (n : NV) (t : TV) : Bool := (freeOf c n).2 && resSubOk (freeOf c n).1 t.need
def scoreV (c : CV) (n : NV) (t : TV) : Int := if roomV c n t then resShare (resAdd (usedOf c n.id).1 t.need) n.cap else -1
def scoreG (c : CV) (nz tz : Int) : Int := match fstBy NV.id c.nodes nz, fstBy TV.id c.tasks tz with
  | some n, some t => if clusterOk c && takesV n t then scoreV c n t else -1
  | _, _ => -1
set_option maxHeartbeats 1600000 in
theorem takes_any (n : NV) (t : TV) (ns ts : List Value) (w0 w : World) (hw : Below w0.heap.size w0 w) (hn : NodeR w0 n ns) (ht : TaskR w0 t ts) :
    Calls Tryz.prog 110 #[.agg ns.toArray, .agg ts.toArray] w fun e w' => e = .returned (.bool (takesV n t)) ∧ Below w.heap.size w w' := by
  obtain ⟨u1, u2, rfl, k1, k2, m1, m2⟩ := hn
  obtain ⟨v1, v2, rfl, h1, h2, l1, l2⟩ := ht
  have hch := fun w1 hw1 => marksAllow_any n t u1 u2 v1 v2 w1 (k1.below hw1) (k2.below hw1) (h1.below hw1) (h2.below hw1) m1 m2 l1 l2
  obtain ⟨A1, c1, rfl, _⟩ := k1.form
  obtain ⟨A2, c2, rfl, _⟩ := k2.form
  obtain ⟨B1, d1, rfl, _⟩ := h1.form
  obtain ⟨B2, d2, rfl, _⟩ := h2.form
  have hE : takesV n t = (!n.cordon && hosts n t) := rfl
  generalize hosts n t = b at hch hE
  generalize takesV n t = r at hE ⊢
  have HE := Lib.hid hE
  have HW := Lib.hid hw
  clear k1 k2 h1 h2 hE hw
  cases hcd : n.cordon
  all_goals
    rw [hcd] at hch
    have HCD := Lib.hid hcd
    have HCH := Lib.hid hch
    clear hcd hch
    go_enter Tryz.func110, Tryz.ntmps110
    go_wp2_with fail
  · have hX : Below w.heap.size w ((w.alloc (.cells #[.int .i64 n.id, .int .i64 n.pool, .int .i64 n.cap.c, .int .i64 n.cap.m, .int .i64 n.cap.p, .slice A1 n.labs.length c1, .slice A2 n.taints.length c2, .bool false] 83)).alloc (.cells #[.int .i64 t.id, .int .i64 t.prio, .int .i64 t.need.c, .int .i64 t.need.m, .int .i64 t.need.p, .slice B1 t.want.length d1, .slice B2 t.tols.length d2] 88)) := (by repeat' (first | exact Below.refl _ _ | refine Below.alloc ?_ ?_ _ | refine Below.setCell ?_ ?_ _ | refine Below.drew ?_ | (apply below_step; assumption) | (simp; done) | (simp; omega) | omega))
    refine (HCH.out _ (below_of HW.out hX)).mono ?_
    rintro e w2 ⟨rfl, hb2⟩
    have hC2 := below_of hX hb2
    go_wp2_with fail
    go_ret
    exact ⟨by rw [HE.out, HCD.out]; rfl, hC2⟩
  · go_ret
    exact ⟨by rw [HE.out, HCD.out]; rfl, (by repeat' (first | exact Below.refl _ _ | refine Below.alloc ?_ ?_ _ | refine Below.setCell ?_ ?_ _ | refine Below.drew ?_ | (apply below_step; assumption) | (simp; done) | (simp; omega) | omega))⟩

set_option maxHeartbeats 3200000 in
theorem hasRoom_any (c : CV) (n : NV) (t : TV) (a0 a1 a2 : Value) (ns ts : List Value) (w0 w : World) (hw : Below w0.heap.size w0 w) (x : Addr) (hg : ErrAt x w) (hc : CluR w0 c a0 a1 a2) (hn : NodeR w0 n ns) (ht : TaskR w0 t ts) :
    Calls Tryz.prog 164 #[.agg #[a0, a1, a2], .agg ns.toArray, .agg ts.toArray] w fun e w' => e = .returned (.bool (roomV c n t)) ∧ Below w.heap.size w w' := by
  obtain ⟨u1, u2, rfl, k1, k2, m1, m2⟩ := hn
  obtain ⟨v1, v2, rfl, h1, h2, l1, l2⟩ := ht
  have hfr := fun w1 hw1 hg1 => freeOn_any c n a0 a1 a2 u1 u2 w0 w1 hw1 x hg1 hc k1 k2
  obtain ⟨D0, e0, rfl, _⟩ := hc.1.form
  obtain ⟨D1, e1, rfl, _⟩ := hc.2.1.form
  obtain ⟨D2, e2, rfl, _⟩ := hc.2.2.1.form
  obtain ⟨A1, c1, rfl, _⟩ := k1.form
  obtain ⟨A2, c2, rfl, _⟩ := k2.form
  obtain ⟨B1, d1, rfl, _⟩ := h1.form
  obtain ⟨B2, d2, rfl, _⟩ := h2.form
  have hE : roomV c n t = ((freeOf c n).2 && resSubOk (freeOf c n).1 t.need) := rfl
  generalize (freeOf c n).2 = ok at hfr hE
  generalize (freeOf c n).1 = f at hfr hE
  have hfit := fun w1 hg1 => ResFits_any t.need f w1 x hg1
  generalize resSubOk f t.need = fit at hfit hE
  generalize roomV c n t = r at hE ⊢
  have HE := Lib.hid hE
  have HFR := Lib.hid hfr
  have HFI := Lib.hid hfit
  have HW := Lib.hid hw
  have HG := Lib.hid hg
  clear k1 k2 h1 h2 hE hw hg hfr hfit hc m1 m2 l1 l2
  go_enter Tryz.func164, Tryz.ntmps164
  go_wp2_with fail
  have hX : Below w.heap.size w (((w.alloc (.cells #[.slice D0 c.tasks.length e0, .slice D1 c.nodes.length e1, .slice D2 c.binds.length e2] 35)).alloc (.cells #[.int .i64 n.id, .int .i64 n.pool, .int .i64 n.cap.c, .int .i64 n.cap.m, .int .i64 n.cap.p, .slice A1 n.labs.length c1, .slice A2 n.taints.length c2, .bool n.cordon] 83)).alloc (.cells #[.int .i64 t.id, .int .i64 t.prio, .int .i64 t.need.c, .int .i64 t.need.m, .int .i64 t.need.p, .slice B1 t.want.length d1, .slice B2 t.tols.length d2] 88)) := (by repeat' (first | exact Below.refl _ _ | refine Below.alloc ?_ ?_ _ | refine Below.setCell ?_ ?_ _ | refine Below.drew ?_ | (apply below_step; assumption) | (simp; done) | (simp; omega) | omega))
  refine (HFR.out _ (below_of HW.out hX) (HG.out.below hX (Nat.le_refl _))).mono ?_
  rintro e w2 ⟨rfl, hb2⟩
  have hC2 := below_of hX hb2
  obtain ⟨-, -, BT⟩ := boxes3 _ _ _ _ _ _ _ hb2
  have t2 := BT.cell 2
  have t3 := BT.cell 3
  have t4 := BT.cell 4
  have tl := BT.lt
  simp at t2 t3 t4
  clear hb2 hX BT
  cases ok
  · go_wp2_with fail
    go_ret
    exact ⟨by rw [HE.out]; rfl, (by repeat' (first | exact Below.refl _ _ | refine Below.alloc ?_ ?_ _ | refine Below.setCell ?_ ?_ _ | refine Below.drew ?_ | (apply below_step; assumption) | (simp; done) | (simp; omega) | omega))⟩
  · go_wp2_with fail
    have hX2 : Below w2.heap.size w2 (w2.alloc (.cells #[.int .i64 f.c, .int .i64 f.m, .int .i64 f.p] 57)) := (by repeat' (first | exact Below.refl _ _ | refine Below.alloc ?_ ?_ _ | refine Below.setCell ?_ ?_ _ | refine Below.drew ?_ | (apply below_step; assumption) | (simp; done) | (simp; omega) | omega))
    have hCX := below_of hC2 hX2
    refine (HFI.out _ (HG.out.below hCX (Nat.le_refl _))).mono ?_
    rintro e w3 ⟨rfl, hb3⟩
    have hC3 := below_of hCX hb3
    go_wp2_with fail
    go_ret
    exact ⟨by rw [HE.out]; rfl, hC3⟩

set_option maxHeartbeats 3200000 in
theorem scoreOn_any (c : CV) (n : NV) (t : TV) (a0 a1 a2 : Value) (ns ts : List Value) (w0 w : World) (hw : Below w0.heap.size w0 w) (x y : Addr) (hg : ErrAt x w) (hy : CapAt y w) (hc : CluR w0 c a0 a1 a2) (hn : NodeR w0 n ns) (ht : TaskR w0 t ts) :
    Calls Tryz.prog 111 #[.agg #[a0, a1, a2], .agg ns.toArray, .agg ts.toArray] w fun e w' => e = .returned (.int .i64 (scoreV c n t)) ∧ Below w.heap.size w w' := by
  have hro := fun w1 hw1 hg1 => hasRoom_any c n t a0 a1 a2 ns ts w0 w1 hw1 x hg1 hc hn ht
  have hus := fun w1 hw1 hg1 => usedOn_any c a0 a1 a2 n.id w0 w1 hw1 x hg1 hc
  obtain ⟨u1, u2, rfl, k1, k2, m1, m2⟩ := hn
  obtain ⟨v1, v2, rfl, h1, h2, l1, l2⟩ := ht
  obtain ⟨D0, e0, rfl, _⟩ := hc.1.form
  obtain ⟨D1, e1, rfl, _⟩ := hc.2.1.form
  obtain ⟨D2, e2, rfl, _⟩ := hc.2.2.1.form
  obtain ⟨A1, c1, rfl, _⟩ := k1.form
  obtain ⟨A2, c2, rfl, _⟩ := k2.form
  obtain ⟨B1, d1, rfl, _⟩ := h1.form
  obtain ⟨B2, d2, rfl, _⟩ := h2.form
  have hE : scoreV c n t = if roomV c n t then resShare (resAdd (usedOf c n.id).1 t.need) n.cap else -1 := rfl
  generalize roomV c n t = ro at hro hE
  generalize (usedOf c n.id).1 = u at hus hE
  generalize (usedOf c n.id).2 = uo at hus
  have had := fun w1 hg1 => ResAdd_any u t.need w1 x hg1
  generalize resAdd u t.need = s at had hE
  generalize resAddOk u t.need = so at had
  have hsh := fun w1 hg1 hy1 => ResShare_any s n.cap w1 x y hg1 hy1
  generalize resShare s n.cap = sh at hsh hE
  generalize scoreV c n t = r at hE ⊢
  have HE := Lib.hid hE
  have HRO := Lib.hid hro
  have HUS := Lib.hid hus
  have HAD := Lib.hid had
  have HSH := Lib.hid hsh
  have HW := Lib.hid hw
  have HG := Lib.hid hg
  have HY := Lib.hid hy
  clear k1 k2 h1 h2 hE hw hg hy hro hus had hsh hc m1 m2 l1 l2
  go_enter Tryz.func111, Tryz.ntmps111
  go_wp2_with fail
  have hX : Below w.heap.size w (((w.alloc (.cells #[.slice D0 c.tasks.length e0, .slice D1 c.nodes.length e1, .slice D2 c.binds.length e2] 35)).alloc (.cells #[.int .i64 n.id, .int .i64 n.pool, .int .i64 n.cap.c, .int .i64 n.cap.m, .int .i64 n.cap.p, .slice A1 n.labs.length c1, .slice A2 n.taints.length c2, .bool n.cordon] 83)).alloc (.cells #[.int .i64 t.id, .int .i64 t.prio, .int .i64 t.need.c, .int .i64 t.need.m, .int .i64 t.need.p, .slice B1 t.want.length d1, .slice B2 t.tols.length d2] 88)) := (by repeat' (first | exact Below.refl _ _ | refine Below.alloc ?_ ?_ _ | refine Below.setCell ?_ ?_ _ | refine Below.drew ?_ | (apply below_step; assumption) | (simp; done) | (simp; omega) | omega))
  refine (HRO.out _ (below_of HW.out hX) (HG.out.below hX (Nat.le_refl _))).mono ?_
  rintro e w2 ⟨rfl, hb2⟩
  have hC2 := below_of hX hb2
  obtain ⟨BC, BN, BT⟩ := boxes3 _ _ _ _ _ _ _ hb2
  have g0 := BC.cell 0
  have g1 := BC.cell 1
  have g2 := BC.cell 2
  have n0 := BN.cell 0
  have cl := BC.lt
  have nl := BN.lt
  simp at g0 g1 g2 n0
  have HBN := Lib.hid BN
  have HBT := Lib.hid BT
  clear hb2 hX BC BN BT
  cases ro
  · go_wp2_with fail
    go_ret
    exact ⟨by rw [HE.out]; rfl, hC2⟩
  · go_wp2_with fail
    refine (HUS.out _ (below_of HW.out hC2) (HG.out.below hC2 (Nat.le_refl _))).mono ?_
    rintro e w3 ⟨rfl, hb3⟩
    have hC3 := below_of hC2 hb3
    have BN := HBN.out.below hb3 HBN.out.lt
    have BT := HBT.out.below hb3 HBT.out.lt
    have t2 := BT.cell 2
    have t3 := BT.cell 3
    have t4 := BT.cell 4
    have tl := BT.lt
    simp at t2 t3 t4
    have HBN3 := Lib.hid BN
    clear hb3 g0 g1 g2 n0 BT BN HBN HBT
    go_wp2_with fail
    have hX3 : Below w3.heap.size w3 (w3.alloc (.cells #[.int .i64 u.c, .int .i64 u.m, .int .i64 u.p] 57)) := (by repeat' (first | exact Below.refl _ _ | refine Below.alloc ?_ ?_ _ | refine Below.setCell ?_ ?_ _ | refine Below.drew ?_ | (apply below_step; assumption) | (simp; done) | (simp; omega) | omega))
    have hCX := below_of hC3 hX3
    refine (HAD.out _ (HG.out.below hCX (Nat.le_refl _))).mono ?_
    rintro e w4 ⟨rfl, hb4⟩
    have hD4 := below_of hX3 hb4
    have hC4 := below_of hC3 hD4
    have BN := HBN3.out.below hD4 HBN3.out.lt
    have n2 := BN.cell 2
    have n3 := BN.cell 3
    have n4 := BN.cell 4
    have nl := BN.lt
    simp at n2 n3 n4
    clear hb4 t2 t3 t4 BN HBN3 hX3 hCX
    go_wp2_with fail
    have hX4 : Below w4.heap.size w4 (w4.alloc (.cells #[.int .i64 s.c, .int .i64 s.m, .int .i64 s.p] 57)) := (by repeat' (first | exact Below.refl _ _ | refine Below.alloc ?_ ?_ _ | refine Below.setCell ?_ ?_ _ | refine Below.drew ?_ | (apply below_step; assumption) | (simp; done) | (simp; omega) | omega))
    have hCX := below_of hC4 hX4
    refine (HSH.out _ (HG.out.below hCX (Nat.le_refl _)) (HY.out.below hCX (Nat.le_refl _))).mono ?_
    rintro e w5 ⟨rfl, hb5⟩
    have hC5 := below_of hCX hb5
    go_wp2_with fail
    go_ret
    exact ⟨by rw [HE.out]; rfl, hC5⟩

set_option maxHeartbeats 6400000 in
theorem Score_any (c : CV) (a0 a1 a2 : Value) (nz tz : Int) (w : World) (x y : Addr) (hg : ErrAt x w) (hy : CapAt y w) (hc : CluR w c a0 a1 a2) :
    Calls Tryz.prog 52 #[.agg #[a0, a1, a2], .int .i64 nz, .int .i64 tz] w fun e w' => e = .returned (.int .i64 (scoreG c nz tz)) ∧ Below w.heap.size w w' := by
  have hfn := fun w1 hw1 => findNode_any c a0 a1 a2 nz w w1 hw1 hc
  have hft := fun w1 hw1 => findTask_any c a0 a1 a2 tz w w1 hw1 hc
  have hok := fun w1 hg1 hw1 => ClusterOk_any c a0 a1 a2 w1 x hg1 (hc.below hw1)
  have htk := fun n t ns ts w1 hw1 hn ht => takes_any n t ns ts w w1 hw1 hn ht
  have hso := fun n t ns ts w1 hw1 hg1 hy1 hn ht => scoreOn_any c n t a0 a1 a2 ns ts w w1 hw1 x y hg1 hy1 hc hn ht
  have hE : scoreG c nz tz = match fstBy NV.id c.nodes nz, fstBy TV.id c.tasks tz with
    | some n, some t => if clusterOk c && takesV n t then scoreV c n t else -1
    | _, _ => -1 := rfl
  obtain ⟨D0, e0, rfl, _⟩ := hc.1.form
  obtain ⟨D1, e1, rfl, _⟩ := hc.2.1.form
  obtain ⟨D2, e2, rfl, _⟩ := hc.2.2.1.form
  generalize fstBy NV.id c.nodes nz = o1 at hfn hE
  generalize fstBy TV.id c.tasks tz = o2 at hft hE
  generalize clusterOk c = ok at hok hE
  generalize scoreG c nz tz = r at hE ⊢
  have HE := Lib.hid hE
  have HFN := Lib.hid hfn
  have HFT := Lib.hid hft
  have HOK := Lib.hid hok
  have HTK := Lib.hid htk
  have HSO := Lib.hid hso
  have HG := Lib.hid hg
  have HY := Lib.hid hy
  clear hE hfn hft hok htk hso hg hy hc
  go_enter Tryz.func52, Tryz.ntmps52
  go_wp2_with fail
  have hX : Below w.heap.size w (w.alloc (.cells #[.slice D0 c.tasks.length e0, .slice D1 c.nodes.length e1, .slice D2 c.binds.length e2] 35)) := (by repeat' (first | exact Below.refl _ _ | refine Below.alloc ?_ ?_ _ | refine Below.setCell ?_ ?_ _ | refine Below.drew ?_ | (apply below_step; assumption) | (simp; done) | (simp; omega) | omega))
  refine (HFN.out _ hX).mono ?_
  rintro e w2 ⟨ns, rfl, hn, hb2⟩
  have hC2 := below_of hX hb2
  have BC := (BlockIs.new w 35 #[.slice D0 c.tasks.length e0, .slice D1 c.nodes.length e1, .slice D2 c.binds.length e2]).below hb2 (by simp)
  have g0 := BC.cell 0
  have g1 := BC.cell 1
  have g2 := BC.cell 2
  have cl := BC.lt
  simp at g0 g1 g2
  have HN := Lib.hid hn
  have HBC := Lib.hid BC
  generalize hgn : o1.getD NV.zero = n at hn HN
  have HGN := Lib.hid hgn
  obtain ⟨u1, u2, rfl, k1, k2, m1, m2⟩ := hn
  obtain ⟨A1, c1, rfl, _⟩ := k1.form
  obtain ⟨A2, c2, rfl, _⟩ := k2.form
  clear k1 k2 m1 m2 hb2 BC hgn hX
  go_wp2_with fail
  have hX2 : Below w2.heap.size w2 (w2.alloc (.cells #[.int .i64 n.id, .int .i64 n.pool, .int .i64 n.cap.c, .int .i64 n.cap.m, .int .i64 n.cap.p, .slice A1 n.labs.length c1, .slice A2 n.taints.length c2, .bool n.cordon] 83)) := (by repeat' (first | exact Below.refl _ _ | refine Below.alloc ?_ ?_ _ | refine Below.setCell ?_ ?_ _ | refine Below.drew ?_ | (apply below_step; assumption) | (simp; done) | (simp; omega) | omega))
  have hCX2 := below_of hC2 hX2
  refine (HFT.out _ hCX2).mono ?_
  rintro e w3 ⟨ts, rfl, ht, hb3⟩
  have hD3 := below_of hX2 hb3
  have hC3 := below_of hC2 hD3
  have BN := (BlockIs.new w2 83 #[.int .i64 n.id, .int .i64 n.pool, .int .i64 n.cap.c, .int .i64 n.cap.m, .int .i64 n.cap.p, .slice A1 n.labs.length c1, .slice A2 n.taints.length c2, .bool n.cordon]).below hb3 (by simp)
  have BC := HBC.out.below hD3 HBC.out.lt
  have g0 := BC.cell 0
  have g1 := BC.cell 1
  have g2 := BC.cell 2
  have cl := BC.lt
  simp at g0 g1 g2
  have HT := Lib.hid ht
  have HBC3 := Lib.hid BC
  have HBN3 := Lib.hid BN
  generalize hgt : o2.getD TV.zero = t at ht HT
  have HGT := Lib.hid hgt
  obtain ⟨v1, v2, rfl, h1, h2, l1, l2⟩ := ht
  obtain ⟨B1, d1, rfl, _⟩ := h1.form
  obtain ⟨B2, d2, rfl, _⟩ := h2.form
  clear h1 h2 l1 l2 hb3 BC BN hgt hX2 hCX2 hD3 HBC
  have hX3 : Below w3.heap.size w3 (w3.alloc (.cells #[.int .i64 t.id, .int .i64 t.prio, .int .i64 t.need.c, .int .i64 t.need.m, .int .i64 t.need.p, .slice B1 t.want.length d1, .slice B2 t.tols.length d2] 88)) := (by repeat' (first | exact Below.refl _ _ | refine Below.alloc ?_ ?_ _ | refine Below.setCell ?_ ?_ _ | refine Below.drew ?_ | (apply below_step; assumption) | (simp; done) | (simp; omega) | omega))
  have hCX3 := below_of hC3 hX3
  cases o1 with
  | none =>
    go_wp2_with fail
    go_ret
    exact ⟨by rw [HE.out] <;> rfl, hCX3⟩
  | some n' =>
    cases o2 with
    | none =>
      go_wp2_with fail
      go_ret
      exact ⟨by rw [HE.out] <;> rfl, hCX3⟩
    | some t' =>
      obtain rfl : n = n' := HGN.out.symm
      obtain rfl : t = t' := HGT.out.symm
      go_wp2_with fail
      refine (HOK.out _ (HG.out.below hCX3 (Nat.le_refl _)) hCX3).mono ?_
      rintro e w4 ⟨rfl, hb4⟩
      have hD4 := below_of hX3 hb4
      have hC4 := below_of hC3 hD4
      have BC := HBC3.out.below hD4 HBC3.out.lt
      have BN := HBN3.out.below hD4 HBN3.out.lt
      have BT := (BlockIs.new w3 88 #[.int .i64 t.id, .int .i64 t.prio, .int .i64 t.need.c, .int .i64 t.need.m, .int .i64 t.need.p, .slice B1 t.want.length d1, .slice B2 t.tols.length d2]).below hb4 (by simp)
      have HBC4 := Lib.hid BC
      have HBN4 := Lib.hid BN
      have HBT4 := Lib.hid BT
      have n0 := BN.cell 0; have n1 := BN.cell 1; have n2 := BN.cell 2; have n3 := BN.cell 3; have n4 := BN.cell 4; have n5 := BN.cell 5; have n6 := BN.cell 6; have n7 := BN.cell 7
      have t0 := BT.cell 0; have t1 := BT.cell 1; have t2 := BT.cell 2; have t3 := BT.cell 3; have t4 := BT.cell 4; have t5 := BT.cell 5; have t6 := BT.cell 6
      have nl := BN.lt
      have tl := BT.lt
      simp at n0 n1 n2 n3 n4 n5 n6 n7 t0 t1 t2 t3 t4 t5 t6
      clear hb4 hX3 hCX3 hD4 HBC3 HBN3 BC BN BT g0 g1 g2
      cases ok
      · go_wp2_with fail
        go_ret
        exact ⟨by rw [HE.out]; rfl, hC4⟩
      · go_wp2_with fail
        refine (HTK.out n t _ _ _ hC4 HN.out HT.out).mono ?_
        rintro e w5 ⟨rfl, hb5⟩
        have hC5 := below_of hC4 hb5
        have BC := HBC4.out.below hb5 HBC4.out.lt
        have BN := HBN4.out.below hb5 HBN4.out.lt
        have BT := HBT4.out.below hb5 HBT4.out.lt
        have g0 := BC.cell 0; have g1 := BC.cell 1; have g2 := BC.cell 2
        have n0 := BN.cell 0; have n1 := BN.cell 1; have n2 := BN.cell 2; have n3 := BN.cell 3; have n4 := BN.cell 4; have n5 := BN.cell 5; have n6 := BN.cell 6; have n7 := BN.cell 7
        have t0 := BT.cell 0; have t1 := BT.cell 1; have t2 := BT.cell 2; have t3 := BT.cell 3; have t4 := BT.cell 4; have t5 := BT.cell 5; have t6 := BT.cell 6
        have cl := BC.lt
        have nl := BN.lt
        have tl := BT.lt
        simp at g0 g1 g2 n0 n1 n2 n3 n4 n5 n6 n7 t0 t1 t2 t3 t4 t5 t6
        clear hb5 BC BN BT HBC4 HBN4 HBT4
        have HR := Lib.hid (show r = if takesV n t then scoreV c n t else -1 by rw [HE.out]; simp)
        generalize takesV n t = tk at HR
        cases tk
        · go_wp2_with fail
          go_ret
          exact ⟨by rw [HR.out]; rfl, hC5⟩
        · go_wp2_with fail
          refine (HSO.out n t _ _ _ hC5 (HG.out.below hC5 (Nat.le_refl _)) (HY.out.below hC5 (Nat.le_refl _)) HN.out HT.out).mono ?_
          rintro e w6 ⟨rfl, hb6⟩
          have hC6 := below_of hC5 hb6
          go_wp2_with fail
          go_ret
          exact ⟨by rw [HR.out]; rfl, hC6⟩
end Go.Proofs.YtmkpajjnjgnmkaaGreatDoor

namespace Go.Proofs.YtmkpajjnjgnmkaaGreatDoor
open Go.RowKit

theorem nodesFrom_ok {p : Int} {l : List NV} (h : nodesFrom p l = true) : ∀ n ∈ l, n.ok = true := by
  induction l generalizing p with
  | nil => intro n hn; cases hn
  | cons x r ih =>
    simp only [nodesFrom, Bool.and_eq_true] at h
    intro n hn
    rcases List.mem_cons.1 hn with rfl | hn
    · exact h.1.1
    · exact ih h.2 n hn
theorem tasksFrom_ok {s : List Int} {l : List TV} (h : tasksFrom s l = true) : ∀ t ∈ l, t.ok = true := by
  induction l generalizing s with
  | nil => intro n hn; cases hn
  | cons x r ih =>
    simp only [tasksFrom, Bool.and_eq_true] at h
    intro n hn
    rcases List.mem_cons.1 hn with rfl | hn
    · exact h.1.1
    · exact ih h.2 n hn
theorem clusterOk_task {c : CV} (h : clusterOk c = true) {z : Int} {t : TV} (ht : fstBy TV.id c.tasks z = some t) : t.ok = true := by
  simp only [clusterOk, tasksOk, Bool.and_eq_true] at h
  exact tasksFrom_ok h.1.1.1.2 t (fstBy_mem ht)
def scoreM (c : CV) (nz tz : Int) : Int := match fstBy NV.id c.nodes nz, fstBy TV.id c.tasks tz with
  | some n, some t => if n.cordon || !hosts n t || !resSubOk (resSub n.cap (usedOf c nz).1) t.need then -1 else resShare (resAdd (usedOf c nz).1 t.need) n.cap
  | _, _ => -1
theorem scoreM_eq {c : CV} (h : clusterOk c = true) (nz tz : Int) : scoreM c nz tz = scoreG c nz tz := by
  unfold scoreM scoreG
  cases hn : fstBy NV.id c.nodes nz with
  | none => rfl
  | some n =>
    cases ht : fstBy TV.id c.tasks tz with
    | none => rfl
    | some t =>
      have hz := fstBy_key hn
      have hf := freeOf_ok (fitsAll_mem (clusterOk_fits h) (fstBy_mem hn))
      simp only [h, takesV, scoreV, roomV, hf, hz, Bool.true_and]
      cases n.cordon <;> cases hosts n t <;> cases resSubOk (resSub n.cap (usedOf c nz).1) t.need <;> simp
theorem cellK {X w' : World} {p : Addr} {v : Value} (hb : Below X.heap.size X w') (h : X.cell? p = some v) : w'.cell? p = some v := (hb.cell (World.block_lt_of_cell? _ _ h)).trans h

set_option maxHeartbeats 6400000 in
set_option maxRecDepth 20000 in
theorem l04Score_any (c : CV) (a0 a1 a2 : Value) (nz tz : Int) (w : World) (hc : CluR w c a0 a1 a2) (hok : clusterOk c = true) :
    Calls Tryz.prog 109 #[.agg #[a0, a1, a2], .int .i64 nz, .int .i64 tz] w fun e w' => e = .returned (.int .i64 (scoreM c nz tz)) ∧ Below w.heap.size w w' := by
  have hall := bindsFrom_all (clusterOk_binds hok)
  have hin := fun w1 hw1 => sNode_any c a0 a1 a2 nz w w1 hw1 hc
  have hit := fun w1 hw1 => sTask_any c a0 a1 a2 tz w w1 hw1 hc
  have hus := fun w1 hw1 => sUsed_any c a0 a1 a2 nz w w1 hw1 hc hall
  have hfr := fun n hn w1 hw1 => l03Free_any c a0 a1 a2 nz n w1 (hc.below hw1) hall hn
  have hE : scoreM c nz tz = match fstBy NV.id c.nodes nz, fstBy TV.id c.tasks tz with
    | some n, some t => if n.cordon || !hosts n t || !resSubOk (resSub n.cap (usedOf c nz).1) t.need then -1 else resShare (resAdd (usedOf c nz).1 t.need) n.cap
    | _, _ => -1 := rfl
  obtain ⟨D0, D1, D2, e0, e1, e2, rfl, rfl, rfl, hF⟩ := hc.full
  generalize (usedOf c nz).1 = u at hus hfr hE
  generalize (usedOf c nz).2 = uo at hus
  generalize scoreM c nz tz = r at hE ⊢
  have l0 := hF.l0
  have l1 := hF.l1
  have HF := Lib.hid hF
  have HUS := Lib.hid hus
  have HFR := Lib.hid hfr
  have HE := Lib.hid hE
  generalize hjn : idxBy NV.id c.nodes nz = jn at hin
  generalize hjt : idxBy TV.id c.tasks tz = jt at hit
  have HJN := Lib.hid hjn
  have HJT := Lib.hid hjt
  have HIN := Lib.hid hin
  have HIT := Lib.hid hit
  clear hin hit hus hfr hE hF hc hall hjn hjt
  have hnn : ∀ m : Nat, decide ((m : Int) < 0) = false := fun m => by simp
  go_enter Tryz.func109, Tryz.ntmps109
  go_wp2_with fail
  have hX : Below w.heap.size w (w.alloc (.cells #[.slice D0 c.tasks.length e0, .slice D1 c.nodes.length e1, .slice D2 c.binds.length e2] 35)) := (by repeat' (first | exact Below.refl _ _ | refine Below.alloc ?_ ?_ _ | refine Below.setCell ?_ ?_ _ | refine Below.drew ?_ | (apply below_step; assumption) | (simp; done) | (simp; omega) | omega))
  refine (HIN.out _ hX).mono ?_
  rintro e w2 ⟨rfl, hb2⟩
  have hC2 := below_of hX hb2
  have BC := (BlockIs.new w 35 #[.slice D0 c.tasks.length e0, .slice D1 c.nodes.length e1, .slice D2 c.binds.length e2]).below hb2 (by simp)
  have g0 := BC.cell 0
  have g1 := BC.cell 1
  have g2 := BC.cell 2
  have cl := BC.lt
  simp at g0 g1 g2
  have HBC := Lib.hid BC
  clear hb2 BC hX
  go_wp2_with fail
  refine (HIT.out _ hC2).mono ?_
  rintro e w3 ⟨rfl, hb3⟩
  have hC3 := below_of hC2 hb3
  have HBC3 := Lib.hid (HBC.out.below hb3 HBC.out.lt)
  have cl := HBC3.out.lt
  clear hb3 HBC g0 g1 g2 hC2
  cases hfn : fstBy NV.id c.nodes nz with
  | none =>
    obtain rfl : jn = -1 := by rw [← HJN.out]; exact idxBy_none hfn
    have HR := Lib.hid (show r = -1 by rw [HE.out, hfn])
    clear hfn HJN HJT hnn
    go_wp2_with fail
    refine wp_region_held_drew (S := (fun w' => Below w3.heap.size w3 w')) (by kernel_rfl) (by (try dsimp only); exact (by repeat' (first | exact Below.refl _ _ | refine Below.alloc ?_ ?_ _ | refine Below.setCell ?_ ?_ _ | refine Below.drew ?_ | (apply below_step; assumption) | (simp; done) | (simp; omega) | omega))) (fun hHeld => ?_)
    refine hT 0 ?_; simp only [Act.put, rhA, rhS, rhT]
    refine hT 1 ?_; simp only [Act.put, rhA, rhS, rhT]
    refine hT 2 ?_; simp only [Act.put, rhA, rhS, rhT]
    refine hP 3 ?_; simp only [Act.put, rhA, rhS, rhT]
    refine hP 4 ?_; simp only [Act.put, rhA, rhS, rhT]
    refine hT 5 ?_; simp only [Act.put, rhA, rhS, rhT]
    refine hT 6 ?_; simp only [Act.put, rhA, rhS, rhT]
    refine hP 7 ?_; simp only [Act.put, rhA, rhS, rhT]
    refine hP 8 ?_; simp only [Act.put, rhA, rhS, rhT]
    refine hP 9 ?_; simp only [Act.put, rhA, rhS, rhT]
    refine hP 10 ?_; simp only [Act.put, rhA, rhS, rhT]
    refine hP 11 ?_; simp only [Act.put, rhA, rhS, rhT]
    refine hP 12 ?_; simp only [Act.put, rhA, rhS, rhT]
    refine hT 13 ?_; simp only [Act.put, rhA, rhS, rhT]
    refine hT 14 ?_; simp only [Act.put, rhA, rhS, rhT]
    refine hP 15 ?_; simp only [Act.put, rhA, rhS, rhT]
    refine hP 16 ?_; simp only [Act.put, rhA, rhS, rhT]
    refine hP 17 ?_; simp only [Act.put, rhA, rhS, rhT]
    refine hP 18 ?_; simp only [Act.put, rhA, rhS, rhT]
    refine hP 19 ?_; simp only [Act.put, rhA, rhS, rhT]
    refine hP 20 ?_; simp only [Act.put, rhA, rhS, rhT]
    refine hP 21 ?_; simp only [Act.put, rhA, rhS, rhT]
    refine hP 22 ?_; simp only [Act.put, rhA, rhS, rhT]
    refine hP 23 ?_; simp only [Act.put, rhA, rhS, rhT]
    refine hP 24 ?_; simp only [Act.put, rhA, rhS, rhT]
    refine hP 25 ?_; simp only [Act.put, rhA, rhS, rhT]
    refine hP 26 ?_; simp only [Act.put, rhA, rhS, rhT]
    refine hT 27 ?_; simp only [Act.put, rhA, rhS, rhT]
    refine hT 28 ?_; simp only [Act.put, rhA, rhS, rhT]
    refine hP 29 ?_; simp only [Act.put, rhA, rhS, rhT]
    refine hP 30 ?_; simp only [Act.put, rhA, rhS, rhT]
    refine hP 31 ?_; simp only [Act.put, rhA, rhS, rhT]
    refine hP 32 ?_; simp only [Act.put, rhA, rhS, rhT]
    refine hP 33 ?_; simp only [Act.put, rhA, rhS, rhT]
    refine hP 34 ?_; simp only [Act.put, rhA, rhS, rhT]
    refine hP 35 ?_; simp only [Act.put, rhA, rhS, rhT]
    refine hP 36 ?_; simp only [Act.put, rhA, rhS, rhT]
    refine hP 37 ?_; simp only [Act.put, rhA, rhS, rhT]
    refine hP 38 ?_; simp only [Act.put, rhA, rhS, rhT]
    refine hP 39 ?_; simp only [Act.put, rhA, rhS, rhT]
    refine hT 40 ?_; simp only [Act.put, rhA, rhS, rhT]
    refine wpAnyH_done (by kernel_rfl) ?_ _
    go_wp2_with fail
    go_ret
    exact ⟨by rw [HR.out]; rfl, below_of hC3 (by repeat' (first | exact Below.refl _ _ | refine Below.alloc ?_ ?_ _ | refine Below.setCell ?_ ?_ _ | refine Below.drew ?_ | (apply below_step; assumption) | (simp; done) | (simp; omega) | omega))⟩
  | some n =>
    obtain ⟨j, hj, hjt', -, -⟩ := idxBy_some hfn
    obtain rfl : jn = j := by rw [← HJN.out]; exact hj
    cases hft : fstBy TV.id c.tasks tz with
    | none =>
      obtain rfl : jt = -1 := by rw [← HJT.out]; exact idxBy_none hft
      have HR := Lib.hid (show r = -1 by rw [HE.out, hfn, hft])
      have hnj := hnn j
      clear hfn hft HJN HJT hj hjt' hnn
      go_wp2_with fail
      refine wp_region_held_drew (S := (fun w' => Below w3.heap.size w3 w')) (by kernel_rfl) (by (try dsimp only); exact (by repeat' (first | exact Below.refl _ _ | refine Below.alloc ?_ ?_ _ | refine Below.setCell ?_ ?_ _ | refine Below.drew ?_ | (apply below_step; assumption) | (simp; done) | (simp; omega) | omega))) (fun hHeld => ?_)
      refine hT 0 ?_; simp only [Act.put, rhA, rhS, rhT]
      refine hT 1 ?_; simp only [Act.put, rhA, rhS, rhT]
      refine hT 2 ?_; simp only [Act.put, rhA, rhS, rhT]
      refine hT 3 ?_; simp only [Act.put, rhA, rhS, rhT]
      refine hT 4 ?_; simp only [Act.put, rhA, rhS, rhT]
      refine hT 5 ?_; simp only [Act.put, rhA, rhS, rhT]
      refine hT 6 ?_; simp only [Act.put, rhA, rhS, rhT]
      refine hP 7 ?_; simp only [Act.put, rhA, rhS, rhT]
      refine hP 8 ?_; simp only [Act.put, rhA, rhS, rhT]
      refine hP 9 ?_; simp only [Act.put, rhA, rhS, rhT]
      refine hP 10 ?_; simp only [Act.put, rhA, rhS, rhT]
      refine hP 11 ?_; simp only [Act.put, rhA, rhS, rhT]
      refine hP 12 ?_; simp only [Act.put, rhA, rhS, rhT]
      refine hT 13 ?_; simp only [Act.put, rhA, rhS, rhT]
      refine hT 14 ?_; simp only [Act.put, rhA, rhS, rhT]
      refine hP 15 ?_; simp only [Act.put, rhA, rhS, rhT]
      refine hP 16 ?_; simp only [Act.put, rhA, rhS, rhT]
      refine hP 17 ?_; simp only [Act.put, rhA, rhS, rhT]
      refine hP 18 ?_; simp only [Act.put, rhA, rhS, rhT]
      refine hP 19 ?_; simp only [Act.put, rhA, rhS, rhT]
      refine hP 20 ?_; simp only [Act.put, rhA, rhS, rhT]
      refine hP 21 ?_; simp only [Act.put, rhA, rhS, rhT]
      refine hP 22 ?_; simp only [Act.put, rhA, rhS, rhT]
      refine hP 23 ?_; simp only [Act.put, rhA, rhS, rhT]
      refine hP 24 ?_; simp only [Act.put, rhA, rhS, rhT]
      refine hP 25 ?_; simp only [Act.put, rhA, rhS, rhT]
      refine hP 26 ?_; simp only [Act.put, rhA, rhS, rhT]
      refine hT 27 ?_; simp only [Act.put, rhA, rhS, rhT]
      refine hT 28 ?_; simp only [Act.put, rhA, rhS, rhT]
      refine hP 29 ?_; simp only [Act.put, rhA, rhS, rhT]
      refine hP 30 ?_; simp only [Act.put, rhA, rhS, rhT]
      refine hP 31 ?_; simp only [Act.put, rhA, rhS, rhT]
      refine hP 32 ?_; simp only [Act.put, rhA, rhS, rhT]
      refine hP 33 ?_; simp only [Act.put, rhA, rhS, rhT]
      refine hP 34 ?_; simp only [Act.put, rhA, rhS, rhT]
      refine hP 35 ?_; simp only [Act.put, rhA, rhS, rhT]
      refine hP 36 ?_; simp only [Act.put, rhA, rhS, rhT]
      refine hP 37 ?_; simp only [Act.put, rhA, rhS, rhT]
      refine hP 38 ?_; simp only [Act.put, rhA, rhS, rhT]
      refine hP 39 ?_; simp only [Act.put, rhA, rhS, rhT]
      refine hT 40 ?_; simp only [Act.put, rhA, rhS, rhT]
      refine wpAnyH_done (by kernel_rfl) ?_ _
      go_wp2_with fail
      go_ret
      exact ⟨by rw [HR.out]; rfl, below_of hC3 (by repeat' (first | exact Below.refl _ _ | refine Below.alloc ?_ ?_ _ | refine Below.setCell ?_ ?_ _ | refine Below.drew ?_ | (apply below_step; assumption) | (simp; done) | (simp; omega) | omega))⟩
    | some t =>
      obtain ⟨i, hi, hit', -, -⟩ := idxBy_some hft
      obtain rfl : jt = i := by rw [← HJT.out]; exact hi
      have HFRN := Lib.hid (fun w1 hw1 => HFR.out n hfn w1 hw1)
      have HR := Lib.hid (show r = if n.cordon || !hosts n t || !resSubOk (resSub n.cap u) t.need then -1 else resShare (resAdd u t.need) n.cap by rw [HE.out, hfn, hft])
      have hjl : j < c.nodes.length := (List.getElem?_eq_some_iff.1 hjt').1
      have hil : i < c.tasks.length := (List.getElem?_eq_some_iff.1 hit').1
      obtain ⟨bn, on, rfl, hbn, hatn⟩ := HF.out.hn (by omega)
      obtain ⟨bt, ot, rfl, hbt, hatt⟩ := HF.out.ht (by omega)
      obtain ⟨ns, hRn, hCn⟩ := (hatn.below NodeR.kept hC3 hbn) j n hjt'
      obtain ⟨ts, hRt, hCt⟩ := (hatt.below TaskR.kept hC3 hbt) i t hit'
      obtain ⟨u1, u2, rfl, k1, k2, m1, m2⟩ := hRn
      obtain ⟨v1, v2, rfl, h1, h2, l1', l2'⟩ := hRt
      have hho := fun w1 hw1 => sHosts_any n t u1 u2 v1 v2 w1 (k1.below hw1) (k2.below hw1) (h1.below hw1) (h2.below hw1) m1 m2 l1' l2'
      obtain ⟨A1, c1, rfl, _⟩ := k1.form
      obtain ⟨A2, c2, rfl, _⟩ := k2.form
      obtain ⟨B1, d1, rfl, _⟩ := h1.form
      obtain ⟨B2, d2, rfl, _⟩ := h2.form
      obtain ⟨q0, q1, q2, q3, q4, q5, q6, q7⟩ := node_cells hCn
      obtain ⟨p0, p1, p2, p3, p4, p5, p6⟩ := task_cells hCt
      have hnj := hnn j
      have hni := hnn i
      have hji : (j : Int) < (c.nodes.length : Int) := by omega
      have hj0 : (0 : Int) ≤ (j : Int) := by omega
      have hii : (i : Int) < (c.tasks.length : Int) := by omega
      have hi0 : (0 : Int) ≤ (i : Int) := by omega
      have hft' := fun w1 => sResFits_any t.need (resSub n.cap u) w1
      generalize hosts n t = ho at hho HR
      generalize resSubOk (resSub n.cap u) t.need = fit at hft' HR
      generalize resSub n.cap u = f at hft' HFRN
      generalize n.cordon = cd at q7 HR hho
      have HHO := Lib.hid hho
      have HFT := Lib.hid hft'
      have HK := Lib.hid (show ∀ w', Below w3.heap.size w3 w' → (fun w' => Below w3.heap.size w3 w' ∧ (∀ o, w'.cell? ⟨w.heap.size, o, none⟩ = (#[.slice (some ⟨bt, ot, none⟩) c.tasks.length e0, .slice (some ⟨bn, on, none⟩) c.nodes.length e1, .slice D2 c.binds.length e2] : Array Value)[o]?) ∧ (w'.cell? ⟨bn, on + j * 8, none⟩ = some (.int .i64 n.id) ∧ w'.cell? ⟨bn, on + j * 8 + 1, none⟩ = some (.int .i64 n.pool) ∧ w'.cell? ⟨bn, on + j * 8 + 2, none⟩ = some (.int .i64 n.cap.c) ∧ w'.cell? ⟨bn, on + j * 8 + 3, none⟩ = some (.int .i64 n.cap.m) ∧ w'.cell? ⟨bn, on + j * 8 + 4, none⟩ = some (.int .i64 n.cap.p) ∧ w'.cell? ⟨bn, on + j * 8 + 5, none⟩ = some (.slice A1 n.labs.length c1) ∧ w'.cell? ⟨bn, on + j * 8 + 6, none⟩ = some (.slice A2 n.taints.length c2) ∧ w'.cell? ⟨bn, on + j * 8 + 7, none⟩ = some (.bool cd)) ∧ w'.cell? ⟨bt, ot + i * 7, none⟩ = some (.int .i64 t.id) ∧ w'.cell? ⟨bt, ot + i * 7 + 1, none⟩ = some (.int .i64 t.prio) ∧ w'.cell? ⟨bt, ot + i * 7 + 2, none⟩ = some (.int .i64 t.need.c) ∧ w'.cell? ⟨bt, ot + i * 7 + 3, none⟩ = some (.int .i64 t.need.m) ∧ w'.cell? ⟨bt, ot + i * 7 + 4, none⟩ = some (.int .i64 t.need.p) ∧ w'.cell? ⟨bt, ot + i * 7 + 5, none⟩ = some (.slice B1 t.want.length d1) ∧ w'.cell? ⟨bt, ot + i * 7 + 6, none⟩ = some (.slice B2 t.tols.length d2)) w' from
        fun w' hb => ⟨hb, fun o => (hb.cell (p := ⟨_, _, none⟩) cl).trans (HBC3.out.cell o), ⟨cellK hb q0, cellK hb q1, cellK hb q2, cellK hb q3, cellK hb q4, cellK hb q5, cellK hb q6, cellK hb q7⟩, cellK hb p0, cellK hb p1, cellK hb p2, cellK hb p3, cellK hb p4, cellK hb p5, cellK hb p6⟩)
      clear hfn hft HJN HJT hj hjt' hi hit' hnn hatn hatt hCn hCt k1 k2 h1 h2 m1 m2 l1' l2' hho hft' HIN HIT HE HF HFR q0 q1 q2 q3 q4 q5 q6 p0 p1 p2 p3 p4 p5 p6
      cases cd
      · cases ho
        · go_wp2_with fail
          refine wp_region_held_drew (S := (fun w' => Below w3.heap.size w3 w' ∧ (∀ o, w'.cell? ⟨w.heap.size, o, none⟩ = (#[.slice (some ⟨bt, ot, none⟩) c.tasks.length e0, .slice (some ⟨bn, on, none⟩) c.nodes.length e1, .slice D2 c.binds.length e2] : Array Value)[o]?) ∧ (w'.cell? ⟨bn, on + j * 8, none⟩ = some (.int .i64 n.id) ∧ w'.cell? ⟨bn, on + j * 8 + 1, none⟩ = some (.int .i64 n.pool) ∧ w'.cell? ⟨bn, on + j * 8 + 2, none⟩ = some (.int .i64 n.cap.c) ∧ w'.cell? ⟨bn, on + j * 8 + 3, none⟩ = some (.int .i64 n.cap.m) ∧ w'.cell? ⟨bn, on + j * 8 + 4, none⟩ = some (.int .i64 n.cap.p) ∧ w'.cell? ⟨bn, on + j * 8 + 5, none⟩ = some (.slice A1 n.labs.length c1) ∧ w'.cell? ⟨bn, on + j * 8 + 6, none⟩ = some (.slice A2 n.taints.length c2) ∧ w'.cell? ⟨bn, on + j * 8 + 7, none⟩ = some (.bool false)) ∧ w'.cell? ⟨bt, ot + i * 7, none⟩ = some (.int .i64 t.id) ∧ w'.cell? ⟨bt, ot + i * 7 + 1, none⟩ = some (.int .i64 t.prio) ∧ w'.cell? ⟨bt, ot + i * 7 + 2, none⟩ = some (.int .i64 t.need.c) ∧ w'.cell? ⟨bt, ot + i * 7 + 3, none⟩ = some (.int .i64 t.need.m) ∧ w'.cell? ⟨bt, ot + i * 7 + 4, none⟩ = some (.int .i64 t.need.p) ∧ w'.cell? ⟨bt, ot + i * 7 + 5, none⟩ = some (.slice B1 t.want.length d1) ∧ w'.cell? ⟨bt, ot + i * 7 + 6, none⟩ = some (.slice B2 t.tols.length d2))) (by kernel_rfl) (by (try dsimp only); exact HK.out _ (by repeat' (first | exact Below.refl _ _ | refine Below.alloc ?_ ?_ _ | refine Below.setCell ?_ ?_ _ | refine Below.drew ?_ | (apply below_step; assumption) | (simp; done) | (simp; omega) | omega))) (fun hHeld => ?_)
          refine hT 0 ?_; simp only [Act.put, rhA, rhS, rhT]
          refine hT 1 ?_; simp only [Act.put, rhA, rhS, rhT]
          refine hT 2 ?_; simp only [Act.put, rhA, rhS, rhT]
          refine hT 3 ?_; simp only [Act.put, rhA, rhS, rhT]
          refine hT 4 ?_; simp only [Act.put, rhA, rhS, rhT]
          refine hT 5 ?_; simp only [Act.put, rhA, rhS, rhT]
          refine hT 6 ?_; simp only [Act.put, rhA, rhS, rhT]
          refine hT 7 ?_; simp only [Act.put, rhA, rhS, rhT]
          refine hT 8 ?_; simp only [Act.put, rhA, rhS, rhT]
          refine hT 9 ?_; simp only [Act.put, rhA, rhS, rhT]
          refine hT 10 ?_; simp only [Act.put, rhA, rhS, rhT]
          refine hT 11 ?_; simp only [Act.put, rhA, rhS, rhT]
          refine hT 12 ?_; simp only [Act.put, rhA, rhS, rhT]
          refine hT 13 ?_; simp only [Act.put, rhA, rhS, rhT]
          refine hT 14 ?_; simp only [Act.put, rhA, rhS, rhT]
          refine hT 15 ?_; simp only [Act.put, rhA, rhS, rhT]
          refine hT 16 ?_; simp only [Act.put, rhA, rhS, rhT]
          refine hT 17 ?_; simp only [Act.put, rhA, rhS, rhT]
          refine hT 18 ?_; simp only [Act.put, rhA, rhS, rhT]
          refine hT 19 ?_; simp only [Act.put, rhA, rhS, rhT]
          refine hT 20 ?_; simp only [Act.put, rhA, rhS, rhT]
          refine hT 21 ?_; simp only [Act.put, rhA, rhS, rhT]
          refine hT 22 ?_; simp only [Act.put, rhA, rhS, rhT]
          refine hT 23 ?_; simp only [Act.put, rhA, rhS, rhT]
          refine hT 24 ?_; simp only [Act.put, rhA, rhS, rhT]
          refine hCall (i := 25) (o := ?a132) ?b132 (by kernel_rfl) ?c132 (fun K hK => ?d132)
          case b132 => simp only [rhN, rhM]; try rfl
          case c132 => rfl
          go_simp
          refine (HHO.out _ (by repeat' (first | exact Below.refl _ _ | refine Below.alloc ?_ ?_ _ | refine Below.setCell ?_ ?_ _ | refine Below.drew ?_ | (apply below_step; assumption) | (simp; done) | (simp; omega) | omega))).mono ?_
          rintro e w4 ⟨rfl, hb4⟩
          have hz4 := hb4.size
          (try simp at hz4)
          go_wp2_with fail
          refine hK.out _ _ (by (try dsimp only); exact HK.out _ (by repeat' (first | exact Below.refl _ _ | refine Below.alloc ?_ ?_ _ | refine Below.setCell ?_ ?_ _ | refine Below.drew ?_ | (apply below_step; assumption) | (simp; done) | (simp; omega) | omega))) (fun hHeld => ?_)
          clear hK K
          try simp only [Act.put, rhA, rhS, rhT]
          refine hT 26 ?_; simp only [Act.put, rhA, rhS, rhT]
          refine hT 27 ?_; simp only [Act.put, rhA, rhS, rhT]
          refine hT 28 ?_; simp only [Act.put, rhA, rhS, rhT]
          refine hP 29 ?_; simp only [Act.put, rhA, rhS, rhT]
          refine hP 30 ?_; simp only [Act.put, rhA, rhS, rhT]
          refine hP 31 ?_; simp only [Act.put, rhA, rhS, rhT]
          refine hP 32 ?_; simp only [Act.put, rhA, rhS, rhT]
          refine hP 33 ?_; simp only [Act.put, rhA, rhS, rhT]
          refine hP 34 ?_; simp only [Act.put, rhA, rhS, rhT]
          refine hP 35 ?_; simp only [Act.put, rhA, rhS, rhT]
          refine hP 36 ?_; simp only [Act.put, rhA, rhS, rhT]
          refine hP 37 ?_; simp only [Act.put, rhA, rhS, rhT]
          refine hP 38 ?_; simp only [Act.put, rhA, rhS, rhT]
          refine hP 39 ?_; simp only [Act.put, rhA, rhS, rhT]
          refine hT 40 ?_; simp only [Act.put, rhA, rhS, rhT]
          refine wpAnyH_done (by kernel_rfl) ?_ _
          go_wp2_with fail
          go_ret
          exact ⟨by rw [HR.out]; rfl, below_of hC3 (by repeat' (first | exact Below.refl _ _ | refine Below.alloc ?_ ?_ _ | refine Below.setCell ?_ ?_ _ | refine Below.drew ?_ | (apply below_step; assumption) | (simp; done) | (simp; omega) | omega))⟩
        · go_wp2_with fail
          refine wp_region_held_drew (S := (fun w' => Below w3.heap.size w3 w' ∧ (∀ o, w'.cell? ⟨w.heap.size, o, none⟩ = (#[.slice (some ⟨bt, ot, none⟩) c.tasks.length e0, .slice (some ⟨bn, on, none⟩) c.nodes.length e1, .slice D2 c.binds.length e2] : Array Value)[o]?) ∧ (w'.cell? ⟨bn, on + j * 8, none⟩ = some (.int .i64 n.id) ∧ w'.cell? ⟨bn, on + j * 8 + 1, none⟩ = some (.int .i64 n.pool) ∧ w'.cell? ⟨bn, on + j * 8 + 2, none⟩ = some (.int .i64 n.cap.c) ∧ w'.cell? ⟨bn, on + j * 8 + 3, none⟩ = some (.int .i64 n.cap.m) ∧ w'.cell? ⟨bn, on + j * 8 + 4, none⟩ = some (.int .i64 n.cap.p) ∧ w'.cell? ⟨bn, on + j * 8 + 5, none⟩ = some (.slice A1 n.labs.length c1) ∧ w'.cell? ⟨bn, on + j * 8 + 6, none⟩ = some (.slice A2 n.taints.length c2) ∧ w'.cell? ⟨bn, on + j * 8 + 7, none⟩ = some (.bool false)) ∧ w'.cell? ⟨bt, ot + i * 7, none⟩ = some (.int .i64 t.id) ∧ w'.cell? ⟨bt, ot + i * 7 + 1, none⟩ = some (.int .i64 t.prio) ∧ w'.cell? ⟨bt, ot + i * 7 + 2, none⟩ = some (.int .i64 t.need.c) ∧ w'.cell? ⟨bt, ot + i * 7 + 3, none⟩ = some (.int .i64 t.need.m) ∧ w'.cell? ⟨bt, ot + i * 7 + 4, none⟩ = some (.int .i64 t.need.p) ∧ w'.cell? ⟨bt, ot + i * 7 + 5, none⟩ = some (.slice B1 t.want.length d1) ∧ w'.cell? ⟨bt, ot + i * 7 + 6, none⟩ = some (.slice B2 t.tols.length d2))) (by kernel_rfl) (by (try dsimp only); exact HK.out _ (by repeat' (first | exact Below.refl _ _ | refine Below.alloc ?_ ?_ _ | refine Below.setCell ?_ ?_ _ | refine Below.drew ?_ | (apply below_step; assumption) | (simp; done) | (simp; omega) | omega))) (fun hHeld => ?_)
          refine hT 0 ?_; simp only [Act.put, rhA, rhS, rhT]
          refine hT 1 ?_; simp only [Act.put, rhA, rhS, rhT]
          refine hT 2 ?_; simp only [Act.put, rhA, rhS, rhT]
          refine hT 3 ?_; simp only [Act.put, rhA, rhS, rhT]
          refine hT 4 ?_; simp only [Act.put, rhA, rhS, rhT]
          refine hT 5 ?_; simp only [Act.put, rhA, rhS, rhT]
          refine hT 6 ?_; simp only [Act.put, rhA, rhS, rhT]
          refine hT 7 ?_; simp only [Act.put, rhA, rhS, rhT]
          refine hT 8 ?_; simp only [Act.put, rhA, rhS, rhT]
          refine hT 9 ?_; simp only [Act.put, rhA, rhS, rhT]
          refine hT 10 ?_; simp only [Act.put, rhA, rhS, rhT]
          refine hT 11 ?_; simp only [Act.put, rhA, rhS, rhT]
          refine hT 12 ?_; simp only [Act.put, rhA, rhS, rhT]
          refine hT 13 ?_; simp only [Act.put, rhA, rhS, rhT]
          refine hT 14 ?_; simp only [Act.put, rhA, rhS, rhT]
          refine hT 15 ?_; simp only [Act.put, rhA, rhS, rhT]
          refine hT 16 ?_; simp only [Act.put, rhA, rhS, rhT]
          refine hT 17 ?_; simp only [Act.put, rhA, rhS, rhT]
          refine hT 18 ?_; simp only [Act.put, rhA, rhS, rhT]
          refine hT 19 ?_; simp only [Act.put, rhA, rhS, rhT]
          refine hT 20 ?_; simp only [Act.put, rhA, rhS, rhT]
          refine hT 21 ?_; simp only [Act.put, rhA, rhS, rhT]
          refine hT 22 ?_; simp only [Act.put, rhA, rhS, rhT]
          refine hT 23 ?_; simp only [Act.put, rhA, rhS, rhT]
          refine hT 24 ?_; simp only [Act.put, rhA, rhS, rhT]
          refine hCall (i := 25) (o := ?a179) ?b179 (by kernel_rfl) ?c179 (fun K hK => ?d179)
          case b179 => simp only [rhN, rhM]; try rfl
          case c179 => rfl
          go_simp
          refine (HHO.out _ (by repeat' (first | exact Below.refl _ _ | refine Below.alloc ?_ ?_ _ | refine Below.setCell ?_ ?_ _ | refine Below.drew ?_ | (apply below_step; assumption) | (simp; done) | (simp; omega) | omega))).mono ?_
          rintro e w4 ⟨rfl, hb4⟩
          have hz4 := hb4.size
          (try simp at hz4)
          go_wp2_with fail
          refine hK.out _ _ (by (try dsimp only); exact HK.out _ (by repeat' (first | exact Below.refl _ _ | refine Below.alloc ?_ ?_ _ | refine Below.setCell ?_ ?_ _ | refine Below.drew ?_ | (apply below_step; assumption) | (simp; done) | (simp; omega) | omega))) (fun hHeld => ?_)
          clear hK K
          try simp only [Act.put, rhA, rhS, rhT]
          refine hT 26 ?_; simp only [Act.put, rhA, rhS, rhT]
          refine hT 27 ?_; simp only [Act.put, rhA, rhS, rhT]
          refine hT 28 ?_; simp only [Act.put, rhA, rhS, rhT]
          refine hT 29 ?_; simp only [Act.put, rhA, rhS, rhT]
          refine hT 30 ?_; simp only [Act.put, rhA, rhS, rhT]
          refine hT 31 ?_; simp only [Act.put, rhA, rhS, rhT]
          refine hT 32 ?_; simp only [Act.put, rhA, rhS, rhT]
          refine hT 33 ?_; simp only [Act.put, rhA, rhS, rhT]
          refine hT 34 ?_; simp only [Act.put, rhA, rhS, rhT]
          refine hT 35 ?_; simp only [Act.put, rhA, rhS, rhT]
          refine hT 36 ?_; simp only [Act.put, rhA, rhS, rhT]
          refine hCall (i := 37) (o := ?a195) ?b195 (by kernel_rfl) ?c195 (fun K hK => ?d195)
          case b195 => simp only [rhN, rhM]; try rfl
          case c195 => rfl
          go_simp
          refine (HFRN.out _ (below_of hC3 (by repeat' (first | exact Below.refl _ _ | refine Below.alloc ?_ ?_ _ | refine Below.setCell ?_ ?_ _ | refine Below.drew ?_ | (apply below_step; assumption) | (simp; done) | (simp; omega) | omega)))).mono ?_
          rintro e w5 ⟨rfl, hb5⟩
          have hz5 := hb5.size
          (try simp at hz5)
          go_wp2_with fail
          refine hK.out _ _ (by (try dsimp only); exact HK.out _ (by repeat' (first | exact Below.refl _ _ | refine Below.alloc ?_ ?_ _ | refine Below.setCell ?_ ?_ _ | refine Below.drew ?_ | (apply below_step; assumption) | (simp; done) | (simp; omega) | omega))) (fun hHeld => ?_)
          clear hK K
          try simp only [Act.put, rhA, rhS, rhT]
          refine hCall (i := 38) (o := ?a196) ?b196 (by kernel_rfl) ?c196 (fun K hK => ?d196)
          case b196 => simp only [rhN, rhM]; try rfl
          case c196 => rfl
          go_simp
          refine (HFT.out _).mono ?_
          rintro e w6 ⟨rfl, hb6⟩
          have hz6 := hb6.size
          (try simp at hz6)
          go_wp2_with fail
          refine hK.out _ _ (by (try dsimp only); exact HK.out _ (by repeat' (first | exact Below.refl _ _ | refine Below.alloc ?_ ?_ _ | refine Below.setCell ?_ ?_ _ | refine Below.drew ?_ | (apply below_step; assumption) | (simp; done) | (simp; omega) | omega))) (fun hHeld => ?_)
          clear hK K
          try simp only [Act.put, rhA, rhS, rhT]
          refine hT 39 ?_; simp only [Act.put, rhA, rhS, rhT]
          refine hT 40 ?_; simp only [Act.put, rhA, rhS, rhT]
          refine wpAnyH_done (by kernel_rfl) ?_ _
          have hD6 : Below w3.heap.size w3 w6 := (by repeat' (first | exact Below.refl _ _ | refine Below.alloc ?_ ?_ _ | refine Below.setCell ?_ ?_ _ | refine Below.drew ?_ | (apply below_step; assumption) | (simp; done) | (simp; omega) | omega))
          have hC6 := below_of hC3 hD6
          have HBC6 := Lib.hid (HBC3.out.below hD6 cl)
          have g0 := HBC6.out.cell 0
          have g1 := HBC6.out.cell 1
          have g2 := HBC6.out.cell 2
          have cl6 := HBC6.out.lt
          simp at g0 g1 g2
          have HS6 := Lib.hid (HK.out _ hD6)
          clear hb4 hb5 hb6 hz4 hz5 hz6 HK HHO HFRN HFT HBC3 cl hHeld hD6 hC3
          cases fit
          · go_wp2_with fail
            go_ret
            exact ⟨by rw [HR.out]; rfl, hC6⟩
          · go_wp2_with fail
            refine (HUS.out _ hC6).mono ?_
            rintro e w7 ⟨rfl, hb7⟩
            have hC7 := below_of hC6 hb7
            have HBC7 := Lib.hid (HBC6.out.below hb7 HBC6.out.lt)
            have HS7 := Lib.hid (And.intro hb7 HS6.out)
            clear hb7 HS6 HBC6 g0 g1 g2 cl6 hC6
            go_upto_region 6 with fail
            have hX3 : Below w7.heap.size w7 (w7.alloc (.cells #[.int .i64 u.c, .int .i64 u.m, .int .i64 u.p] 57)) := (by repeat' (first | exact Below.refl _ _ | refine Below.alloc ?_ ?_ _ | refine Below.setCell ?_ ?_ _ | refine Below.drew ?_ | (apply below_step; assumption) | (simp; done) | (simp; omega) | omega))
            have hC8 := below_of hC7 hX3
            have BC := HBC7.out.alloc (.cells #[.int .i64 u.c, .int .i64 u.m, .int .i64 u.p] 57)
            have BU := BlockIs.new w7 57 #[.int .i64 u.c, .int .i64 u.m, .int .i64 u.p]
            generalize w7.alloc (.cells #[.int .i64 u.c, .int .i64 u.m, .int .i64 u.p] 57) = X at hX3 hC8 BC BU ⊢
            obtain ⟨hb7, -, -, ⟨-, -, q2, q3, q4, -, -, -⟩, -, -, p2, p3, p4, -, -⟩ := HS7.out
            have hX6 := below_of hb7 hX3
            have HN8 := Lib.hid (And.intro (cellK hX6 q2) (And.intro (cellK hX6 q3) (cellK hX6 q4)))
            have HK := Lib.hid (show ∀ w', Below X.heap.size X w' → (fun w' => Below X.heap.size X w' ∧ (∀ o, w'.cell? ⟨w.heap.size, o, none⟩ = (#[.slice (some ⟨bt, ot, none⟩) c.tasks.length e0, .slice (some ⟨bn, on, none⟩) c.nodes.length e1, .slice D2 c.binds.length e2] : Array Value)[o]?) ∧ (∀ o, w'.cell? ⟨w7.heap.size, o, none⟩ = (#[.int .i64 u.c, .int .i64 u.m, .int .i64 u.p] : Array Value)[o]?) ∧ w'.cell? ⟨bt, ot + i * 7 + 2, none⟩ = some (.int .i64 t.need.c) ∧ w'.cell? ⟨bt, ot + i * 7 + 3, none⟩ = some (.int .i64 t.need.m) ∧ w'.cell? ⟨bt, ot + i * 7 + 4, none⟩ = some (.int .i64 t.need.p)) w' from
              fun w' hb => ⟨hb, (BC.below hb BC.lt).cell, (BU.below hb BU.lt).cell, cellK hb (cellK hX6 p2), cellK hb (cellK hX6 p3), cellK hb (cellK hX6 p4)⟩)
            have HBC8 := Lib.hid BC
            have had := fun w1 => sResAdd_any u t.need w1
            have hR2 : r = resShare (resAdd u t.need) n.cap := by rw [HR.out]; rfl
            generalize resAdd u t.need = sm at had hR2
            generalize resAddOk u t.need = so at had
            have hsh := fun w1 => sResShare_any sm n.cap w1
            generalize resShare sm n.cap = sh at hsh hR2
            have HAD := Lib.hid had
            have HSH := Lib.hid hsh
            have HR2 := Lib.hid hR2
            clear had hsh hR2 HS7 HBC7 hC7 hb7 q2 q3 q4 p2 p3 p4 hX6 hX3 BC BU HR HUS
            go_cut [11] (fun s11 wx => PutAt X sm s11 wx)
            case first =>
              go_region_held3 (fun w' => Below X.heap.size X w' ∧ (∀ o, w'.cell? ⟨w.heap.size, o, none⟩ = (#[.slice (some ⟨bt, ot, none⟩) c.tasks.length e0, .slice (some ⟨bn, on, none⟩) c.nodes.length e1, .slice D2 c.binds.length e2] : Array Value)[o]?) ∧ (∀ o, w'.cell? ⟨w7.heap.size, o, none⟩ = (#[.int .i64 u.c, .int .i64 u.m, .int .i64 u.p] : Array Value)[o]?) ∧ w'.cell? ⟨bt, ot + i * 7 + 2, none⟩ = some (.int .i64 t.need.c) ∧ w'.cell? ⟨bt, ot + i * 7 + 3, none⟩ = some (.int .i64 t.need.m) ∧ w'.cell? ⟨bt, ot + i * 7 + 4, none⟩ = some (.int .i64 t.need.p))
                (exact HK.out _ (by repeat' (first | exact Below.refl _ _ | refine Below.alloc ?_ ?_ _ | refine Below.setCell ?_ ?_ _ | refine Below.drew ?_ | (apply below_step; assumption) | (simp; done) | (simp; omega) | omega)))
                (first | (go_at_call 161; refine (HAD.out _).mono ?_; rintro e w9 ⟨rfl, hb9⟩; obtain ⟨hc9, hf9⟩ := bcell hb9; have hl9 := blt hb9; (first | have hm9 := (blast hb9).2.2 | have hm9 := (blastd hb9).2.2 | have hm9 := True.intro); (try simp at hm9); have hz9 := hb9.size; try simp at hz9))
              all_goals
                go_wp2_with fail
                go_meet
                exact ⟨_, rfl, by (first | (simp; done) | (go_simp; done)), by (first | (simp; done) | (go_simp; done)), by (first | (simp; done) | (go_simp; done)), (by repeat' (first | exact Below.refl _ _ | refine Below.alloc ?_ ?_ _ | refine Below.setCell ?_ ?_ _ | refine Below.drew ?_ | (apply below_step; assumption) | (simp; done) | (simp; omega) | omega))⟩
            case rest =>
              obtain ⟨g11, rfl, y0, y1, y2, hD⟩ := hcut
              have hC9 := below_of hC8 hD
              have BC := HBC8.out.below hD HBC8.out.lt
              have HK9 := Lib.hid (show ∀ w', Below wc.heap.size wc w' → (fun w' => Below wc.heap.size wc w' ∧ (∀ o, w'.cell? ⟨w.heap.size, o, none⟩ = (#[.slice (some ⟨bt, ot, none⟩) c.tasks.length e0, .slice (some ⟨bn, on, none⟩) c.nodes.length e1, .slice D2 c.binds.length e2] : Array Value)[o]?) ∧ w'.cell? ⟨g11, 0, none⟩ = some (.int .i64 sm.c) ∧ w'.cell? ⟨g11, 1, none⟩ = some (.int .i64 sm.m) ∧ w'.cell? ⟨g11, 2, none⟩ = some (.int .i64 sm.p) ∧ w'.cell? ⟨bn, on + j * 8 + 2, none⟩ = some (.int .i64 n.cap.c) ∧ w'.cell? ⟨bn, on + j * 8 + 3, none⟩ = some (.int .i64 n.cap.m) ∧ w'.cell? ⟨bn, on + j * 8 + 4, none⟩ = some (.int .i64 n.cap.p)) w' from
                fun w' hb => ⟨hb, (BC.below hb BC.lt).cell, cellK hb y0, cellK hb y1, cellK hb y2, cellK hb (cellK hD HN8.out.1), cellK hb (cellK hD HN8.out.2.1), cellK hb (cellK hD HN8.out.2.2)⟩)
              clear HK HBC8 BC y0 y1 y2 HAD HN8
              go_wp2_with fail
              refine wp_region_held_drew (S := (fun w' => Below wc.heap.size wc w' ∧ (∀ o, w'.cell? ⟨w.heap.size, o, none⟩ = (#[.slice (some ⟨bt, ot, none⟩) c.tasks.length e0, .slice (some ⟨bn, on, none⟩) c.nodes.length e1, .slice D2 c.binds.length e2] : Array Value)[o]?) ∧ w'.cell? ⟨g11, 0, none⟩ = some (.int .i64 sm.c) ∧ w'.cell? ⟨g11, 1, none⟩ = some (.int .i64 sm.m) ∧ w'.cell? ⟨g11, 2, none⟩ = some (.int .i64 sm.p) ∧ w'.cell? ⟨bn, on + j * 8 + 2, none⟩ = some (.int .i64 n.cap.c) ∧ w'.cell? ⟨bn, on + j * 8 + 3, none⟩ = some (.int .i64 n.cap.m) ∧ w'.cell? ⟨bn, on + j * 8 + 4, none⟩ = some (.int .i64 n.cap.p))) (by kernel_rfl) (by (try dsimp only); exact HK9.out _ (by repeat' (first | exact Below.refl _ _ | refine Below.alloc ?_ ?_ _ | refine Below.setCell ?_ ?_ _ | refine Below.drew ?_ | (apply below_step; assumption) | (simp; done) | (simp; omega) | omega))) (fun hHeld => ?_)
              refine hT 0 ?_; simp only [Act.put, rhA, rhS, rhT]
              refine hT 1 ?_; simp only [Act.put, rhA, rhS, rhT]
              refine hT 2 ?_; simp only [Act.put, rhA, rhS, rhT]
              refine hT 3 ?_; simp only [Act.put, rhA, rhS, rhT]
              refine hT 4 ?_; simp only [Act.put, rhA, rhS, rhT]
              refine hT 5 ?_; simp only [Act.put, rhA, rhS, rhT]
              refine hT 6 ?_; simp only [Act.put, rhA, rhS, rhT]
              refine hCall (i := 7) (o := ?a209) ?b209 (by kernel_rfl) ?c209 (fun K hK => ?d209)
              case b209 => simp only [rhN, rhM]; try rfl
              case c209 => rfl
              go_simp
              refine (HSH.out _).mono ?_
              rintro e w10 ⟨rfl, hb10⟩
              have hz10 := hb10.size
              (try simp at hz10)
              go_wp2_with fail
              refine hK.out _ _ (by (try dsimp only); exact HK9.out _ (by repeat' (first | exact Below.refl _ _ | refine Below.alloc ?_ ?_ _ | refine Below.setCell ?_ ?_ _ | refine Below.drew ?_ | (apply below_step; assumption) | (simp; done) | (simp; omega) | omega))) (fun hHeld => ?_)
              clear hK K
              try simp only [Act.put, rhA, rhS, rhT]
              refine hT 8 ?_; simp only [Act.put, rhA, rhS, rhT]
              refine wpAnyH_done (by kernel_rfl) ?_ _
              go_wp2_with fail
              go_ret
              exact ⟨by rw [HR2.out]; rfl, below_of hC9 (by repeat' (first | exact Below.refl _ _ | refine Below.alloc ?_ ?_ _ | refine Below.setCell ?_ ?_ _ | refine Below.drew ?_ | (apply below_step; assumption) | (simp; done) | (simp; omega) | omega))⟩
      · go_wp2_with fail
        refine wp_region_held_drew (S := (fun w' => Below w3.heap.size w3 w' ∧ (∀ o, w'.cell? ⟨w.heap.size, o, none⟩ = (#[.slice (some ⟨bt, ot, none⟩) c.tasks.length e0, .slice (some ⟨bn, on, none⟩) c.nodes.length e1, .slice D2 c.binds.length e2] : Array Value)[o]?) ∧ (w'.cell? ⟨bn, on + j * 8, none⟩ = some (.int .i64 n.id) ∧ w'.cell? ⟨bn, on + j * 8 + 1, none⟩ = some (.int .i64 n.pool) ∧ w'.cell? ⟨bn, on + j * 8 + 2, none⟩ = some (.int .i64 n.cap.c) ∧ w'.cell? ⟨bn, on + j * 8 + 3, none⟩ = some (.int .i64 n.cap.m) ∧ w'.cell? ⟨bn, on + j * 8 + 4, none⟩ = some (.int .i64 n.cap.p) ∧ w'.cell? ⟨bn, on + j * 8 + 5, none⟩ = some (.slice A1 n.labs.length c1) ∧ w'.cell? ⟨bn, on + j * 8 + 6, none⟩ = some (.slice A2 n.taints.length c2) ∧ w'.cell? ⟨bn, on + j * 8 + 7, none⟩ = some (.bool true)) ∧ w'.cell? ⟨bt, ot + i * 7, none⟩ = some (.int .i64 t.id) ∧ w'.cell? ⟨bt, ot + i * 7 + 1, none⟩ = some (.int .i64 t.prio) ∧ w'.cell? ⟨bt, ot + i * 7 + 2, none⟩ = some (.int .i64 t.need.c) ∧ w'.cell? ⟨bt, ot + i * 7 + 3, none⟩ = some (.int .i64 t.need.m) ∧ w'.cell? ⟨bt, ot + i * 7 + 4, none⟩ = some (.int .i64 t.need.p) ∧ w'.cell? ⟨bt, ot + i * 7 + 5, none⟩ = some (.slice B1 t.want.length d1) ∧ w'.cell? ⟨bt, ot + i * 7 + 6, none⟩ = some (.slice B2 t.tols.length d2))) (by kernel_rfl) (by (try dsimp only); exact HK.out _ (by repeat' (first | exact Below.refl _ _ | refine Below.alloc ?_ ?_ _ | refine Below.setCell ?_ ?_ _ | refine Below.drew ?_ | (apply below_step; assumption) | (simp; done) | (simp; omega) | omega))) (fun hHeld => ?_)
        refine hT 0 ?_; simp only [Act.put, rhA, rhS, rhT]
        refine hT 1 ?_; simp only [Act.put, rhA, rhS, rhT]
        refine hT 2 ?_; simp only [Act.put, rhA, rhS, rhT]
        refine hT 3 ?_; simp only [Act.put, rhA, rhS, rhT]
        refine hT 4 ?_; simp only [Act.put, rhA, rhS, rhT]
        refine hT 5 ?_; simp only [Act.put, rhA, rhS, rhT]
        refine hT 6 ?_; simp only [Act.put, rhA, rhS, rhT]
        refine hT 7 ?_; simp only [Act.put, rhA, rhS, rhT]
        refine hT 8 ?_; simp only [Act.put, rhA, rhS, rhT]
        refine hT 9 ?_; simp only [Act.put, rhA, rhS, rhT]
        refine hT 10 ?_; simp only [Act.put, rhA, rhS, rhT]
        refine hT 11 ?_; simp only [Act.put, rhA, rhS, rhT]
        refine hT 12 ?_; simp only [Act.put, rhA, rhS, rhT]
        refine hT 13 ?_; simp only [Act.put, rhA, rhS, rhT]
        refine hT 14 ?_; simp only [Act.put, rhA, rhS, rhT]
        refine hP 15 ?_; simp only [Act.put, rhA, rhS, rhT]
        refine hP 16 ?_; simp only [Act.put, rhA, rhS, rhT]
        refine hP 17 ?_; simp only [Act.put, rhA, rhS, rhT]
        refine hP 18 ?_; simp only [Act.put, rhA, rhS, rhT]
        refine hP 19 ?_; simp only [Act.put, rhA, rhS, rhT]
        refine hP 20 ?_; simp only [Act.put, rhA, rhS, rhT]
        refine hP 21 ?_; simp only [Act.put, rhA, rhS, rhT]
        refine hP 22 ?_; simp only [Act.put, rhA, rhS, rhT]
        refine hP 23 ?_; simp only [Act.put, rhA, rhS, rhT]
        refine hP 24 ?_; simp only [Act.put, rhA, rhS, rhT]
        refine hP 25 ?_; simp only [Act.put, rhA, rhS, rhT]
        refine hP 26 ?_; simp only [Act.put, rhA, rhS, rhT]
        refine hT 27 ?_; simp only [Act.put, rhA, rhS, rhT]
        refine hT 28 ?_; simp only [Act.put, rhA, rhS, rhT]
        refine hP 29 ?_; simp only [Act.put, rhA, rhS, rhT]
        refine hP 30 ?_; simp only [Act.put, rhA, rhS, rhT]
        refine hP 31 ?_; simp only [Act.put, rhA, rhS, rhT]
        refine hP 32 ?_; simp only [Act.put, rhA, rhS, rhT]
        refine hP 33 ?_; simp only [Act.put, rhA, rhS, rhT]
        refine hP 34 ?_; simp only [Act.put, rhA, rhS, rhT]
        refine hP 35 ?_; simp only [Act.put, rhA, rhS, rhT]
        refine hP 36 ?_; simp only [Act.put, rhA, rhS, rhT]
        refine hP 37 ?_; simp only [Act.put, rhA, rhS, rhT]
        refine hP 38 ?_; simp only [Act.put, rhA, rhS, rhT]
        refine hP 39 ?_; simp only [Act.put, rhA, rhS, rhT]
        refine hT 40 ?_; simp only [Act.put, rhA, rhS, rhT]
        refine wpAnyH_done (by kernel_rfl) ?_ _
        go_wp2_with fail
        go_ret
        exact ⟨by rw [HR.out]; rfl, below_of hC3 (by repeat' (first | exact Below.refl _ _ | refine Below.alloc ?_ ?_ _ | refine Below.setCell ?_ ?_ _ | refine Below.drew ?_ | (apply below_step; assumption) | (simp; done) | (simp; omega) | omega))⟩

set_option maxHeartbeats 1600000 in
theorem sScore_any (c : CV) (a0 a1 a2 : Value) (nz tz : Int) (w : World) (hc : CluR w c a0 a1 a2) :
    Calls Tryz.prog 51 #[.agg #[a0, a1, a2], .int .i64 nz, .int .i64 tz] w fun e w' => e = .returned (.int .i64 (scoreG c nz tz)) ∧ Below w.heap.size w w' := by
  have hok := fun w1 hw1 => sClusterOk_any c a0 a1 a2 w1 (hc.below hw1)
  have hso := fun (h : clusterOk c = true) w1 hw1 => l04Score_any c a0 a1 a2 nz tz w1 (hc.below hw1) h
  have hno : clusterOk c = false → scoreG c nz tz = -1 := fun h => by
    unfold scoreG
    cases fstBy NV.id c.nodes nz with
    | none => rfl
    | some n => cases fstBy TV.id c.tasks tz with
      | none => rfl
      | some t => simp [h]
  have heq := fun (h : clusterOk c = true) => scoreM_eq h nz tz
  obtain ⟨D0, D1, D2, e0, e1, e2, rfl, rfl, rfl, _⟩ := hc.full
  cases ho : clusterOk c
  all_goals
    rw [ho] at hok
    have HOK := Lib.hid hok
    have HSO := Lib.hid (hso)
    have HO := Lib.hid ho
    have HNO := Lib.hid hno
    have HEQ := Lib.hid heq
    clear hok hso ho hno heq hc
    go_enter Tryz.func51, Tryz.ntmps51
    go_wp2_with fail
    have hX : Below w.heap.size w (w.alloc (.cells #[.slice D0 c.tasks.length e0, .slice D1 c.nodes.length e1, .slice D2 c.binds.length e2] 35)) := (by repeat' (first | exact Below.refl _ _ | refine Below.alloc ?_ ?_ _ | refine Below.setCell ?_ ?_ _ | refine Below.drew ?_ | (apply below_step; assumption) | (simp; done) | (simp; omega) | omega))
    refine (HOK.out _ hX).mono ?_
    rintro e w2 ⟨rfl, hb2⟩
    have hC2 := below_of hX hb2
    have BC := (BlockIs.new w 35 #[.slice D0 c.tasks.length e0, .slice D1 c.nodes.length e1, .slice D2 c.binds.length e2]).below hb2 (by simp)
    have g0 := BC.cell 0
    have g1 := BC.cell 1
    have g2 := BC.cell 2
    have cl := BC.lt
    simp at g0 g1 g2
    clear BC hb2 hX
    go_wp2_with fail
  · go_ret
    exact ⟨by rw [HNO.out HO.out]; rfl, hC2⟩
  · refine (HSO.out HO.out _ hC2).mono ?_
    rintro e w3 ⟨rfl, hb3⟩
    have hC3 := below_of hC2 hb3
    go_wp2_with fail
    go_ret
    exact ⟨by rw [← HEQ.out HO.out]; rfl, hC3⟩
end Go.Proofs.YtmkpajjnjgnmkaaGreatDoor

namespace Go.Proofs.YtmkpajjnjgnmkaaGreatDoor
open Go.ChangeShapes Go.WideShapes Go.ChangeAt Go.RowKit Go.Joins

theorem Tryz.capG : Tryz.prog.globalNamed "loop.example/g00718/impl.errNoCap" = some 0 := by kernel_rfl
theorem Tryz.capT : (Tryz.prog.globals[0]?).map (·.type) = some 215 := by kernel_rfl
theorem capAt_of_laid {r : List (String × DataW Unit)} {W : World} (h : laidMet Tryz.prog (("loop.example/g00718/impl.errNoCap", Rows.laid_loop_example_g00718_impl_errNoCap) :: r) W) : ∃ a, CapAt a W := by
  obtain ⟨a, s, hv, _⟩ := laid_sentinel h Tryz.capG Tryz.capT Tryz.underlying215 Tryz.rowPtr Tryz.underlying270 Tryz.underlying296 rfl rfl Tryz.underlying9 Tryz.cellsEs Tryz.cellsStr
  exact ⟨a, by simpa [CapAt] using World.var?_cell Tryz.capG hv 0⟩
theorem capVars : ∀ n ∈ ["loop.example/g00718/impl.errRange", "loop.example/g00718/impl.errNoCap"], ∃ g t ms, Tryz.prog.globalNamed n = some g ∧ (Tryz.prog.globals[g]?).map (·.type) = some t ∧ Tryz.prog.underlying t = some (.interface ms) := fun n hn => by
  rcases List.mem_cons.1 hn with rfl | hn
  · exact ⟨_, _, _, Tryz.errG, Tryz.errT, Tryz.underlying215⟩
  · obtain rfl := List.mem_singleton.1 hn
    exact ⟨_, _, _, Tryz.capG, Tryz.capT, Tryz.underlying215⟩
end Go.Proofs.YtmkpajjnjgnmkaaGreatDoor

namespace Go.Proofs.YtmkpajjnjgnmkaaGreatDoor
open Go.RowKit

def blk (v : Value) : List Nat := v.ownBlock.toList
def Agree (bs : List Nat) (w w' : World) : Prop := ∀ b ∈ bs, w'.heap[b]? = w.heap[b]?
theorem Agree.left {a b : List Nat} {w w' : World} (h : Agree (a ++ b) w w') : Agree a w w' := fun x hx => h x (List.mem_append_left _ hx)
theorem Agree.right {a b : List Nat} {w w' : World} (h : Agree (a ++ b) w w') : Agree b w w' := fun x hx => h x (List.mem_append_right _ hx)
theorem Agree.trans {bs : List Nat} {w w1 w2 : World} (h : Agree bs w w1) (k : Agree bs w1 w2) : Agree bs w w2 := fun b hb => (k b hb).trans (h b hb)
theorem Agree.of_below {bs : List Nat} {B : Nat} {w w' : World} (hb : Below B w w') (h : ∀ b ∈ bs, b < B) : Agree bs w w' := fun b hx => hb.block b (h b hx)
section
variable {w w' : World} {e : TypeId} {size n : Nat} {v : Value} {xs : List Value}
theorem own_agree {base : Nat} (h : w.ownsRow base e size v n xs) (ha : Agree (blk v) w w') : w'.ownsRow base e size v n xs := by
  obtain ⟨h1, h2⟩ := h
  refine ⟨h1, ?_⟩
  rcases h2 with h | ⟨g, cap, cur, rfl, hg, hh, h⟩
  · exact .inl h
  · exact .inr ⟨g, cap, cur, rfl, hg, (ha g (by simp [blk, Value.ownBlock])).trans hh, h⟩
theorem own_lt {base : Nat} (h : w.ownsRow base e size v n xs) : ∀ b ∈ blk v, b < w.heap.size := by
  rcases h.2 with ⟨rfl, _⟩ | ⟨g, cap, cur, rfl, hg, hh, _⟩
  · intro b hb; simp [blk, Value.ownBlock] at hb
  · intro b hb
    simp [blk, Value.ownBlock] at hb
    subst hb
    exact (Array.getElem?_eq_some_iff.1 hh).1
theorem own_form {base : Nat} (h : w.ownsRow base e size v n xs) : ∃ A c, v = .slice A n c ∧ (0 < n → ∃ b, A = some ⟨b, 0, none⟩ ∧ b < w.heap.size ∧ CellsAt w b 0 xs) := by
  obtain ⟨h1, h2⟩ := h
  rcases h2 with ⟨rfl, rfl⟩ | ⟨g, cap, cur, rfl, hg, hh, hnc, _, hs, ht⟩
  · exact ⟨none, 0, rfl, fun h => absurd h (by omega)⟩
  · refine ⟨_, cap, rfl, fun _ => ⟨g, rfl, (Array.getElem?_eq_some_iff.1 hh).1, fun j u hu => ?_⟩⟩
    rw [← ht] at hu
    have hj : j < n * size := by
      have := (List.getElem?_eq_some_iff.1 hu).1
      rw [List.length_take] at this; omega
    rw [List.getElem?_take_of_lt hj] at hu
    simp [World.cell?, hh]
    simpa using hu
end

section
variable {P : Program} {ops : Array Oper} {rest : List Oper} {o : Oper} {a : Act} {Q : Exit → Act → World → Prop}
end

def Elems {α : Type} (R : World → α → List Value → List Nat → Prop) (w : World) : List α → List Value → List Nat → Prop
  | [], xs, bs => xs = [] ∧ bs = []
  | x :: r, xs, bs => ∃ cs ys b1 b2, xs = cs ++ ys ∧ bs = b1 ++ b2 ∧ R w x cs b1 ∧ Elems R w r ys b2
def Framed {α : Type} (R : World → α → List Value → List Nat → Prop) : Prop := ∀ (w w' : World) (x : α) (cs : List Value) (bs : List Nat), R w x cs bs → Agree bs w w' → R w' x cs bs
section
variable {α : Type} {R : World → α → List Value → List Nat → Prop} {w w' : World} {l : List α} {xs : List Value} {bs : List Nat}
theorem Elems.agree (hR : Framed R) (h : Elems R w l xs bs) (ha : Agree bs w w') : Elems R w' l xs bs := by
  induction l generalizing xs bs with
  | nil => exact h
  | cons x r ih =>
    obtain ⟨cs, ys, b1, b2, rfl, rfl, h1, h2⟩ := h
    exact ⟨cs, ys, b1, b2, rfl, rfl, hR _ _ _ _ _ h1 ha.left, ih h2 ha.right⟩
theorem Elems.at {n : Nat} (hn : ∀ x cs b, R w x cs b → cs.length = n) (h : Elems R w l xs bs) {i : Nat} {x : α} (hx : l[i]? = some x) : ∃ cs b, R w x cs b ∧ (∀ c ∈ b, c ∈ bs) ∧ ∀ (j : Nat) (u : Value), cs[j]? = some u → xs[i * n + j]? = some u := by
  induction l generalizing xs bs i with
  | nil => simp at hx
  | cons y r ih =>
    obtain ⟨ds, ys, b1, b2, rfl, rfl, h1, h2⟩ := h
    cases i with
    | zero =>
      simp at hx; subst hx
      refine ⟨ds, b1, h1, fun c hc => List.mem_append_left _ hc, fun j u hu => ?_⟩
      rw [Nat.zero_mul, Nat.zero_add, List.getElem?_append_left (List.getElem?_eq_some_iff.1 hu).1]; exact hu
    | succ i =>
      obtain ⟨cs, b, a1, a2, a3⟩ := ih h2 (by simpa using hx)
      refine ⟨cs, b, a1, fun c hc => List.mem_append_right _ (a2 c hc), fun j u hu => ?_⟩
      have := hn _ _ _ h1
      rw [List.getElem?_append_right (by rw [this, Nat.add_mul]; omega), this, show (i + 1) * n + j - n = i * n + j by rw [Nat.add_mul]; omega]
      exact a3 j u hu
def RowO (R : World → α → List Value → List Nat → Prop) (ty : TypeId) (n : Nat) (w : World) (v : Value) (l : List α) (bs : List Nat) : Prop := ∃ xs b, w.ownsRow 0 ty n v l.length xs ∧ Elems R w l xs b ∧ bs = blk v ++ b
theorem RowO.agree {ty : TypeId} {n : Nat} {v : Value} (hR : Framed R) (h : RowO R ty n w v l bs) (ha : Agree bs w w') : RowO R ty n w' v l bs := by
  obtain ⟨xs, b, h1, h2, rfl⟩ := h
  exact ⟨xs, b, own_agree h1 ha.left, h2.agree hR ha.right, rfl⟩
theorem RowO.sl {ty : TypeId} {n : Nat} {v : Value} {S : World → α → List Value → Prop} (hn : ∀ x cs b, R w x cs b → cs.length = n) (hS : ∀ x cs b, R w x cs b → S w x cs) (h : RowO R ty n w v l bs) : GSl S n w v l := by
  obtain ⟨xs, b, h1, h2, rfl⟩ := h
  obtain ⟨A, c, rfl, hA⟩ := own_form h1
  rcases Nat.eq_zero_or_pos l.length with h0 | hp
  · obtain rfl : l = [] := List.eq_nil_of_length_eq_zero h0
    exact .inl ⟨rfl, _, _, rfl⟩
  · obtain ⟨g, rfl, hlt, hc⟩ := hA hp
    refine .inr ⟨g, 0, c, rfl, hlt, fun i x hx => ?_⟩
    obtain ⟨cs, b', a1, _, a3⟩ := h2.at hn hx
    exact ⟨cs, hS _ _ _ a1, fun j u hu => by rw [show 0 + i * n + j = 0 + (i * n + j) by omega]; exact hc _ _ (a3 j u hu)⟩
end

def intL (l : List Int) : List Value := l.map (Value.int .i64)
def LabO (w : World) (v : Value) (l : List LV) : Prop := w.ownsRow 0 119 2 v l.length (labL l)
def IntO (w : World) (v : Value) (l : List Int) : Prop := w.ownsRow 0 3 1 v l.length (intL l)
theorem LabO.sl {w : World} {v : Value} {l : List LV} (h : LabO w v l) : LabSl w v l := by
  obtain ⟨A, c, rfl, hA⟩ := own_form h
  rcases Nat.eq_zero_or_pos l.length with h0 | hp
  · obtain rfl : l = [] := List.eq_nil_of_length_eq_zero h0
    exact .inl ⟨rfl, _, _, rfl⟩
  · obtain ⟨g, rfl, hlt, hc⟩ := hA hp
    refine .inr ⟨g, 0, c, rfl, hlt, fun i r hr => ?_⟩
    obtain ⟨h1, h2⟩ := labL_at hr
    exact ⟨hc _ _ h1, hc _ _ h2⟩
theorem IntO.sl {w : World} {v : Value} {l : List Int} (h : IntO w v l) : IntSl w v l := by
  obtain ⟨A, c, rfl, hA⟩ := own_form h
  rcases Nat.eq_zero_or_pos l.length with h0 | hp
  · obtain rfl : l = [] := List.eq_nil_of_length_eq_zero h0
    exact .inl ⟨rfl, _, _, rfl⟩
  · obtain ⟨g, rfl, hlt, hc⟩ := hA hp
    exact .inr ⟨g, 0, c, rfl, hlt, fun i r hr => hc _ _ (by simp [intL, hr])⟩
def TaskO (w : World) (t : TV) (cs : List Value) (bs : List Nat) : Prop := ∃ v1 v2, cs = [.int .i64 t.id, .int .i64 t.prio, .int .i64 t.need.c, .int .i64 t.need.m, .int .i64 t.need.p, v1, v2] ∧ LabO w v1 t.want ∧ IntO w v2 t.tols ∧ bs = blk v1 ++ blk v2 ∧ t.want.length ≤ 1048576 ∧ t.tols.length ≤ 1048576
def NodeO (w : World) (t : NV) (cs : List Value) (bs : List Nat) : Prop := ∃ v1 v2, cs = [.int .i64 t.id, .int .i64 t.pool, .int .i64 t.cap.c, .int .i64 t.cap.m, .int .i64 t.cap.p, v1, v2, .bool t.cordon] ∧ LabO w v1 t.labs ∧ IntO w v2 t.taints ∧ bs = blk v1 ++ blk v2 ∧ t.labs.length ≤ 1048576 ∧ t.taints.length ≤ 1048576
def BindO (_ : World) (t : BV) (cs : List Value) (bs : List Nat) : Prop := cs = [.int .i64 t.task, .int .i64 t.node] ∧ bs = []
theorem TaskO.framed : Framed TaskO := fun _ _ _ _ _ ⟨v1, v2, e, h1, h2, hb, h3⟩ ha => by
  subst hb
  exact ⟨v1, v2, e, own_agree h1 ha.left, own_agree h2 ha.right, rfl, h3⟩
theorem TaskO.r {w : World} {t : TV} {cs : List Value} {bs : List Nat} (h : TaskO w t cs bs) : TaskR w t cs := by
  obtain ⟨v1, v2, e, h1, h2, _, h3⟩ := h
  exact ⟨v1, v2, e, h1.sl, h2.sl, h3⟩
theorem TaskO.len {w : World} {t : TV} {cs : List Value} {bs : List Nat} (h : TaskO w t cs bs) : cs.length = 7 := by
  obtain ⟨v1, v2, e, _⟩ := h; subst e; rfl
theorem TaskO.lt {w : World} {t : TV} {cs : List Value} {bs : List Nat} (h : TaskO w t cs bs) : ∀ b ∈ bs, b < w.heap.size := by
  obtain ⟨v1, v2, _, h1, h2, rfl, _⟩ := h
  intro b hb
  rcases List.mem_append.1 hb with hb | hb
  · exact own_lt h1 b hb
  · exact own_lt h2 b hb
theorem NodeO.framed : Framed NodeO := fun _ _ _ _ _ ⟨v1, v2, e, h1, h2, hb, h3⟩ ha => by
  subst hb
  exact ⟨v1, v2, e, own_agree h1 ha.left, own_agree h2 ha.right, rfl, h3⟩
theorem NodeO.r {w : World} {t : NV} {cs : List Value} {bs : List Nat} (h : NodeO w t cs bs) : NodeR w t cs := by
  obtain ⟨v1, v2, e, h1, h2, _, h3⟩ := h
  exact ⟨v1, v2, e, h1.sl, h2.sl, h3⟩
theorem NodeO.len {w : World} {t : NV} {cs : List Value} {bs : List Nat} (h : NodeO w t cs bs) : cs.length = 8 := by
  obtain ⟨v1, v2, e, _⟩ := h; subst e; rfl
theorem NodeO.lt {w : World} {t : NV} {cs : List Value} {bs : List Nat} (h : NodeO w t cs bs) : ∀ b ∈ bs, b < w.heap.size := by
  obtain ⟨v1, v2, _, h1, h2, rfl, _⟩ := h
  intro b hb
  rcases List.mem_append.1 hb with hb | hb
  · exact own_lt h1 b hb
  · exact own_lt h2 b hb
theorem BindO.framed : Framed BindO := fun _ _ _ _ _ h _ => h
theorem BindO.r {w : World} {t : BV} {cs : List Value} {bs : List Nat} (h : BindO w t cs bs) : BindR w t cs := h.1
theorem BindO.len {w : World} {t : BV} {cs : List Value} {bs : List Nat} (h : BindO w t cs bs) : cs.length = 2 := by rw [h.1]; rfl
theorem BindO.lt {w : World} {t : BV} {cs : List Value} {bs : List Nat} (h : BindO w t cs bs) : ∀ b ∈ bs, b < w.heap.size := by rw [h.2]; simp
end Go.Proofs.YtmkpajjnjgnmkaaGreatDoor

namespace Go.Proofs.YtmkpajjnjgnmkaaGreatDoor
open Go.RowKit

structure TurnB (bs : List Nat) (w w' : World) : Prop where
  os : w'.os = w.os
  tape : w'.tape = w.tape
  output : w'.output = w.output
  size : w.heap.size ≤ w'.heap.size
  block : ∀ k, k < w.heap.size → k ∉ bs → w'.heap[k]? = w.heap[k]?
section
variable {bs cs : List Nat} {w w' w'' : World}
theorem TurnB.refl (bs : List Nat) (w : World) : TurnB bs w w := ⟨rfl, rfl, rfl, Nat.le_refl _, fun _ _ _ => rfl⟩
theorem TurnB.trans (h : TurnB bs w w') (k : TurnB bs w' w'') : TurnB bs w w'' :=
  ⟨k.os.trans h.os, k.tape.trans h.tape, k.output.trans h.output, Nat.le_trans h.size k.size, fun b hb hne => (k.block b (Nat.lt_of_lt_of_le hb h.size) hne).trans (h.block b hb hne)⟩
theorem TurnB.mono (h : TurnB bs w w') (hs : ∀ b ∈ bs, b ∈ cs) : TurnB cs w w' := ⟨h.os, h.tape, h.output, h.size, fun b hb hn => h.block b hb (fun e => hn (hs b e))⟩
theorem TurnB.of_below (hb : Below w.heap.size w w') : TurnB bs w w' := ⟨hb.os, hb.tape, hb.output, hb.size, fun k hk _ => hb.block k hk⟩
theorem TurnB.step (h : TurnB bs w w') (hb : Below w'.heap.size w' w'') : TurnB bs w w'' := h.trans (.of_below hb)
theorem TurnB.put {g : Nat} (h : TurnB bs w w') (hg : g ∈ bs) (o : Nat) (u : Value) : TurnB bs w (w'.setCell ⟨g, o, none⟩ u) :=
  h.trans ⟨rfl, rfl, rfl, by simp [World.setCell], fun k _ hne => Below.heap_setCell _ _ _ k (fun e => hne (by rw [e]; exact hg))⟩
theorem TurnB.putAll {g : Nat} (h : TurnB bs w w') (hg : g ∈ bs) (o : Nat) (ds : List Value) : TurnB bs w (Go.Proofs.YtmkpajjnjgnmkaaGreatDoor.putAll w' g o ds) := by
  induction ds generalizing w' o with
  | nil => exact h
  | cons u r ih => exact ih (h.put hg o u) _
theorem TurnB.agree (h : TurnB bs w w') {ds : List Nat} (hd : ∀ b ∈ ds, b < w.heap.size ∧ b ∉ bs) : Agree ds w w' := fun b hb => h.block b (hd b hb).1 (hd b hb).2
theorem TurnB.below {B : Nat} (h : TurnB bs w w') (hB : B ≤ w.heap.size) (hg : ∀ b ∈ bs, B ≤ b) : Below B w w' :=
  ⟨h.os, h.tape, h.output, h.size, fun k hk => h.block k (by omega) (fun e => by have := hg k e; omega)⟩
theorem BlockIs.turn {g : Nat} {t : TypeId} {c : Array Value} (h : BlockIs w g t c) (k : TurnB bs w w') (hn : g ∉ bs) : BlockIs w' g t c := (k.block g h.lt hn).trans h
end

section
variable {α : Type} {R S : World → α → List Value → List Nat → Prop} {w w' : World} {a b l : List α} {xs xa xb : List Value} {bs ba bb : List Nat}
theorem Elems.split (h : Elems R w (a ++ b) xs bs) : ∃ xa xb ba bb, xs = xa ++ xb ∧ bs = ba ++ bb ∧ Elems R w a xa ba ∧ Elems R w b xb bb := by
  induction a generalizing xs bs with
  | nil => exact ⟨[], xs, [], bs, rfl, rfl, ⟨rfl, rfl⟩, h⟩
  | cons x r ih =>
    obtain ⟨cs, ys, b1, b2, rfl, rfl, h1, h2⟩ := h
    obtain ⟨xa, xb, ba, bb, rfl, rfl, h3, h4⟩ := ih h2
    exact ⟨cs ++ xa, xb, b1 ++ ba, bb, by simp, by simp, ⟨cs, xa, b1, ba, rfl, rfl, h1, h3⟩, h4⟩
theorem Elems.len {n : Nat} (hn : ∀ x cs b, R w x cs b → cs.length = n) (h : Elems R w l xs bs) : xs.length = l.length * n := by
  induction l generalizing xs bs with
  | nil => obtain ⟨rfl, rfl⟩ := h; simp
  | cons x r ih =>
    obtain ⟨cs, ys, b1, b2, rfl, rfl, h1, h2⟩ := h
    rw [List.length_append, ih h2, hn _ _ _ h1, List.length_cons, Nat.add_mul]; omega
end
end Go.Proofs.YtmkpajjnjgnmkaaGreatDoor

namespace Go.Proofs.YtmkpajjnjgnmkaaGreatDoor
open Go.RowKit

def Tells {α : Type} (R : World → α → List Value → Prop) (g : Nat) (lb : Array Value) (p : α → Bool) (Inv : World → Prop) : Prop :=
  ∀ (w : World) (x : α) (cs : List Value), Inv w → R w x cs → Calls Tryz.prog g (#[.agg cs.toArray] ++ lb) w fun e w' => e = .returned (.bool (p x)) ∧ Below w.heap.size w w'
def pIdxGo {α : Type} (p : α → Bool) : Int → List α → Int
  | _, [] => -1
  | k, x :: r => if p x then k else pIdxGo p (k + 1) r
def pIdx {α : Type} (p : α → Bool) (l : List α) : Int := pIdxGo p 0 l
section
variable {α : Type} {p : α → Bool} {l : List α}
theorem pIdxGo_hit {k : Int} {x : α} {r : List α} (h : p x = true) : pIdxGo p k (x :: r) = k := by rw [pIdxGo, if_pos h]
theorem pIdxGo_miss {k : Int} {x : α} {r : List α} (h : p x = false) : pIdxGo p k (x :: r) = pIdxGo p (k + 1) r := by rw [pIdxGo, h]; rfl
theorem pIdxGo_spec (k : Int) : (pIdxGo p k l = -1 ∧ ∀ x ∈ l, p x = false) ∨ ∃ (j : Nat) (x : α), pIdxGo p k l = k + j ∧ l[j]? = some x ∧ p x = true ∧ ∀ y ∈ l.take j, p y = false := by
  induction l generalizing k with
  | nil => exact .inl ⟨rfl, by simp⟩
  | cons x r ih =>
    cases h : p x with
    | true => exact .inr ⟨0, x, by rw [pIdxGo_hit h]; simp, rfl, h, by simp⟩
    | false =>
      rcases ih (k + 1) with ⟨e, ha⟩ | ⟨j, y, e, h1, h2, h3⟩
      · exact .inl ⟨by rw [pIdxGo_miss h, e], by simpa [h] using ha⟩
      · exact .inr ⟨j + 1, y, by rw [pIdxGo_miss h, e]; simp; omega, by simpa using h1, h2, by simpa [h] using h3⟩
theorem pIdx_spec : (pIdx p l = -1 ∧ ∀ x ∈ l, p x = false) ∨ ∃ (j : Nat) (x : α), pIdx p l = j ∧ l[j]? = some x ∧ p x = true ∧ ∀ y ∈ l.take j, p y = false := by
  rcases pIdxGo_spec (p := p) (l := l) 0 with h | ⟨j, x, e, h⟩
  · exact .inl h
  · exact .inr ⟨j, x, by unfold pIdx; rw [e]; omega, h⟩
end

set_option maxHeartbeats 1600000 in
theorem indexNode_by (g : Nat) (lb : Array Value) (p : NV → Bool) (Inv : World → Prop) (eg : ∀ args w, (callFunc g args).run Tryz.prog w = .ok (.enter g args) w) (hT : Tells NodeR g lb p Inv) (hK : ∀ w w', Below w.heap.size w w' → Inv w → Inv w')
    (v : Value) (l : List NV) (w : World) (hv : NodeSl w v l) (hlen : l.length ≤ 1048576) (hI : Inv w) :
    Calls Tryz.prog 175 #[v, .func (.func g) #[] lb] w fun e w' => e = .returned (.int .i64 (pIdx p l)) ∧ Below w.heap.size w w' := by
  obtain ⟨A, c, rfl, hA⟩ := hv.form
  have HA := Lib.hid hA
  have HI0 := Lib.hid hI
  have HT := Lib.hid hT
  have HK := Lib.hid hK
  clear hA hv hI hT hK
  go_enter Tryz.func175, Tryz.ntmps175
  go_wp2_with fail
  go_loopw [8] (fun s8 wr => ∃ k : Nat, k ≤ l.length ∧ s8 = .int .i64 k ∧ pIdx p l = pIdxGo p k (l.drop k) ∧ Below w.heap.size w wr) (fun s8 _ => (l.length - intOf s8).toNat)
  case atStart => exact ⟨0, by omega, rfl, by simp [pIdx], Below.refl _ _⟩
  case round =>
    obtain ⟨k, hk, rfl, hidx, hBr⟩ := hrel
    have HI := Lib.hid hidx
    have hzr := hBr.size
    clear hidx
    by_cases hlt : k < l.length
    · obtain ⟨b, off, rfl, hbw, hat⟩ := HA.out (by omega)
      obtain ⟨t, ht⟩ : ∃ t, l[k]? = some t := ⟨_, List.getElem?_eq_getElem hlt⟩
      obtain ⟨cs, hR, hC⟩ := (hat.below NodeR.kept hBr hbw) k t ht
      have HD := Lib.hid (drop_at ht)
      have hcall := HT.out wr t cs (HK.out _ _ hBr HI0.out) hR
      generalize hq : p t = q at hcall
      have HQ := Lib.hid hq
      obtain ⟨v1, v2, rfl, sl, si, m1, m2⟩ := hR; obtain ⟨A1, c1, rfl, _⟩ := sl.form; obtain ⟨A2, c2, rfl, _⟩ := si.form
      clear sl si m1 m2
      obtain ⟨q0, q1, q2, q3, q4, q5, q6, q7⟩ := node_cells hC
      clear hat hC ht hq
      cases q
      · go_wp2_with (go_at_fn g; refine hcall.mono ?_; rintro e w2 ⟨rfl, hb2⟩)
        go_roundw
        case rel => exact ⟨k + 1, by omega, by go_num, by rw [HI.out, HD.out, pIdxGo_miss HQ.out]; simp, (by repeat' (first | exact Below.refl _ _ | refine Below.alloc ?_ ?_ _ | refine Below.setCell ?_ ?_ _ | refine Below.drew ?_ | (apply below_step; assumption) | (simp; done) | (simp; omega) | omega))⟩
        case measure => simp [intOf]; omega
      · go_wp2_with (go_at_fn g; refine hcall.mono ?_; rintro e w2 ⟨rfl, hb2⟩)
        go_ret
        refine ⟨?_, (by repeat' (first | exact Below.refl _ _ | refine Below.alloc ?_ ?_ _ | refine Below.setCell ?_ ?_ _ | refine Below.drew ?_ | (apply below_step; assumption) | (simp; done) | (simp; omega) | omega))⟩
        rw [HI.out, HD.out, pIdxGo_hit HQ.out]; rfl
    · have hkl : k = l.length := by omega
      have HF := Lib.hid (show pIdx p l = -1 by rw [HI.out, hkl, List.drop_length]; rfl)
      clear hkl
      go_wp2_with fail
      go_ret
      exact ⟨by rw [HF.out]; rfl, hBr⟩
end Go.Proofs.YtmkpajjnjgnmkaaGreatDoor

namespace Go.Proofs.YtmkpajjnjgnmkaaGreatDoor
open Go.RowKit

structure PV where
  id : Int
  min : Int
  max : Int
  prio : Int
  shape : NV
def PV.zero : PV := ⟨0, 0, 0, 0, NV.zero⟩
def PV.ok (p : PV) : Bool := decide (0 ≤ p.id) && decide (p.id < 5) && decide (0 ≤ p.min) && decide (p.min ≤ p.max) && decide (p.max ≤ 20) && decide (0 ≤ p.prio) && decide (p.prio ≤ 9) && p.shape.ok && (p.shape.id == 1) && (p.shape.pool == p.id) && !p.shape.cordon
theorem pv_ok_eq (p : PV) (b1 b2 b3 b4 b5 b6 b7 b8 b9 ba bb : Bool) (h1 : decide (0 ≤ p.id) = b1) (h2 : decide (p.id < 5) = b2) (h3 : decide (0 ≤ p.min) = b3) (h4 : decide (p.min ≤ p.max) = b4) (h5 : decide (p.max ≤ 20) = b5) (h6 : decide (0 ≤ p.prio) = b6) (h7 : decide (p.prio ≤ 9) = b7) (h8 : p.shape.ok = b8) (h9 : (p.shape.id == 1) = b9) (ha : (p.shape.pool == p.id) = ba) (hb : p.shape.cordon = bb) :
    p.ok = (b1 && b2 && b3 && b4 && b5 && b6 && b7 && b8 && b9 && ba && !bb) := by
  subst h1 h2 h3 h4 h5 h6 h7 h8 h9 ha hb; rfl
def PoolR (w : World) (t : PV) (cs : List Value) : Prop := ∃ v1 v2, cs = [.int .i64 t.id, .int .i64 t.min, .int .i64 t.max, .int .i64 t.prio, .int .i64 t.shape.id, .int .i64 t.shape.pool, .int .i64 t.shape.cap.c, .int .i64 t.shape.cap.m, .int .i64 t.shape.cap.p, v1, v2, .bool t.shape.cordon] ∧ LabSl w v1 t.shape.labs ∧ IntSl w v2 t.shape.taints ∧ t.shape.labs.length ≤ 1048576 ∧ t.shape.taints.length ≤ 1048576
theorem PoolR.kept : Kept PoolR := fun _ _ _ _ hb ⟨v1, v2, e, h1, h2, h3⟩ => ⟨v1, v2, e, h1.below hb, h2.below hb, h3⟩
def PoolSl (w : World) (v : Value) (l : List PV) : Prop := GSl PoolR 12 w v l
theorem PoolSl.below {w w' : World} {v : Value} {l : List PV} (h : PoolSl w v l) (hb : Below w.heap.size w w') : PoolSl w' v l := GSl.below PoolR.kept h hb
theorem PoolSl.form {w : World} {v : Value} {l : List PV} (h : PoolSl w v l) : ∃ A c, v = .slice A l.length c ∧ (0 < l.length → ∃ b off, A = some ⟨b, off, none⟩ ∧ b < w.heap.size ∧ SeqAt PoolR 12 w b off l) := GSl.form h
theorem pool_cells {w : World} {b o : Nat} {u0 u1 u2 u3 u4 u5 u6 u7 u8 u9 u10 u11 : Value} (h : CellsAt w b o [u0, u1, u2, u3, u4, u5, u6, u7, u8, u9, u10, u11]) : w.cell? ⟨b, o, none⟩ = some u0 ∧ w.cell? ⟨b, o + 1, none⟩ = some u1 ∧ w.cell? ⟨b, o + 2, none⟩ = some u2 ∧ w.cell? ⟨b, o + 3, none⟩ = some u3 ∧ w.cell? ⟨b, o + 4, none⟩ = some u4 ∧ w.cell? ⟨b, o + 5, none⟩ = some u5 ∧ w.cell? ⟨b, o + 6, none⟩ = some u6 ∧ w.cell? ⟨b, o + 7, none⟩ = some u7 ∧ w.cell? ⟨b, o + 8, none⟩ = some u8 ∧ w.cell? ⟨b, o + 9, none⟩ = some u9 ∧ w.cell? ⟨b, o + 10, none⟩ = some u10 ∧ w.cell? ⟨b, o + 11, none⟩ = some u11 :=
  ⟨h 0 _ rfl, h 1 _ rfl, h 2 _ rfl, h 3 _ rfl, h 4 _ rfl, h 5 _ rfl, h 6 _ rfl, h 7 _ rfl, h 8 _ rfl, h 9 _ rfl, h 10 _ rfl, h 11 _ rfl⟩
set_option maxHeartbeats 1600000 in
theorem PoolOk_any (p : PV) (v1 v2 : Value) (w : World) (x : Addr) (hg : ErrAt x w) (h1 : LabSl w v1 p.shape.labs) (h2 : IntSl w v2 p.shape.taints) (l1 : p.shape.labs.length ≤ 1048576) (l2 : p.shape.taints.length ≤ 1048576) :
    Calls Tryz.prog 121 #[.agg #[.int .i64 p.id, .int .i64 p.min, .int .i64 p.max, .int .i64 p.prio, .int .i64 p.shape.id, .int .i64 p.shape.pool, .int .i64 p.shape.cap.c, .int .i64 p.shape.cap.m, .int .i64 p.shape.cap.p, v1, v2, .bool p.shape.cordon]] w fun e w' => e = .returned (.bool p.ok) ∧ Below w.heap.size w w' := by
  have HL := Lib.hid h1
  have HI := Lib.hid h2
  have HE := Lib.hid (pv_ok_eq p)
  have HG := Lib.hid hg
  have hno := fun w hg a b => NodeOk_any p.shape v1 v2 w x hg a b l1 l2
  generalize p.ok = ok at *
  generalize e1 : decide (0 ≤ p.id) = b1
  generalize e2 : decide (p.id < 5) = b2
  generalize e3 : decide (0 ≤ p.min) = b3
  generalize e4 : decide (p.min ≤ p.max) = b4
  generalize e5 : decide (p.max ≤ 20) = b5
  generalize e6 : decide (0 ≤ p.prio) = b6
  generalize e7 : decide (p.prio ≤ 9) = b7
  generalize e8 : p.shape.ok = b8 at hno
  generalize e9 : (p.shape.id == 1) = b9
  generalize ea : (p.shape.pool == p.id) = ba
  generalize eb : p.shape.cordon = bb at hno ⊢
  have HE' := Lib.hid (HE.out _ _ _ _ _ _ _ _ _ _ _ e1 e2 e3 e4 e5 e6 e7 e8 e9 ea eb)
  have HNO := Lib.hid hno
  clear h1 h2 hno e8 HE l1 l2 eb hg
  go_enter Tryz.func121, Tryz.ntmps121
  cases b1
  · go_wp2_with fail
    go_ret
    exact ⟨by rw [HE'.out]; simp, (by repeat' (first | exact Below.refl _ _ | refine Below.alloc ?_ ?_ _ | refine Below.setCell ?_ ?_ _ | refine Below.drew ?_ | (apply below_step; assumption) | (simp; done) | (simp; omega) | omega))⟩
  cases b2
  · go_wp2_with fail
    go_ret
    exact ⟨by rw [HE'.out]; simp, (by repeat' (first | exact Below.refl _ _ | refine Below.alloc ?_ ?_ _ | refine Below.setCell ?_ ?_ _ | refine Below.drew ?_ | (apply below_step; assumption) | (simp; done) | (simp; omega) | omega))⟩
  cases b3
  · go_wp2_with fail
    go_ret
    exact ⟨by rw [HE'.out]; simp, (by repeat' (first | exact Below.refl _ _ | refine Below.alloc ?_ ?_ _ | refine Below.setCell ?_ ?_ _ | refine Below.drew ?_ | (apply below_step; assumption) | (simp; done) | (simp; omega) | omega))⟩
  cases b4
  · go_wp2_with fail
    go_ret
    exact ⟨by rw [HE'.out]; simp, (by repeat' (first | exact Below.refl _ _ | refine Below.alloc ?_ ?_ _ | refine Below.setCell ?_ ?_ _ | refine Below.drew ?_ | (apply below_step; assumption) | (simp; done) | (simp; omega) | omega))⟩
  cases b5
  · go_wp2_with fail
    go_ret
    exact ⟨by rw [HE'.out]; simp, (by repeat' (first | exact Below.refl _ _ | refine Below.alloc ?_ ?_ _ | refine Below.setCell ?_ ?_ _ | refine Below.drew ?_ | (apply below_step; assumption) | (simp; done) | (simp; omega) | omega))⟩
  cases b6
  · go_wp2_with fail
    go_ret
    exact ⟨by rw [HE'.out]; simp, (by repeat' (first | exact Below.refl _ _ | refine Below.alloc ?_ ?_ _ | refine Below.setCell ?_ ?_ _ | refine Below.drew ?_ | (apply below_step; assumption) | (simp; done) | (simp; omega) | omega))⟩
  cases b7
  · go_wp2_with fail
    go_ret
    exact ⟨by rw [HE'.out]; simp, (by repeat' (first | exact Below.refl _ _ | refine Below.alloc ?_ ?_ _ | refine Below.setCell ?_ ?_ _ | refine Below.drew ?_ | (apply below_step; assumption) | (simp; done) | (simp; omega) | omega))⟩
  go_wp2_with fail
  have hX : Below w.heap.size w (w.alloc (.cells #[.int .i64 p.id, .int .i64 p.min, .int .i64 p.max, .int .i64 p.prio, .int .i64 p.shape.id, .int .i64 p.shape.pool, .int .i64 p.shape.cap.c, .int .i64 p.shape.cap.m, .int .i64 p.shape.cap.p, v1, v2, .bool bb] 85)) := (by repeat' (first | exact Below.refl _ _ | refine Below.alloc ?_ ?_ _ | refine Below.setCell ?_ ?_ _ | refine Below.drew ?_ | (apply below_step; assumption) | (simp; done) | (simp; omega) | omega))
  refine (HNO.out _ (HG.out.below hX (Nat.le_refl _)) (HL.out.below hX) (HI.out.below hX)).mono ?_
  rintro e w1 ⟨rfl, hb1⟩
  have hC1 := below_of hX hb1
  have B1 := (BlockIs.new w 85 #[.int .i64 p.id, .int .i64 p.min, .int .i64 p.max, .int .i64 p.prio, .int .i64 p.shape.id, .int .i64 p.shape.pool, .int .i64 p.shape.cap.c, .int .i64 p.shape.cap.m, .int .i64 p.shape.cap.p, v1, v2, .bool bb]).below hb1 (by simp)
  have g0 := B1.cell 0
  have g4 := B1.cell 4
  have g5 := B1.cell 5
  have g11 := B1.cell 11
  simp at g0 g4 g5 g11
  clear B1 hb1 hX
  cases b8
  · go_wp2_with fail
    go_ret
    exact ⟨by rw [HE'.out]; simp, hC1⟩
  cases b9
  · go_wp2_with fail
    go_ret
    exact ⟨by rw [HE'.out]; simp, hC1⟩
  cases ba
  · go_wp2_with fail
    go_ret
    exact ⟨by rw [HE'.out]; simp, hC1⟩
  go_wp2_with fail
  go_ret
  exact ⟨by rw [HE'.out]; simp, hC1⟩
set_option maxHeartbeats 1600000 in
theorem sPoolOk_any (p : PV) (v1 v2 : Value) (w : World) (h1 : LabSl w v1 p.shape.labs) (h2 : IntSl w v2 p.shape.taints) (l1 : p.shape.labs.length ≤ 1048576) (l2 : p.shape.taints.length ≤ 1048576) :
    Calls Tryz.prog 114 #[.agg #[.int .i64 p.id, .int .i64 p.min, .int .i64 p.max, .int .i64 p.prio, .int .i64 p.shape.id, .int .i64 p.shape.pool, .int .i64 p.shape.cap.c, .int .i64 p.shape.cap.m, .int .i64 p.shape.cap.p, v1, v2, .bool p.shape.cordon]] w fun e w' => e = .returned (.bool p.ok) ∧ Below w.heap.size w w' := by
  have HL := Lib.hid h1
  have HI := Lib.hid h2
  have HE := Lib.hid (pv_ok_eq p)
  have hno := fun w a b => sNodeOk_any p.shape v1 v2 w a b l1 l2
  generalize p.ok = ok at *
  generalize e1 : decide (0 ≤ p.id) = b1
  generalize e2 : decide (p.id < 5) = b2
  generalize e3 : decide (0 ≤ p.min) = b3
  generalize e4 : decide (p.min ≤ p.max) = b4
  generalize e5 : decide (p.max ≤ 20) = b5
  generalize e6 : decide (0 ≤ p.prio) = b6
  generalize e7 : decide (p.prio ≤ 9) = b7
  generalize e8 : p.shape.ok = b8 at hno
  generalize e9 : (p.shape.id == 1) = b9
  generalize ea : (p.shape.pool == p.id) = ba
  generalize eb : p.shape.cordon = bb at hno ⊢
  have HE' := Lib.hid (HE.out _ _ _ _ _ _ _ _ _ _ _ e1 e2 e3 e4 e5 e6 e7 e8 e9 ea eb)
  have HNO := Lib.hid hno
  clear h1 h2 hno e8 HE l1 l2 eb
  go_enter Tryz.func114, Tryz.ntmps114
  cases b1
  · go_wp2_with fail
    go_ret
    exact ⟨by rw [HE'.out]; simp, (by repeat' (first | exact Below.refl _ _ | refine Below.alloc ?_ ?_ _ | refine Below.setCell ?_ ?_ _ | refine Below.drew ?_ | (apply below_step; assumption) | (simp; done) | (simp; omega) | omega))⟩
  cases b2
  · go_wp2_with fail
    go_ret
    exact ⟨by rw [HE'.out]; simp, (by repeat' (first | exact Below.refl _ _ | refine Below.alloc ?_ ?_ _ | refine Below.setCell ?_ ?_ _ | refine Below.drew ?_ | (apply below_step; assumption) | (simp; done) | (simp; omega) | omega))⟩
  cases b3
  · go_wp2_with fail
    go_ret
    exact ⟨by rw [HE'.out]; simp, (by repeat' (first | exact Below.refl _ _ | refine Below.alloc ?_ ?_ _ | refine Below.setCell ?_ ?_ _ | refine Below.drew ?_ | (apply below_step; assumption) | (simp; done) | (simp; omega) | omega))⟩
  cases b4
  · go_wp2_with fail
    go_ret
    exact ⟨by rw [HE'.out]; simp, (by repeat' (first | exact Below.refl _ _ | refine Below.alloc ?_ ?_ _ | refine Below.setCell ?_ ?_ _ | refine Below.drew ?_ | (apply below_step; assumption) | (simp; done) | (simp; omega) | omega))⟩
  cases b5
  · go_wp2_with fail
    go_ret
    exact ⟨by rw [HE'.out]; simp, (by repeat' (first | exact Below.refl _ _ | refine Below.alloc ?_ ?_ _ | refine Below.setCell ?_ ?_ _ | refine Below.drew ?_ | (apply below_step; assumption) | (simp; done) | (simp; omega) | omega))⟩
  cases b6
  · go_wp2_with fail
    go_ret
    exact ⟨by rw [HE'.out]; simp, (by repeat' (first | exact Below.refl _ _ | refine Below.alloc ?_ ?_ _ | refine Below.setCell ?_ ?_ _ | refine Below.drew ?_ | (apply below_step; assumption) | (simp; done) | (simp; omega) | omega))⟩
  cases b7
  · go_wp2_with fail
    go_ret
    exact ⟨by rw [HE'.out]; simp, (by repeat' (first | exact Below.refl _ _ | refine Below.alloc ?_ ?_ _ | refine Below.setCell ?_ ?_ _ | refine Below.drew ?_ | (apply below_step; assumption) | (simp; done) | (simp; omega) | omega))⟩
  go_wp2_with fail
  have hX : Below w.heap.size w (w.alloc (.cells #[.int .i64 p.id, .int .i64 p.min, .int .i64 p.max, .int .i64 p.prio, .int .i64 p.shape.id, .int .i64 p.shape.pool, .int .i64 p.shape.cap.c, .int .i64 p.shape.cap.m, .int .i64 p.shape.cap.p, v1, v2, .bool bb] 85)) := (by repeat' (first | exact Below.refl _ _ | refine Below.alloc ?_ ?_ _ | refine Below.setCell ?_ ?_ _ | refine Below.drew ?_ | (apply below_step; assumption) | (simp; done) | (simp; omega) | omega))
  refine (HNO.out _ (HL.out.below hX) (HI.out.below hX)).mono ?_
  rintro e w1 ⟨rfl, hb1⟩
  have hC1 := below_of hX hb1
  have B1 := (BlockIs.new w 85 #[.int .i64 p.id, .int .i64 p.min, .int .i64 p.max, .int .i64 p.prio, .int .i64 p.shape.id, .int .i64 p.shape.pool, .int .i64 p.shape.cap.c, .int .i64 p.shape.cap.m, .int .i64 p.shape.cap.p, v1, v2, .bool bb]).below hb1 (by simp)
  have g0 := B1.cell 0
  have g4 := B1.cell 4
  have g5 := B1.cell 5
  have g11 := B1.cell 11
  simp at g0 g4 g5 g11
  clear B1 hb1 hX
  cases b8
  · go_wp2_with fail
    go_ret
    exact ⟨by rw [HE'.out]; simp, hC1⟩
  cases b9
  · go_wp2_with fail
    go_ret
    exact ⟨by rw [HE'.out]; simp, hC1⟩
  cases ba
  · go_wp2_with fail
    go_ret
    exact ⟨by rw [HE'.out]; simp, hC1⟩
  go_wp2_with fail
  go_ret
  exact ⟨by rw [HE'.out]; simp, hC1⟩
end Go.Proofs.YtmkpajjnjgnmkaaGreatDoor

namespace Go.Proofs.YtmkpajjnjgnmkaaGreatDoor
open Go.RowKit

theorem pIdx_any {α : Type} (p : α → Bool) (l : List α) : decide (0 ≤ pIdx p l) = l.any p := by
  rcases pIdx_spec (p := p) (l := l) with ⟨e, h⟩ | ⟨j, x, e, h1, h2, _⟩
  · rw [e]
    have : l.any p = false := List.any_eq_false.2 (fun x hx => by simp [h x hx])
    rw [this]; rfl
  · rw [e]
    have : l.any p = true := List.any_eq_true.2 ⟨x, List.mem_of_getElem? h1, h2⟩
    rw [this]; simp
set_option maxHeartbeats 1600000 in
theorem indexPool_by (g : Nat) (lb : Array Value) (p : PV → Bool) (Inv : World → Prop) (eg : ∀ args w, (callFunc g args).run Tryz.prog w = .ok (.enter g args) w) (hT : Tells PoolR g lb p Inv) (hK : ∀ w w', Below w.heap.size w w' → Inv w → Inv w')
    (v : Value) (l : List PV) (w : World) (hv : PoolSl w v l) (hlen : l.length ≤ 1048576) (hI : Inv w) :
    Calls Tryz.prog 176 #[v, .func (.func g) #[] lb] w fun e w' => e = .returned (.int .i64 (pIdx p l)) ∧ Below w.heap.size w w' := by
  obtain ⟨A, c, rfl, hA⟩ := hv.form
  have HA := Lib.hid hA
  have HI0 := Lib.hid hI
  have HT := Lib.hid hT
  have HK := Lib.hid hK
  clear hA hv hI hT hK
  go_enter Tryz.func176, Tryz.ntmps176
  go_wp2_with fail
  go_loopw [8] (fun s8 wr => ∃ k : Nat, k ≤ l.length ∧ s8 = .int .i64 k ∧ pIdx p l = pIdxGo p k (l.drop k) ∧ Below w.heap.size w wr) (fun s8 _ => (l.length - intOf s8).toNat)
  case atStart => exact ⟨0, by omega, rfl, by simp [pIdx], Below.refl _ _⟩
  case round =>
    obtain ⟨k, hk, rfl, hidx, hBr⟩ := hrel
    have HI := Lib.hid hidx
    have hzr := hBr.size
    clear hidx
    by_cases hlt : k < l.length
    · obtain ⟨b, off, rfl, hbw, hat⟩ := HA.out (by omega)
      obtain ⟨t, ht⟩ : ∃ t, l[k]? = some t := ⟨_, List.getElem?_eq_getElem hlt⟩
      obtain ⟨cs, hR, hC⟩ := (hat.below PoolR.kept hBr hbw) k t ht
      have HD := Lib.hid (drop_at ht)
      have hcall := HT.out wr t cs (HK.out _ _ hBr HI0.out) hR
      generalize hq : p t = q at hcall
      have HQ := Lib.hid hq
      obtain ⟨v1, v2, rfl, sl, si, m1, m2⟩ := hR; obtain ⟨A1, c1, rfl, _⟩ := sl.form; obtain ⟨A2, c2, rfl, _⟩ := si.form
      clear sl si m1 m2
      obtain ⟨q0, q1, q2, q3, q4, q5, q6, q7, q8, q9, q10, q11⟩ := pool_cells hC
      clear hat hC ht hq
      cases q
      · go_wp2_with (go_at_fn g; refine hcall.mono ?_; rintro e w2 ⟨rfl, hb2⟩)
        go_roundw
        case rel => exact ⟨k + 1, by omega, by go_num, by rw [HI.out, HD.out, pIdxGo_miss HQ.out]; simp, (by repeat' (first | exact Below.refl _ _ | refine Below.alloc ?_ ?_ _ | refine Below.setCell ?_ ?_ _ | refine Below.drew ?_ | (apply below_step; assumption) | (simp; done) | (simp; omega) | omega))⟩
        case measure => simp [intOf]; omega
      · go_wp2_with (go_at_fn g; refine hcall.mono ?_; rintro e w2 ⟨rfl, hb2⟩)
        go_ret
        refine ⟨?_, (by repeat' (first | exact Below.refl _ _ | refine Below.alloc ?_ ?_ _ | refine Below.setCell ?_ ?_ _ | refine Below.drew ?_ | (apply below_step; assumption) | (simp; done) | (simp; omega) | omega))⟩
        rw [HI.out, HD.out, pIdxGo_hit HQ.out]; rfl
    · have hkl : k = l.length := by omega
      have HF := Lib.hid (show pIdx p l = -1 by rw [HI.out, hkl, List.drop_length]; rfl)
      clear hkl
      go_wp2_with fail
      go_ret
      exact ⟨by rw [HF.out]; rfl, hBr⟩
set_option maxHeartbeats 1600000 in
theorem containsNode_by (g : Nat) (lb : Array Value) (p : NV → Bool) (Inv : World → Prop) (eg : ∀ args w, (callFunc g args).run Tryz.prog w = .ok (.enter g args) w) (hT : Tells NodeR g lb p Inv) (hK : ∀ w w', Below w.heap.size w w' → Inv w → Inv w')
    (v : Value) (l : List NV) (w : World) (hv : NodeSl w v l) (hlen : l.length ≤ 1048576) (hI : Inv w) :
    Calls Tryz.prog 125 #[v, .func (.func g) #[] lb] w fun e w' => e = .returned (.bool (l.any p)) ∧ Below w.heap.size w w' := by
  have hi := indexNode_by g lb p Inv eg hT hK v l w hv hlen hI
  have hE := pIdx_any p l
  obtain ⟨A, c, rfl, _⟩ := hv.form
  generalize pIdx p l = i at hi hE
  generalize l.any p = b at hE ⊢
  have HI := Lib.hid hi
  have HE := Lib.hid hE
  clear hi hE hv hT hK hI eg
  go_enter Tryz.func125, Tryz.ntmps125
  go_wp2_with fail
  refine HI.out.mono ?_
  rintro e w2 ⟨rfl, hb2⟩
  go_wp2_with fail
  go_ret
  exact ⟨by rw [← HE.out]; simp, hb2⟩
set_option maxHeartbeats 1600000 in
theorem containsPool_by (g : Nat) (lb : Array Value) (p : PV → Bool) (Inv : World → Prop) (eg : ∀ args w, (callFunc g args).run Tryz.prog w = .ok (.enter g args) w) (hT : Tells PoolR g lb p Inv) (hK : ∀ w w', Below w.heap.size w w' → Inv w → Inv w')
    (v : Value) (l : List PV) (w : World) (hv : PoolSl w v l) (hlen : l.length ≤ 1048576) (hI : Inv w) :
    Calls Tryz.prog 126 #[v, .func (.func g) #[] lb] w fun e w' => e = .returned (.bool (l.any p)) ∧ Below w.heap.size w w' := by
  have hi := indexPool_by g lb p Inv eg hT hK v l w hv hlen hI
  have hE := pIdx_any p l
  obtain ⟨A, c, rfl, _⟩ := hv.form
  generalize pIdx p l = i at hi hE
  generalize l.any p = b at hE ⊢
  have HI := Lib.hid hi
  have HE := Lib.hid hE
  clear hi hE hv hT hK hI eg
  go_enter Tryz.func126, Tryz.ntmps126
  go_wp2_with fail
  refine HI.out.mono ?_
  rintro e w2 ⟨rfl, hb2⟩
  go_wp2_with fail
  go_ret
  exact ⟨by rw [← HE.out]; simp, hb2⟩
end Go.Proofs.YtmkpajjnjgnmkaaGreatDoor

namespace Go.Proofs.YtmkpajjnjgnmkaaGreatDoor
open Go.RowKit

structure KeepB (g : Nat) (w w' : World) : Prop where
  os : w'.os = w.os
  tape : w'.tape = w.tape
  output : w'.output = w.output
  size : w.heap.size ≤ w'.heap.size
  block : ∀ k, k < w.heap.size → k ≠ g → w'.heap[k]? = w.heap[k]?
section
variable {g : Nat} {w w' w'' : World}
theorem KeepB.refl (g : Nat) (w : World) : KeepB g w w := ⟨rfl, rfl, rfl, Nat.le_refl _, fun _ _ _ => rfl⟩
theorem KeepB.trans (h : KeepB g w w') (k : KeepB g w' w'') : KeepB g w w'' :=
  ⟨k.os.trans h.os, k.tape.trans h.tape, k.output.trans h.output, Nat.le_trans h.size k.size, fun b hb hne => (k.block b (Nat.lt_of_lt_of_le hb h.size) hne).trans (h.block b hb hne)⟩
theorem KeepB.step (h : KeepB g w w') (hb : Below w'.heap.size w' w'') : KeepB g w w'' := h.trans ⟨hb.os, hb.tape, hb.output, hb.size, fun k hk _ => hb.block k hk⟩
theorem KeepB.put (h : KeepB g w w') (o : Nat) (u : Value) : KeepB g w (w'.setCell ⟨g, o, none⟩ u) := h.trans ⟨rfl, rfl, rfl, by simp [World.setCell], fun k _ hne => Below.heap_setCell _ _ _ k hne⟩
theorem KeepB.grown (h : KeepB g w w') {row : Option Nat} (hg : w'.grownBy w'' row) (hr : ∀ k, row = some k → w.heap.size ≤ k) : KeepB g w w'' :=
  ⟨hg.os.trans h.os, hg.tape.trans h.tape, hg.output.trans h.output, Nat.le_trans h.size hg.size, fun k hk hne => (hg.block k (Nat.lt_of_lt_of_le hk h.size) (fun e => by have := hr k e.symm; omega)).trans (h.block k hk hne)⟩
theorem KeepB.below {B : Nat} (h : KeepB g w w') (hB : B ≤ w.heap.size) (hg : B ≤ g) : Below B w w' := ⟨h.os, h.tape, h.output, h.size, fun k hk => h.block k (by omega) (by omega)⟩
end

section
variable {P : Program} {ops : Array Oper} {o : Oper} {a : Act} {Q : Exit → Act → World → Prop}
end
def CluO (w : World) (c : CV) (a0 a1 a2 : Value) (bs : List Nat) : Prop := ∃ b0 b1 b2, RowO TaskO 88 7 w a0 c.tasks b0 ∧ RowO NodeO 83 8 w a1 c.nodes b1 ∧ RowO BindO 100 2 w a2 c.binds b2 ∧ bs = b0 ++ (b1 ++ b2) ∧ bs.Nodup ∧ c.tasks.length ≤ 1048576 ∧ c.nodes.length ≤ 1048576 ∧ c.binds.length ≤ 1048576
theorem CluO.agree {w w' : World} {c : CV} {a0 a1 a2 : Value} {bs : List Nat} (h : CluO w c a0 a1 a2 bs) (ha : Agree bs w w') : CluO w' c a0 a1 a2 bs := by
  obtain ⟨b0, b1, b2, h0, h1, h2, rfl, h3⟩ := h
  exact ⟨b0, b1, b2, h0.agree TaskO.framed ha.left, h1.agree NodeO.framed ha.right.left, h2.agree BindO.framed ha.right.right, rfl, h3⟩
theorem CluO.clu {w : World} {c : CV} {a0 a1 a2 : Value} {bs : List Nat} (h : CluO w c a0 a1 a2 bs) : CluR w c a0 a1 a2 := by
  obtain ⟨b0, b1, b2, h0, h1, h2, _, _, l⟩ := h
  exact ⟨h0.sl (fun _ _ _ h => h.len) (fun _ _ _ h => h.r), h1.sl (fun _ _ _ h => h.len) (fun _ _ _ h => h.r), h2.sl (fun _ _ _ h => h.len) (fun _ _ _ h => h.r), l⟩
end Go.Proofs.YtmkpajjnjgnmkaaGreatDoor

namespace Go.Proofs.YtmkpajjnjgnmkaaGreatDoor

def szTask (t : TV) : Int := 5 + 2 * t.want.length + t.tols.length
def szNode (n : NV) : Int := 6 + 2 * n.labs.length + n.taints.length
end Go.Proofs.YtmkpajjnjgnmkaaGreatDoor

namespace Go.Proofs.YtmkpajjnjgnmkaaGreatDoor
open Go.RowKit

def NewIntO (w : World) (l : List Int) (e : Ending) (w' : World) : Prop := ∃ g, e = .returned (.slice (some ⟨g, 0, none⟩) l.length l.length) ∧ w.heap.size ≤ g ∧ g < w'.heap.size ∧ BlockIs w' g 3 (intL l).toArray ∧ Below w.heap.size w w'
theorem CopyInt.doneO {w wr : World} {g : Nat} {l : List Int} (h : CopyInt w g l l.length wr) : BlockIs wr g 3 (intL l).toArray := by
  obtain ⟨cs, hb, hs, hc, _⟩ := h
  have : cs = (intL l).toArray := by
    apply Array.ext_getElem?
    intro i
    rcases Nat.lt_or_ge i l.length with hi | hi
    · rw [hc i _ hi (List.getElem?_eq_getElem hi)]; simp [intL, hi]
    · rw [Array.getElem?_eq_none (by omega)]; simp [intL, hi]
  rw [← this]; exact hb
set_option maxHeartbeats 1600000 in
theorem toIntS_o (v : Value) (l : List Int) (w : World) (hv : IntSl w v l) (hlen : l.length ≤ 1048576) :
    Calls Tryz.prog 173 #[v] w (NewIntO w l) := by
  obtain ⟨A, c, rfl, hA⟩ := hv.form
  have HA := Lib.hid hA
  clear hA hv
  have hmk := make_int l.length hlen
  go_enter Tryz.func173, Tryz.ntmps173
  go_wp2_with fail
  go_loopw [4] (fun s4 wr => ∃ k : Nat, k ≤ l.length ∧ s4 = .int .i64 k ∧ CopyInt w w.heap.size l k wr) (fun s4 _ => (l.length - intOf s4).toNat)
  case atStart =>
    exact ⟨0, by omega, rfl, _, BlockIs.new _ _ _, by simpa using size_madeCells _ _, fun i r hi => absurd hi (by omega), (by repeat' (first | exact Below.refl _ _ | refine Below.alloc ?_ ?_ _ | refine Below.setCell ?_ ?_ _ | refine Below.drew ?_ | (apply below_step; assumption) | (simp; done) | (simp; omega) | omega))⟩
  case round =>
    obtain ⟨k, hk, rfl, HC⟩ := hrel
    by_cases hlt : k < l.length
    · obtain ⟨b, off, rfl, hbw, hat⟩ := HA.out (by omega)
      obtain ⟨r, hr⟩ : ∃ r, l[k]? = some r := ⟨_, List.getElem?_eq_getElem hlt⟩
      obtain ⟨cs, hblk, hs, hc, hB⟩ := HC
      have q0 := (hat.below hB hbw) k r hr
      have hzr := hB.size
      have hgl := hblk.lt
      have HR := Lib.hid hr
      have HCC := Lib.hid hc
      have HBL := Lib.hid hblk
      have HSZ := Lib.hid hs
      have u0 : wr.cell? ⟨w.heap.size, k, none⟩ = some (cs[k]'(by omega)) := by rw [hblk.cell]; exact Array.getElem?_eq_getElem (by omega)
      generalize cs[k]'(by omega) = x0 at u0
      have uf := hblk.frozen
      clear hat hr hc hblk hs
      go_wp2_with fail
      go_roundw
      case rel =>
        refine ⟨k + 1, by omega, by go_num, CopyInt.put HSZ.out HR.out HCC.out ?_ (by repeat' (first | exact Below.refl _ _ | refine Below.alloc ?_ ?_ _ | refine Below.setCell ?_ ?_ _ | refine Below.drew ?_ | (apply below_step; assumption) | (simp; done) | (simp; omega) | omega))⟩
        exact HBL.out.put _ _
      case measure => simp [intOf]; omega
    · have hkl : k = l.length := by omega
      subst hkl
      have HD := Lib.hid HC.doneO
      obtain ⟨cs, hblk, hs, hc, hB⟩ := HC
      have hgl := hblk.lt
      clear hblk hs hc
      go_wp2_with fail
      go_ret
      exact ⟨w.heap.size, rfl, Nat.le_refl _, hgl, HD.out, hB⟩

def NewNodeO (w : World) (t : NV) (e : Ending) (w' : World) : Prop := ∃ g1 g2, e = .returned (.agg #[.int .i64 t.id, .int .i64 t.pool, .int .i64 t.cap.c, .int .i64 t.cap.m, .int .i64 t.cap.p, .slice (some ⟨g1, 0, none⟩) t.labs.length t.labs.length, .slice (some ⟨g2, 0, none⟩) t.taints.length t.taints.length, .bool t.cordon]) ∧
  w.heap.size ≤ g1 ∧ w.heap.size ≤ g2 ∧ g2 < w'.heap.size ∧ BlockIs w' g1 119 (labL t.labs).toArray ∧ BlockIs w' g2 3 (intL t.taints).toArray ∧ Below w.heap.size w w'
set_option maxHeartbeats 1600000 in
theorem toNode_o (t : NV) (v1 v2 : Value) (w : World) (h1 : LabSl w v1 t.labs) (h2 : IntSl w v2 t.taints) (l1 : t.labs.length ≤ 1048576) (l2 : t.taints.length ≤ 1048576) :
    Calls Tryz.prog 117 #[.agg #[.int .i64 t.id, .int .i64 t.pool, .int .i64 t.cap.c, .int .i64 t.cap.m, .int .i64 t.cap.p, v1, v2, .bool t.cordon]] w (NewNodeO w t) := by
  have H1 := Lib.hid h1
  have H2 := Lib.hid h2
  have L1 := Lib.hid l1
  have L2 := Lib.hid l2
  clear h1 h2 l1 l2
  go_enter Tryz.func117, Tryz.ntmps117
  go_wp2_with fail
  refine (toRes_any t.cap _).mono ?_
  rintro e w1 ⟨rfl, hb1⟩
  have hz1 := hb1.size
  simp at hz1
  have B0 : BlockIs w1 w.heap.size 74 #[.int .i64 t.id, .int .i64 t.pool, .int .i64 t.cap.c, .int .i64 t.cap.m, .int .i64 t.cap.p, v1, v2, .bool t.cordon] := (((BlockIs.new w _ _).alloc _).alloc _).below hb1 (by simp; omega)
  have B1 : BlockIs w1 (w.heap.size + 1) 83 #[.int .i64 0, .int .i64 0, .int .i64 0, .int .i64 0, .int .i64 0, .slice none 0 0, .slice none 0 0, .bool false] := (BlockIs.alloc (BlockIs.new' (by simp)) _).below hb1 (by simp)
  have B2 : BlockIs w1 (w.heap.size + 1 + 1) 83 #[.int .i64 t.id, .int .i64 t.pool, .int .i64 0, .int .i64 0, .int .i64 0, .slice none 0 0, .slice none 0 0, .bool false] := (BlockIs.new' (by simp)).below hb1 (by simp)
  have hC1 : Below w.heap.size w w1 := (by repeat' (first | exact Below.refl _ _ | refine Below.alloc ?_ ?_ _ | refine Below.setCell ?_ ?_ _ | refine Below.drew ?_ | (apply below_step; assumption) | (simp; done) | (simp; omega) | omega))
  have c5 := B0.cell 5
  have c2 := B2.cell 2
  have c3 := B2.cell 3
  have c4 := B2.cell 4
  have f2 := B2.frozen
  simp at c5 c2 c3 c4
  have HB0 := Lib.hid B0
  have HB1 := Lib.hid B1
  have HB2 := Lib.hid B2
  clear B0 B1 B2 hb1
  go_wp2_with fail
  have hC2 : Below w.heap.size w (((w1.setCell ⟨w.heap.size + 1 + 1, 2, none⟩ (.int .i64 t.cap.c)).setCell ⟨w.heap.size + 1 + 1, 2 + 1, none⟩ (.int .i64 t.cap.m)).setCell ⟨w.heap.size + 1 + 1, 2 + 2, none⟩ (.int .i64 t.cap.p)) := (by repeat' (first | exact Below.refl _ _ | refine Below.alloc ?_ ?_ _ | refine Below.setCell ?_ ?_ _ | refine Below.drew ?_ | (apply below_step; assumption) | (simp; done) | (simp; omega) | omega))
  have A0 : BlockIs (((w1.setCell ⟨w.heap.size + 1 + 1, 2, none⟩ (.int .i64 t.cap.c)).setCell ⟨w.heap.size + 1 + 1, 2 + 1, none⟩ (.int .i64 t.cap.m)).setCell ⟨w.heap.size + 1 + 1, 2 + 2, none⟩ (.int .i64 t.cap.p)) w.heap.size 74 #[.int .i64 t.id, .int .i64 t.pool, .int .i64 t.cap.c, .int .i64 t.cap.m, .int .i64 t.cap.p, v1, v2, .bool t.cordon] := ((HB0.out.far (by dsimp only; omega) _).far (by dsimp only; omega) _).far (by dsimp only; omega) _
  have A1 : BlockIs (((w1.setCell ⟨w.heap.size + 1 + 1, 2, none⟩ (.int .i64 t.cap.c)).setCell ⟨w.heap.size + 1 + 1, 2 + 1, none⟩ (.int .i64 t.cap.m)).setCell ⟨w.heap.size + 1 + 1, 2 + 2, none⟩ (.int .i64 t.cap.p)) (w.heap.size + 1) 83 #[.int .i64 0, .int .i64 0, .int .i64 0, .int .i64 0, .int .i64 0, .slice none 0 0, .slice none 0 0, .bool false] := ((HB1.out.far (by dsimp only; omega) _).far (by dsimp only; omega) _).far (by dsimp only; omega) _
  have A2 : BlockIs (((w1.setCell ⟨w.heap.size + 1 + 1, 2, none⟩ (.int .i64 t.cap.c)).setCell ⟨w.heap.size + 1 + 1, 2 + 1, none⟩ (.int .i64 t.cap.m)).setCell ⟨w.heap.size + 1 + 1, 2 + 2, none⟩ (.int .i64 t.cap.p)) (w.heap.size + 1 + 1) 83 #[.int .i64 t.id, .int .i64 t.pool, .int .i64 t.cap.c, .int .i64 t.cap.m, .int .i64 t.cap.p, .slice none 0 0, .slice none 0 0, .bool false] := by simpa using ((HB2.out.put 2 _).put 3 _).put 4 _
  generalize (((w1.setCell ⟨w.heap.size + 1 + 1, 2, none⟩ (.int .i64 t.cap.c)).setCell ⟨w.heap.size + 1 + 1, 2 + 1, none⟩ (.int .i64 t.cap.m)).setCell ⟨w.heap.size + 1 + 1, 2 + 2, none⟩ (.int .i64 t.cap.p)) = X2 at hC2 A0 A1 A2 ⊢
  clear HB0 HB1 HB2 hC1 hz1 c5 c2 c3 c4 f2
  refine (toLabS_any v1 t.labs _ (H1.out.below hC2) L1.out).mono ?_
  rintro e w3 ⟨g1, rfl, hg1, hblk1, hb3⟩
  have l2 := A2.lt
  have hz3 := hb3.size
  have hC3 : Below w.heap.size w w3 := hC2.trans (hb3.mono hC2.size)
  have B0 := A0.below hb3 A0.lt
  have B1 := A1.below hb3 A1.lt
  have B2 := A2.below hb3 A2.lt
  have c6 := B0.cell 6
  have c5 := B2.cell 5
  have f2 := B2.frozen
  simp at c6 c5
  have HB1 := Lib.hid B1
  have HB2 := Lib.hid B2
  have HG1 := Lib.hid hblk1
  have HB0 := Lib.hid B0
  clear A0 A1 A2 B0 B1 B2 hblk1
  go_wp2_with fail
  have hC4 : Below w.heap.size w (w3.setCell ⟨w.heap.size + 1 + 1, 5, none⟩ (.slice (some ⟨g1, 0, none⟩) t.labs.length t.labs.length)) := (by repeat' (first | exact Below.refl _ _ | refine Below.alloc ?_ ?_ _ | refine Below.setCell ?_ ?_ _ | refine Below.drew ?_ | (apply below_step; assumption) | (simp; done) | (simp; omega) | omega))
  have A1 : BlockIs (w3.setCell ⟨w.heap.size + 1 + 1, 5, none⟩ (.slice (some ⟨g1, 0, none⟩) t.labs.length t.labs.length)) (w.heap.size + 1) 83 #[.int .i64 0, .int .i64 0, .int .i64 0, .int .i64 0, .int .i64 0, .slice none 0 0, .slice none 0 0, .bool false] := HB1.out.far (by dsimp only; omega) _
  have A2 : BlockIs (w3.setCell ⟨w.heap.size + 1 + 1, 5, none⟩ (.slice (some ⟨g1, 0, none⟩) t.labs.length t.labs.length)) (w.heap.size + 1 + 1) 83 #[.int .i64 t.id, .int .i64 t.pool, .int .i64 t.cap.c, .int .i64 t.cap.m, .int .i64 t.cap.p, .slice (some ⟨g1, 0, none⟩) t.labs.length t.labs.length, .slice none 0 0, .bool false] := by simpa using HB2.out.put 5 _
  have A0 : BlockIs (w3.setCell ⟨w.heap.size + 1 + 1, 5, none⟩ (.slice (some ⟨g1, 0, none⟩) t.labs.length t.labs.length)) w.heap.size 74 #[.int .i64 t.id, .int .i64 t.pool, .int .i64 t.cap.c, .int .i64 t.cap.m, .int .i64 t.cap.p, v1, v2, .bool t.cordon] := HB0.out.far (by dsimp only; omega) _
  have AG : BlockIs (w3.setCell ⟨w.heap.size + 1 + 1, 5, none⟩ (.slice (some ⟨g1, 0, none⟩) t.labs.length t.labs.length)) g1 119 (labL t.labs).toArray := HG1.out.far (by dsimp only; omega) _
  generalize (w3.setCell ⟨w.heap.size + 1 + 1, 5, none⟩ (.slice (some ⟨g1, 0, none⟩) t.labs.length t.labs.length)) = X4 at hC4 A0 A1 A2 AG ⊢
  clear HB0 HB1 HB2 HG1 hC3 hz3 c5 c6 f2 hb3
  refine (toIntS_o v2 t.taints _ (H2.out.below hC4) L2.out).mono ?_
  rintro e w5 ⟨g2, rfl, hg2, hlt2, hat2, hb5⟩
  have l4 := A2.lt
  have hz5 := hb5.size
  have hC5 : Below w.heap.size w w5 := hC4.trans (hb5.mono hC4.size)
  have B1 := A1.below hb5 A1.lt
  have B2 := A2.below hb5 A2.lt
  have BG := AG.below hb5 AG.lt
  have B0 := A0.below hb5 A0.lt
  have b7 := B0.cell 7
  have f0 := B0.frozen
  have c7 := B2.cell 7
  have d7 := B1.cell 7
  have c0 := B2.cell 0
  have c1 := B2.cell 1
  have c2 := B2.cell 2
  have c3 := B2.cell 3
  have c4 := B2.cell 4
  have c5 := B2.cell 5
  have c6 := B2.cell 6
  have f2 := B2.frozen
  have d0 := B1.cell 0
  have d1 := B1.cell 1
  have d2 := B1.cell 2
  have d3 := B1.cell 3
  have d4 := B1.cell 4
  have d5 := B1.cell 5
  have d6 := B1.cell 6
  have f1 := B1.frozen
  simp at b7 c7 d7 c0 c1 c2 c3 c4 c5 c6 d0 d1 d2 d3 d4 d5 d6
  have HB1 := Lib.hid B1
  have HB2 := Lib.hid B2
  have HG1 := Lib.hid BG
  have HG2 := Lib.hid hat2
  clear A0 A1 A2 AG B0 B1 B2 BG hat2
  go_wp2_with fail
  have hZ : BlockIs ((((((((((w5.setCell ⟨w.heap.size + 1 + 1, 6, none⟩ (.slice (some ⟨g2, 0, none⟩) t.taints.length t.taints.length)).setCell ⟨w.heap.size + 1 + 1, 7, none⟩ (.bool t.cordon)).setCell ⟨w.heap.size + 1, 0, none⟩ (.int .i64 t.id)).setCell ⟨w.heap.size + 1, 1, none⟩ (.int .i64 t.pool)).setCell ⟨w.heap.size + 1, 2, none⟩ (.int .i64 t.cap.c)).setCell ⟨w.heap.size + 1, 3, none⟩ (.int .i64 t.cap.m)).setCell ⟨w.heap.size + 1, 4, none⟩ (.int .i64 t.cap.p)).setCell ⟨w.heap.size + 1, 5, none⟩ (.slice (some ⟨g1, 0, none⟩) t.labs.length t.labs.length)).setCell ⟨w.heap.size + 1, 6, none⟩ (.slice (some ⟨g2, 0, none⟩) t.taints.length t.taints.length)).setCell ⟨w.heap.size + 1, 7, none⟩ (.bool t.cordon)) (w.heap.size + 1) 83 #[.int .i64 t.id, .int .i64 t.pool, .int .i64 t.cap.c, .int .i64 t.cap.m, .int .i64 t.cap.p, .slice (some ⟨g1, 0, none⟩) t.labs.length t.labs.length, .slice (some ⟨g2, 0, none⟩) t.taints.length t.taints.length, .bool t.cordon] := put8 _ _ _ _ _ _ _ _ ((HB1.out.far (by dsimp only; omega) _).far (by dsimp only; omega) _) rfl
  have hG : BlockIs ((((((((((w5.setCell ⟨w.heap.size + 1 + 1, 6, none⟩ (.slice (some ⟨g2, 0, none⟩) t.taints.length t.taints.length)).setCell ⟨w.heap.size + 1 + 1, 7, none⟩ (.bool t.cordon)).setCell ⟨w.heap.size + 1, 0, none⟩ (.int .i64 t.id)).setCell ⟨w.heap.size + 1, 1, none⟩ (.int .i64 t.pool)).setCell ⟨w.heap.size + 1, 2, none⟩ (.int .i64 t.cap.c)).setCell ⟨w.heap.size + 1, 3, none⟩ (.int .i64 t.cap.m)).setCell ⟨w.heap.size + 1, 4, none⟩ (.int .i64 t.cap.p)).setCell ⟨w.heap.size + 1, 5, none⟩ (.slice (some ⟨g1, 0, none⟩) t.labs.length t.labs.length)).setCell ⟨w.heap.size + 1, 6, none⟩ (.slice (some ⟨g2, 0, none⟩) t.taints.length t.taints.length)).setCell ⟨w.heap.size + 1, 7, none⟩ (.bool t.cordon)) g1 119 (labL t.labs).toArray := far8 ((HG1.out.far (by dsimp only; omega) _).far (by dsimp only; omega) _) (by omega)
  have hI : BlockIs ((((((((((w5.setCell ⟨w.heap.size + 1 + 1, 6, none⟩ (.slice (some ⟨g2, 0, none⟩) t.taints.length t.taints.length)).setCell ⟨w.heap.size + 1 + 1, 7, none⟩ (.bool t.cordon)).setCell ⟨w.heap.size + 1, 0, none⟩ (.int .i64 t.id)).setCell ⟨w.heap.size + 1, 1, none⟩ (.int .i64 t.pool)).setCell ⟨w.heap.size + 1, 2, none⟩ (.int .i64 t.cap.c)).setCell ⟨w.heap.size + 1, 3, none⟩ (.int .i64 t.cap.m)).setCell ⟨w.heap.size + 1, 4, none⟩ (.int .i64 t.cap.p)).setCell ⟨w.heap.size + 1, 5, none⟩ (.slice (some ⟨g1, 0, none⟩) t.labs.length t.labs.length)).setCell ⟨w.heap.size + 1, 6, none⟩ (.slice (some ⟨g2, 0, none⟩) t.taints.length t.taints.length)).setCell ⟨w.heap.size + 1, 7, none⟩ (.bool t.cordon)) g2 3 (intL t.taints).toArray := far8 ((HG2.out.far (by dsimp only; omega) _).far (by dsimp only; omega) _) (by omega)
  have hB : Below w.heap.size w ((((((((((w5.setCell ⟨w.heap.size + 1 + 1, 6, none⟩ (.slice (some ⟨g2, 0, none⟩) t.taints.length t.taints.length)).setCell ⟨w.heap.size + 1 + 1, 7, none⟩ (.bool t.cordon)).setCell ⟨w.heap.size + 1, 0, none⟩ (.int .i64 t.id)).setCell ⟨w.heap.size + 1, 1, none⟩ (.int .i64 t.pool)).setCell ⟨w.heap.size + 1, 2, none⟩ (.int .i64 t.cap.c)).setCell ⟨w.heap.size + 1, 3, none⟩ (.int .i64 t.cap.m)).setCell ⟨w.heap.size + 1, 4, none⟩ (.int .i64 t.cap.p)).setCell ⟨w.heap.size + 1, 5, none⟩ (.slice (some ⟨g1, 0, none⟩) t.labs.length t.labs.length)).setCell ⟨w.heap.size + 1, 6, none⟩ (.slice (some ⟨g2, 0, none⟩) t.taints.length t.taints.length)).setCell ⟨w.heap.size + 1, 7, none⟩ (.bool t.cordon)) := below8 ((hC5.setCell (by dsimp only; omega) _).setCell (by dsimp only; omega) _) (by omega)
  have hs : ((((((((((w5.setCell ⟨w.heap.size + 1 + 1, 6, none⟩ (.slice (some ⟨g2, 0, none⟩) t.taints.length t.taints.length)).setCell ⟨w.heap.size + 1 + 1, 7, none⟩ (.bool t.cordon)).setCell ⟨w.heap.size + 1, 0, none⟩ (.int .i64 t.id)).setCell ⟨w.heap.size + 1, 1, none⟩ (.int .i64 t.pool)).setCell ⟨w.heap.size + 1, 2, none⟩ (.int .i64 t.cap.c)).setCell ⟨w.heap.size + 1, 3, none⟩ (.int .i64 t.cap.m)).setCell ⟨w.heap.size + 1, 4, none⟩ (.int .i64 t.cap.p)).setCell ⟨w.heap.size + 1, 5, none⟩ (.slice (some ⟨g1, 0, none⟩) t.labs.length t.labs.length)).setCell ⟨w.heap.size + 1, 6, none⟩ (.slice (some ⟨g2, 0, none⟩) t.taints.length t.taints.length)).setCell ⟨w.heap.size + 1, 7, none⟩ (.bool t.cordon)).heap.size = w5.heap.size := by simp [World.setCell]
  generalize ((((((((((w5.setCell ⟨w.heap.size + 1 + 1, 6, none⟩ (.slice (some ⟨g2, 0, none⟩) t.taints.length t.taints.length)).setCell ⟨w.heap.size + 1 + 1, 7, none⟩ (.bool t.cordon)).setCell ⟨w.heap.size + 1, 0, none⟩ (.int .i64 t.id)).setCell ⟨w.heap.size + 1, 1, none⟩ (.int .i64 t.pool)).setCell ⟨w.heap.size + 1, 2, none⟩ (.int .i64 t.cap.c)).setCell ⟨w.heap.size + 1, 3, none⟩ (.int .i64 t.cap.m)).setCell ⟨w.heap.size + 1, 4, none⟩ (.int .i64 t.cap.p)).setCell ⟨w.heap.size + 1, 5, none⟩ (.slice (some ⟨g1, 0, none⟩) t.labs.length t.labs.length)).setCell ⟨w.heap.size + 1, 6, none⟩ (.slice (some ⟨g2, 0, none⟩) t.taints.length t.taints.length)).setCell ⟨w.heap.size + 1, 7, none⟩ (.bool t.cordon)) = X at hZ hG hI hB hs ⊢
  have z0 := hZ.cell 0
  have z1 := hZ.cell 1
  have z2 := hZ.cell 2
  have z3 := hZ.cell 3
  have z4 := hZ.cell 4
  have z5 := hZ.cell 5
  have z6 := hZ.cell 6
  have z7 := hZ.cell 7
  simp at z7 z0 z1 z2 z3 z4 z5 z6
  exact bodyPost_ret (v := .agg #[.int .i64 t.id, .int .i64 t.pool, .int .i64 t.cap.c, .int .i64 t.cap.m, .int .i64 t.cap.p, .slice (some ⟨g1, 0, none⟩) t.labs.length t.labs.length, .slice (some ⟨g2, 0, none⟩) t.taints.length t.taints.length, .bool t.cordon]) (by simp [results, Tryz.results117, go_sem, z0, z1, z2, z3, z4, z5, z6, z7]) rfl ⟨g1, g2, rfl, by omega, by omega, by omega, hG, hI, hB⟩


end Go.Proofs.YtmkpajjnjgnmkaaGreatDoor

namespace Go.Proofs.YtmkpajjnjgnmkaaGreatDoor
open Go.RowKit

set_option maxHeartbeats 800000 in
theorem szPool_any (c0 c1 c2 c3 c4 c5 c6 c7 c8 c11 : Value) (A1 A2 : Option Addr) (n1 k1 n2 k2 : Nat) (z : Int) (w : World) (h0 : 0 ≤ z) (hz : z ≤ 1048576) (hm1 : n1 ≤ maxLen) (hm2 : n2 ≤ maxLen) :
    Calls Tryz.prog 56 #[.agg #[c0, c1, c2, c3, c4, c5, c6, c7, c8, .slice A1 n1 k1, .slice A2 n2 k2, c11], .int .i64 z] w fun e w' => e = .returned (.int .i64 (szTV z n1 n2)) ∧ Below w.heap.size w w' := by
  have hs := fun w => szNode_any c4 c5 c6 c7 c8 c11 A1 A2 n1 k1 n2 k2 z w h0 hz hm1 hm2
  generalize hy : szTV z n1 n2 = y at hs
  have HY := Lib.hid (szTV_ok hy)
  have HS := Lib.hid hs
  clear hs hy hm1 hm2
  go_enter Tryz.func56, Tryz.ntmps56
  go_wp2_with fail
  refine (HS.out _).mono ?_
  rintro e w1 ⟨rfl, hb1⟩
  have hz1 := hb1.size
  simp at hz1
  rcases HY.out with rfl | hy
  · go_wp2_with fail
    go_ret
    exact ⟨rfl, (by repeat' (first | exact Below.refl _ _ | refine Below.alloc ?_ ?_ _ | refine Below.setCell ?_ ?_ _ | refine Below.drew ?_ | (apply below_step; assumption) | (simp; done) | (simp; omega) | omega))⟩
  · obtain ⟨a1, -, -, -⟩ := hy h0
    have a1' : decide (y < 0) = false := by simp; omega
    go_wp2_with fail
    go_ret
    exact ⟨rfl, (by repeat' (first | exact Below.refl _ _ | refine Below.alloc ?_ ?_ _ | refine Below.setCell ?_ ?_ _ | refine Below.drew ?_ | (apply below_step; assumption) | (simp; done) | (simp; omega) | omega))⟩

def NewPoolO (w : World) (p : PV) (e : Ending) (w' : World) : Prop := ∃ g1 g2, e = .returned (.agg #[.int .i64 p.id, .int .i64 p.min, .int .i64 p.max, .int .i64 p.prio, .int .i64 p.shape.id, .int .i64 p.shape.pool, .int .i64 p.shape.cap.c, .int .i64 p.shape.cap.m, .int .i64 p.shape.cap.p, .slice (some ⟨g1, 0, none⟩) p.shape.labs.length p.shape.labs.length, .slice (some ⟨g2, 0, none⟩) p.shape.taints.length p.shape.taints.length, .bool p.shape.cordon]) ∧
  w.heap.size ≤ g1 ∧ w.heap.size ≤ g2 ∧ g2 < w'.heap.size ∧ BlockIs w' g1 119 (labL p.shape.labs).toArray ∧ BlockIs w' g2 3 (intL p.shape.taints).toArray ∧ Below w.heap.size w w'
set_option maxHeartbeats 1600000 in
theorem toPool_o (p : PV) (v1 v2 : Value) (w : World) (h1 : LabSl w v1 p.shape.labs) (h2 : IntSl w v2 p.shape.taints) (l1 : p.shape.labs.length ≤ 1048576) (l2 : p.shape.taints.length ≤ 1048576) :
    Calls Tryz.prog 62 #[.agg #[.int .i64 p.id, .int .i64 p.min, .int .i64 p.max, .int .i64 p.prio, .int .i64 p.shape.id, .int .i64 p.shape.pool, .int .i64 p.shape.cap.c, .int .i64 p.shape.cap.m, .int .i64 p.shape.cap.p, v1, v2, .bool p.shape.cordon]] w (NewPoolO w p) := by
  have H1 := Lib.hid h1
  have H2 := Lib.hid h2
  have L1 := Lib.hid l1
  have L2 := Lib.hid l2
  clear h1 h2 l1 l2
  go_enter Tryz.func62, Tryz.ntmps62
  go_wp2_with fail
  have hX : Below w.heap.size w (((w.alloc (.cells #[.int .i64 p.id, .int .i64 p.min, .int .i64 p.max, .int .i64 p.prio, .int .i64 p.shape.id, .int .i64 p.shape.pool, .int .i64 p.shape.cap.c, .int .i64 p.shape.cap.m, .int .i64 p.shape.cap.p, v1, v2, .bool p.shape.cordon] 76)).alloc (.cells #[.int .i64 0, .int .i64 0, .int .i64 0, .int .i64 0, .int .i64 0, .int .i64 0, .int .i64 0, .int .i64 0, .int .i64 0, .slice none 0 0, .slice none 0 0, .bool false] 85)).alloc (.cells #[.int .i64 p.id, .int .i64 p.min, .int .i64 p.max, .int .i64 p.prio, .int .i64 0, .int .i64 0, .int .i64 0, .int .i64 0, .int .i64 0, .slice none 0 0, .slice none 0 0, .bool false] 85)) := (by repeat' (first | exact Below.refl _ _ | refine Below.alloc ?_ ?_ _ | refine Below.setCell ?_ ?_ _ | refine Below.drew ?_ | (apply below_step; assumption) | (simp; done) | (simp; omega) | omega))
  refine (toNode_o p.shape v1 v2 _ (H1.out.below hX) (H2.out.below hX) L1.out L2.out).mono ?_
  rintro e w1 ⟨g1, g2, rfl, k1, k2, k3, bl, it, hb1⟩
  have hz1 := hb1.size
  simp at hz1 k1 k2
  have B1 : BlockIs w1 (w.heap.size + 1) 85 #[.int .i64 0, .int .i64 0, .int .i64 0, .int .i64 0, .int .i64 0, .int .i64 0, .int .i64 0, .int .i64 0, .int .i64 0, .slice none 0 0, .slice none 0 0, .bool false] := (BlockIs.alloc (BlockIs.new' (by simp)) _).below hb1 (by simp)
  have B2 : BlockIs w1 (w.heap.size + 1 + 1) 85 #[.int .i64 p.id, .int .i64 p.min, .int .i64 p.max, .int .i64 p.prio, .int .i64 0, .int .i64 0, .int .i64 0, .int .i64 0, .int .i64 0, .slice none 0 0, .slice none 0 0, .bool false] := (BlockIs.new' (by simp)).below hb1 (by simp)
  have hC1 := below_of hX hb1
  have c0 := B2.cell 0
  have c1 := B2.cell 1
  have c2 := B2.cell 2
  have c3 := B2.cell 3
  have c4 := B2.cell 4
  have c5 := B2.cell 5
  have c6 := B2.cell 6
  have c7 := B2.cell 7
  have c8 := B2.cell 8
  have c9 := B2.cell 9
  have c10 := B2.cell 10
  have c11 := B2.cell 11
  have d0 := B1.cell 0
  have d1 := B1.cell 1
  have d2 := B1.cell 2
  have d3 := B1.cell 3
  have d4 := B1.cell 4
  have d5 := B1.cell 5
  have d6 := B1.cell 6
  have d7 := B1.cell 7
  have d8 := B1.cell 8
  have d9 := B1.cell 9
  have d10 := B1.cell 10
  have d11 := B1.cell 11
  have f1 := B1.frozen
  have f2 := B2.frozen
  simp at c0 c1 c2 c3 c4 c5 c6 c7 c8 c9 c10 c11 d0 d1 d2 d3 d4 d5 d6 d7 d8 d9 d10 d11
  have HB1 := Lib.hid B1
  have HG1 := Lib.hid bl
  have HG2 := Lib.hid it
  clear B1 B2 bl it hb1 hX
  go_wp2_with fail
  have hZ : BlockIs ((((((((((((((((((((w1.setCell ⟨w.heap.size + 1 + 1, 4, none⟩ (.int .i64 p.shape.id)).setCell ⟨w.heap.size + 1 + 1, 4 + 1, none⟩ (.int .i64 p.shape.pool)).setCell ⟨w.heap.size + 1 + 1, 4 + 2, none⟩ (.int .i64 p.shape.cap.c)).setCell ⟨w.heap.size + 1 + 1, 4 + 3, none⟩ (.int .i64 p.shape.cap.m)).setCell ⟨w.heap.size + 1 + 1, 4 + 4, none⟩ (.int .i64 p.shape.cap.p)).setCell ⟨w.heap.size + 1 + 1, 4 + 5, none⟩ (.slice (some ⟨g1, 0, none⟩) p.shape.labs.length p.shape.labs.length)).setCell ⟨w.heap.size + 1 + 1, 4 + 6, none⟩ (.slice (some ⟨g2, 0, none⟩) p.shape.taints.length p.shape.taints.length)).setCell ⟨w.heap.size + 1 + 1, 4 + 7, none⟩ (.bool p.shape.cordon)).setCell ⟨w.heap.size + 1, 0, none⟩ (.int .i64 p.id)).setCell ⟨w.heap.size + 1, 1, none⟩ (.int .i64 p.min)).setCell ⟨w.heap.size + 1, 2, none⟩ (.int .i64 p.max)).setCell ⟨w.heap.size + 1, 3, none⟩ (.int .i64 p.prio)).setCell ⟨w.heap.size + 1, 4, none⟩ (.int .i64 p.shape.id)).setCell ⟨w.heap.size + 1, 5, none⟩ (.int .i64 p.shape.pool)).setCell ⟨w.heap.size + 1, 6, none⟩ (.int .i64 p.shape.cap.c)).setCell ⟨w.heap.size + 1, 7, none⟩ (.int .i64 p.shape.cap.m)).setCell ⟨w.heap.size + 1, 8, none⟩ (.int .i64 p.shape.cap.p)).setCell ⟨w.heap.size + 1, 9, none⟩ (.slice (some ⟨g1, 0, none⟩) p.shape.labs.length p.shape.labs.length)).setCell ⟨w.heap.size + 1, 10, none⟩ (.slice (some ⟨g2, 0, none⟩) p.shape.taints.length p.shape.taints.length)).setCell ⟨w.heap.size + 1, 11, none⟩ (.bool p.shape.cordon)) (w.heap.size + 1) 85 #[.int .i64 p.id, .int .i64 p.min, .int .i64 p.max, .int .i64 p.prio, .int .i64 p.shape.id, .int .i64 p.shape.pool, .int .i64 p.shape.cap.c, .int .i64 p.shape.cap.m, .int .i64 p.shape.cap.p, .slice (some ⟨g1, 0, none⟩) p.shape.labs.length p.shape.labs.length, .slice (some ⟨g2, 0, none⟩) p.shape.taints.length p.shape.taints.length, .bool p.shape.cordon] := by
    have := (BlockIs.putFar (g := w.heap.size + 1 + 1) (o := 4) (ds := [.int .i64 p.shape.id, .int .i64 p.shape.pool, .int .i64 p.shape.cap.c, .int .i64 p.shape.cap.m, .int .i64 p.shape.cap.p, .slice (some ⟨g1, 0, none⟩) p.shape.labs.length p.shape.labs.length, .slice (some ⟨g2, 0, none⟩) p.shape.taints.length p.shape.taints.length, .bool p.shape.cordon]) HB1.out (by omega)).putAll (o := 0) (ds := [.int .i64 p.id, .int .i64 p.min, .int .i64 p.max, .int .i64 p.prio, .int .i64 p.shape.id, .int .i64 p.shape.pool, .int .i64 p.shape.cap.c, .int .i64 p.shape.cap.m, .int .i64 p.shape.cap.p, .slice (some ⟨g1, 0, none⟩) p.shape.labs.length p.shape.labs.length, .slice (some ⟨g2, 0, none⟩) p.shape.taints.length p.shape.taints.length, .bool p.shape.cordon])
    have e : setAll #[.int .i64 0, .int .i64 0, .int .i64 0, .int .i64 0, .int .i64 0, .int .i64 0, .int .i64 0, .int .i64 0, .int .i64 0, .slice none 0 0, .slice none 0 0, .bool false] 0 [.int .i64 p.id, .int .i64 p.min, .int .i64 p.max, .int .i64 p.prio, .int .i64 p.shape.id, .int .i64 p.shape.pool, .int .i64 p.shape.cap.c, .int .i64 p.shape.cap.m, .int .i64 p.shape.cap.p, .slice (some ⟨g1, 0, none⟩) p.shape.labs.length p.shape.labs.length, .slice (some ⟨g2, 0, none⟩) p.shape.taints.length p.shape.taints.length, .bool p.shape.cordon] = #[.int .i64 p.id, .int .i64 p.min, .int .i64 p.max, .int .i64 p.prio, .int .i64 p.shape.id, .int .i64 p.shape.pool, .int .i64 p.shape.cap.c, .int .i64 p.shape.cap.m, .int .i64 p.shape.cap.p, .slice (some ⟨g1, 0, none⟩) p.shape.labs.length p.shape.labs.length, .slice (some ⟨g2, 0, none⟩) p.shape.taints.length p.shape.taints.length, .bool p.shape.cordon] := by simp [setAll]
    rw [e] at this
    exact this
  have hG : BlockIs ((((((((((((((((((((w1.setCell ⟨w.heap.size + 1 + 1, 4, none⟩ (.int .i64 p.shape.id)).setCell ⟨w.heap.size + 1 + 1, 4 + 1, none⟩ (.int .i64 p.shape.pool)).setCell ⟨w.heap.size + 1 + 1, 4 + 2, none⟩ (.int .i64 p.shape.cap.c)).setCell ⟨w.heap.size + 1 + 1, 4 + 3, none⟩ (.int .i64 p.shape.cap.m)).setCell ⟨w.heap.size + 1 + 1, 4 + 4, none⟩ (.int .i64 p.shape.cap.p)).setCell ⟨w.heap.size + 1 + 1, 4 + 5, none⟩ (.slice (some ⟨g1, 0, none⟩) p.shape.labs.length p.shape.labs.length)).setCell ⟨w.heap.size + 1 + 1, 4 + 6, none⟩ (.slice (some ⟨g2, 0, none⟩) p.shape.taints.length p.shape.taints.length)).setCell ⟨w.heap.size + 1 + 1, 4 + 7, none⟩ (.bool p.shape.cordon)).setCell ⟨w.heap.size + 1, 0, none⟩ (.int .i64 p.id)).setCell ⟨w.heap.size + 1, 1, none⟩ (.int .i64 p.min)).setCell ⟨w.heap.size + 1, 2, none⟩ (.int .i64 p.max)).setCell ⟨w.heap.size + 1, 3, none⟩ (.int .i64 p.prio)).setCell ⟨w.heap.size + 1, 4, none⟩ (.int .i64 p.shape.id)).setCell ⟨w.heap.size + 1, 5, none⟩ (.int .i64 p.shape.pool)).setCell ⟨w.heap.size + 1, 6, none⟩ (.int .i64 p.shape.cap.c)).setCell ⟨w.heap.size + 1, 7, none⟩ (.int .i64 p.shape.cap.m)).setCell ⟨w.heap.size + 1, 8, none⟩ (.int .i64 p.shape.cap.p)).setCell ⟨w.heap.size + 1, 9, none⟩ (.slice (some ⟨g1, 0, none⟩) p.shape.labs.length p.shape.labs.length)).setCell ⟨w.heap.size + 1, 10, none⟩ (.slice (some ⟨g2, 0, none⟩) p.shape.taints.length p.shape.taints.length)).setCell ⟨w.heap.size + 1, 11, none⟩ (.bool p.shape.cordon)) g1 119 (labL p.shape.labs).toArray := BlockIs.putFar (o := 0) (ds := [.int .i64 p.id, .int .i64 p.min, .int .i64 p.max, .int .i64 p.prio, .int .i64 p.shape.id, .int .i64 p.shape.pool, .int .i64 p.shape.cap.c, .int .i64 p.shape.cap.m, .int .i64 p.shape.cap.p, .slice (some ⟨g1, 0, none⟩) p.shape.labs.length p.shape.labs.length, .slice (some ⟨g2, 0, none⟩) p.shape.taints.length p.shape.taints.length, .bool p.shape.cordon]) (BlockIs.putFar (g := w.heap.size + 1 + 1) (o := 4) (ds := [.int .i64 p.shape.id, .int .i64 p.shape.pool, .int .i64 p.shape.cap.c, .int .i64 p.shape.cap.m, .int .i64 p.shape.cap.p, .slice (some ⟨g1, 0, none⟩) p.shape.labs.length p.shape.labs.length, .slice (some ⟨g2, 0, none⟩) p.shape.taints.length p.shape.taints.length, .bool p.shape.cordon]) HG1.out (by omega)) (by omega)
  have hI : BlockIs ((((((((((((((((((((w1.setCell ⟨w.heap.size + 1 + 1, 4, none⟩ (.int .i64 p.shape.id)).setCell ⟨w.heap.size + 1 + 1, 4 + 1, none⟩ (.int .i64 p.shape.pool)).setCell ⟨w.heap.size + 1 + 1, 4 + 2, none⟩ (.int .i64 p.shape.cap.c)).setCell ⟨w.heap.size + 1 + 1, 4 + 3, none⟩ (.int .i64 p.shape.cap.m)).setCell ⟨w.heap.size + 1 + 1, 4 + 4, none⟩ (.int .i64 p.shape.cap.p)).setCell ⟨w.heap.size + 1 + 1, 4 + 5, none⟩ (.slice (some ⟨g1, 0, none⟩) p.shape.labs.length p.shape.labs.length)).setCell ⟨w.heap.size + 1 + 1, 4 + 6, none⟩ (.slice (some ⟨g2, 0, none⟩) p.shape.taints.length p.shape.taints.length)).setCell ⟨w.heap.size + 1 + 1, 4 + 7, none⟩ (.bool p.shape.cordon)).setCell ⟨w.heap.size + 1, 0, none⟩ (.int .i64 p.id)).setCell ⟨w.heap.size + 1, 1, none⟩ (.int .i64 p.min)).setCell ⟨w.heap.size + 1, 2, none⟩ (.int .i64 p.max)).setCell ⟨w.heap.size + 1, 3, none⟩ (.int .i64 p.prio)).setCell ⟨w.heap.size + 1, 4, none⟩ (.int .i64 p.shape.id)).setCell ⟨w.heap.size + 1, 5, none⟩ (.int .i64 p.shape.pool)).setCell ⟨w.heap.size + 1, 6, none⟩ (.int .i64 p.shape.cap.c)).setCell ⟨w.heap.size + 1, 7, none⟩ (.int .i64 p.shape.cap.m)).setCell ⟨w.heap.size + 1, 8, none⟩ (.int .i64 p.shape.cap.p)).setCell ⟨w.heap.size + 1, 9, none⟩ (.slice (some ⟨g1, 0, none⟩) p.shape.labs.length p.shape.labs.length)).setCell ⟨w.heap.size + 1, 10, none⟩ (.slice (some ⟨g2, 0, none⟩) p.shape.taints.length p.shape.taints.length)).setCell ⟨w.heap.size + 1, 11, none⟩ (.bool p.shape.cordon)) g2 3 (intL p.shape.taints).toArray := BlockIs.putFar (o := 0) (ds := [.int .i64 p.id, .int .i64 p.min, .int .i64 p.max, .int .i64 p.prio, .int .i64 p.shape.id, .int .i64 p.shape.pool, .int .i64 p.shape.cap.c, .int .i64 p.shape.cap.m, .int .i64 p.shape.cap.p, .slice (some ⟨g1, 0, none⟩) p.shape.labs.length p.shape.labs.length, .slice (some ⟨g2, 0, none⟩) p.shape.taints.length p.shape.taints.length, .bool p.shape.cordon]) (BlockIs.putFar (g := w.heap.size + 1 + 1) (o := 4) (ds := [.int .i64 p.shape.id, .int .i64 p.shape.pool, .int .i64 p.shape.cap.c, .int .i64 p.shape.cap.m, .int .i64 p.shape.cap.p, .slice (some ⟨g1, 0, none⟩) p.shape.labs.length p.shape.labs.length, .slice (some ⟨g2, 0, none⟩) p.shape.taints.length p.shape.taints.length, .bool p.shape.cordon]) HG2.out (by omega)) (by omega)
  have hB : Below w.heap.size w ((((((((((((((((((((w1.setCell ⟨w.heap.size + 1 + 1, 4, none⟩ (.int .i64 p.shape.id)).setCell ⟨w.heap.size + 1 + 1, 4 + 1, none⟩ (.int .i64 p.shape.pool)).setCell ⟨w.heap.size + 1 + 1, 4 + 2, none⟩ (.int .i64 p.shape.cap.c)).setCell ⟨w.heap.size + 1 + 1, 4 + 3, none⟩ (.int .i64 p.shape.cap.m)).setCell ⟨w.heap.size + 1 + 1, 4 + 4, none⟩ (.int .i64 p.shape.cap.p)).setCell ⟨w.heap.size + 1 + 1, 4 + 5, none⟩ (.slice (some ⟨g1, 0, none⟩) p.shape.labs.length p.shape.labs.length)).setCell ⟨w.heap.size + 1 + 1, 4 + 6, none⟩ (.slice (some ⟨g2, 0, none⟩) p.shape.taints.length p.shape.taints.length)).setCell ⟨w.heap.size + 1 + 1, 4 + 7, none⟩ (.bool p.shape.cordon)).setCell ⟨w.heap.size + 1, 0, none⟩ (.int .i64 p.id)).setCell ⟨w.heap.size + 1, 1, none⟩ (.int .i64 p.min)).setCell ⟨w.heap.size + 1, 2, none⟩ (.int .i64 p.max)).setCell ⟨w.heap.size + 1, 3, none⟩ (.int .i64 p.prio)).setCell ⟨w.heap.size + 1, 4, none⟩ (.int .i64 p.shape.id)).setCell ⟨w.heap.size + 1, 5, none⟩ (.int .i64 p.shape.pool)).setCell ⟨w.heap.size + 1, 6, none⟩ (.int .i64 p.shape.cap.c)).setCell ⟨w.heap.size + 1, 7, none⟩ (.int .i64 p.shape.cap.m)).setCell ⟨w.heap.size + 1, 8, none⟩ (.int .i64 p.shape.cap.p)).setCell ⟨w.heap.size + 1, 9, none⟩ (.slice (some ⟨g1, 0, none⟩) p.shape.labs.length p.shape.labs.length)).setCell ⟨w.heap.size + 1, 10, none⟩ (.slice (some ⟨g2, 0, none⟩) p.shape.taints.length p.shape.taints.length)).setCell ⟨w.heap.size + 1, 11, none⟩ (.bool p.shape.cordon)) := putAll_below (o := 0) (ds := [.int .i64 p.id, .int .i64 p.min, .int .i64 p.max, .int .i64 p.prio, .int .i64 p.shape.id, .int .i64 p.shape.pool, .int .i64 p.shape.cap.c, .int .i64 p.shape.cap.m, .int .i64 p.shape.cap.p, .slice (some ⟨g1, 0, none⟩) p.shape.labs.length p.shape.labs.length, .slice (some ⟨g2, 0, none⟩) p.shape.taints.length p.shape.taints.length, .bool p.shape.cordon]) (putAll_below (g := w.heap.size + 1 + 1) (o := 4) (ds := [.int .i64 p.shape.id, .int .i64 p.shape.pool, .int .i64 p.shape.cap.c, .int .i64 p.shape.cap.m, .int .i64 p.shape.cap.p, .slice (some ⟨g1, 0, none⟩) p.shape.labs.length p.shape.labs.length, .slice (some ⟨g2, 0, none⟩) p.shape.taints.length p.shape.taints.length, .bool p.shape.cordon]) hC1 (by omega)) (by omega)
  have hs : ((((((((((((((((((((w1.setCell ⟨w.heap.size + 1 + 1, 4, none⟩ (.int .i64 p.shape.id)).setCell ⟨w.heap.size + 1 + 1, 4 + 1, none⟩ (.int .i64 p.shape.pool)).setCell ⟨w.heap.size + 1 + 1, 4 + 2, none⟩ (.int .i64 p.shape.cap.c)).setCell ⟨w.heap.size + 1 + 1, 4 + 3, none⟩ (.int .i64 p.shape.cap.m)).setCell ⟨w.heap.size + 1 + 1, 4 + 4, none⟩ (.int .i64 p.shape.cap.p)).setCell ⟨w.heap.size + 1 + 1, 4 + 5, none⟩ (.slice (some ⟨g1, 0, none⟩) p.shape.labs.length p.shape.labs.length)).setCell ⟨w.heap.size + 1 + 1, 4 + 6, none⟩ (.slice (some ⟨g2, 0, none⟩) p.shape.taints.length p.shape.taints.length)).setCell ⟨w.heap.size + 1 + 1, 4 + 7, none⟩ (.bool p.shape.cordon)).setCell ⟨w.heap.size + 1, 0, none⟩ (.int .i64 p.id)).setCell ⟨w.heap.size + 1, 1, none⟩ (.int .i64 p.min)).setCell ⟨w.heap.size + 1, 2, none⟩ (.int .i64 p.max)).setCell ⟨w.heap.size + 1, 3, none⟩ (.int .i64 p.prio)).setCell ⟨w.heap.size + 1, 4, none⟩ (.int .i64 p.shape.id)).setCell ⟨w.heap.size + 1, 5, none⟩ (.int .i64 p.shape.pool)).setCell ⟨w.heap.size + 1, 6, none⟩ (.int .i64 p.shape.cap.c)).setCell ⟨w.heap.size + 1, 7, none⟩ (.int .i64 p.shape.cap.m)).setCell ⟨w.heap.size + 1, 8, none⟩ (.int .i64 p.shape.cap.p)).setCell ⟨w.heap.size + 1, 9, none⟩ (.slice (some ⟨g1, 0, none⟩) p.shape.labs.length p.shape.labs.length)).setCell ⟨w.heap.size + 1, 10, none⟩ (.slice (some ⟨g2, 0, none⟩) p.shape.taints.length p.shape.taints.length)).setCell ⟨w.heap.size + 1, 11, none⟩ (.bool p.shape.cordon)).heap.size = w1.heap.size := (putAll_size (o := 0) (ds := [.int .i64 p.id, .int .i64 p.min, .int .i64 p.max, .int .i64 p.prio, .int .i64 p.shape.id, .int .i64 p.shape.pool, .int .i64 p.shape.cap.c, .int .i64 p.shape.cap.m, .int .i64 p.shape.cap.p, .slice (some ⟨g1, 0, none⟩) p.shape.labs.length p.shape.labs.length, .slice (some ⟨g2, 0, none⟩) p.shape.taints.length p.shape.taints.length, .bool p.shape.cordon])).trans (putAll_size (g := w.heap.size + 1 + 1) (o := 4) (ds := [.int .i64 p.shape.id, .int .i64 p.shape.pool, .int .i64 p.shape.cap.c, .int .i64 p.shape.cap.m, .int .i64 p.shape.cap.p, .slice (some ⟨g1, 0, none⟩) p.shape.labs.length p.shape.labs.length, .slice (some ⟨g2, 0, none⟩) p.shape.taints.length p.shape.taints.length, .bool p.shape.cordon]))
  generalize ((((((((((((((((((((w1.setCell ⟨w.heap.size + 1 + 1, 4, none⟩ (.int .i64 p.shape.id)).setCell ⟨w.heap.size + 1 + 1, 4 + 1, none⟩ (.int .i64 p.shape.pool)).setCell ⟨w.heap.size + 1 + 1, 4 + 2, none⟩ (.int .i64 p.shape.cap.c)).setCell ⟨w.heap.size + 1 + 1, 4 + 3, none⟩ (.int .i64 p.shape.cap.m)).setCell ⟨w.heap.size + 1 + 1, 4 + 4, none⟩ (.int .i64 p.shape.cap.p)).setCell ⟨w.heap.size + 1 + 1, 4 + 5, none⟩ (.slice (some ⟨g1, 0, none⟩) p.shape.labs.length p.shape.labs.length)).setCell ⟨w.heap.size + 1 + 1, 4 + 6, none⟩ (.slice (some ⟨g2, 0, none⟩) p.shape.taints.length p.shape.taints.length)).setCell ⟨w.heap.size + 1 + 1, 4 + 7, none⟩ (.bool p.shape.cordon)).setCell ⟨w.heap.size + 1, 0, none⟩ (.int .i64 p.id)).setCell ⟨w.heap.size + 1, 1, none⟩ (.int .i64 p.min)).setCell ⟨w.heap.size + 1, 2, none⟩ (.int .i64 p.max)).setCell ⟨w.heap.size + 1, 3, none⟩ (.int .i64 p.prio)).setCell ⟨w.heap.size + 1, 4, none⟩ (.int .i64 p.shape.id)).setCell ⟨w.heap.size + 1, 5, none⟩ (.int .i64 p.shape.pool)).setCell ⟨w.heap.size + 1, 6, none⟩ (.int .i64 p.shape.cap.c)).setCell ⟨w.heap.size + 1, 7, none⟩ (.int .i64 p.shape.cap.m)).setCell ⟨w.heap.size + 1, 8, none⟩ (.int .i64 p.shape.cap.p)).setCell ⟨w.heap.size + 1, 9, none⟩ (.slice (some ⟨g1, 0, none⟩) p.shape.labs.length p.shape.labs.length)).setCell ⟨w.heap.size + 1, 10, none⟩ (.slice (some ⟨g2, 0, none⟩) p.shape.taints.length p.shape.taints.length)).setCell ⟨w.heap.size + 1, 11, none⟩ (.bool p.shape.cordon)) = X at hZ hG hI hB hs ⊢
  have z0 := hZ.cell 0
  have z1 := hZ.cell 1
  have z2 := hZ.cell 2
  have z3 := hZ.cell 3
  have z4 := hZ.cell 4
  have z5 := hZ.cell 5
  have z6 := hZ.cell 6
  have z7 := hZ.cell 7
  have z8 := hZ.cell 8
  have z9 := hZ.cell 9
  have z10 := hZ.cell 10
  have z11 := hZ.cell 11
  simp at z0 z1 z2 z3 z4 z5 z6 z7 z8 z9 z10 z11
  exact bodyPost_ret (v := .agg #[.int .i64 p.id, .int .i64 p.min, .int .i64 p.max, .int .i64 p.prio, .int .i64 p.shape.id, .int .i64 p.shape.pool, .int .i64 p.shape.cap.c, .int .i64 p.shape.cap.m, .int .i64 p.shape.cap.p, .slice (some ⟨g1, 0, none⟩) p.shape.labs.length p.shape.labs.length, .slice (some ⟨g2, 0, none⟩) p.shape.taints.length p.shape.taints.length, .bool p.shape.cordon]) (by simp [results, Tryz.results62, go_sem, z0, z1, z2, z3, z4, z5, z6, z7, z8, z9, z10, z11]) rfl ⟨g1, g2, rfl, by omega, by omega, by omega, hG, hI, hB⟩

set_option maxHeartbeats 1600000 in
theorem eqPool_same (p : PV) (v1 v2 u1 u2 : Value) (w : World) (h1 : LabSl w v1 p.shape.labs) (h2 : IntSl w v2 p.shape.taints) (k1 : LabSl w u1 p.shape.labs) (k2 : IntSl w u2 p.shape.taints) (l1 : p.shape.labs.length ≤ 1048576) (l2 : p.shape.taints.length ≤ 1048576) :
    Calls Tryz.prog 69 #[.agg #[.int .i64 p.id, .int .i64 p.min, .int .i64 p.max, .int .i64 p.prio, .int .i64 p.shape.id, .int .i64 p.shape.pool, .int .i64 p.shape.cap.c, .int .i64 p.shape.cap.m, .int .i64 p.shape.cap.p, v1, v2, .bool p.shape.cordon], .agg #[.int .i64 p.id, .int .i64 p.min, .int .i64 p.max, .int .i64 p.prio, .int .i64 p.shape.id, .int .i64 p.shape.pool, .int .i64 p.shape.cap.c, .int .i64 p.shape.cap.m, .int .i64 p.shape.cap.p, u1, u2, .bool p.shape.cordon]] w fun e w' => e = .returned (.bool true) ∧ Below w.heap.size w w' := by
  have he := fun w a b c d => eqNode_same p.shape v1 v2 u1 u2 w a b c d l1 l2
  have H1 := Lib.hid h1
  have H2 := Lib.hid h2
  have K1 := Lib.hid k1
  have K2 := Lib.hid k2
  have HE := Lib.hid he
  have e1 : (p.id != p.id) = false := by simp
  have e2 : (p.min != p.min) = false := by simp
  have e3 : (p.max != p.max) = false := by simp
  have e4 : (p.prio != p.prio) = false := by simp
  clear h1 h2 k1 k2 l1 l2 he
  go_enter Tryz.func69, Tryz.ntmps69
  go_wp2_with fail
  have hX : Below w.heap.size w ((w.alloc (.cells #[.int .i64 p.id, .int .i64 p.min, .int .i64 p.max, .int .i64 p.prio, .int .i64 p.shape.id, .int .i64 p.shape.pool, .int .i64 p.shape.cap.c, .int .i64 p.shape.cap.m, .int .i64 p.shape.cap.p, v1, v2, .bool p.shape.cordon] 85)).alloc (.cells #[.int .i64 p.id, .int .i64 p.min, .int .i64 p.max, .int .i64 p.prio, .int .i64 p.shape.id, .int .i64 p.shape.pool, .int .i64 p.shape.cap.c, .int .i64 p.shape.cap.m, .int .i64 p.shape.cap.p, u1, u2, .bool p.shape.cordon] 85)) := (by repeat' (first | exact Below.refl _ _ | refine Below.alloc ?_ ?_ _ | refine Below.setCell ?_ ?_ _ | refine Below.drew ?_ | (apply below_step; assumption) | (simp; done) | (simp; omega) | omega))
  refine (HE.out _ (H1.out.below hX) (H2.out.below hX) (K1.out.below hX) (K2.out.below hX)).mono ?_
  rintro e w1 ⟨rfl, hb1⟩
  have hC1 := below_of hX hb1
  go_wp2_with fail
  go_ret
  exact ⟨rfl, hC1⟩
def PoolQ (w : World) (t : PV) (cs : List Value) : Prop := ∃ v1 v2, cs = [.int .i64 t.id, .int .i64 t.min, .int .i64 t.max, .int .i64 t.prio, .int .i64 t.shape.id, .int .i64 t.shape.pool, .int .i64 t.shape.cap.c, .int .i64 t.shape.cap.m, .int .i64 t.shape.cap.p, v1, v2, .bool t.shape.cordon] ∧ LabSl w v1 t.shape.labs ∧ IntSl w v2 t.shape.taints ∧ t.shape.labs.length ≤ maxLen ∧ t.shape.taints.length ≤ maxLen
theorem PoolQ.kept : Kept PoolQ := fun _ _ _ _ hb ⟨v1, v2, e, h1, h2, h3⟩ => ⟨v1, v2, e, h1.below hb, h2.below hb, h3⟩
end Go.Proofs.YtmkpajjnjgnmkaaGreatDoor
namespace Go.Proofs.YtmkpajjnjgnmkaaGreatDoor
open Go.ChangeShapes Go.WideShapes Go.ChangeAt Go.RowKit Go.Joins
section
variable {H : Type} {enc : TypeId × Value → H} {W : World}
theorem list12 {α : Type} {l : List α} (h : l.length = 12) : ∃ a b c d e f g i j k m n, l = [a, b, c, d, e, f, g, i, j, k, m, n] := by
  match l, h with
  | [a, b, c, d, e, f, g, i, j, k, m, n], _ => exact ⟨a, b, c, d, e, f, g, i, j, k, m, n, rfl⟩
theorem Tryz.c_pool : Tryz.prog.cellsOf 76 = 12 := by kernel_rfl
set_option maxRecDepth 100000 in
theorem open_poolC {fuel : Nat} {cs : List Value} {x : DataW H × List MemPlace} (h : DataW.trod enc Tryz.prog W 0 (fun _ => true) true fuel 76 cs = some x) : ∃ t : PV, PoolQ W t cs := by
  obtain ⟨y0, y1, y2, y3, y4, n, hl, h0, h1, h2, h3, h4⟩ := trod_struct5 Tryz.underlying76 h
  rw [Tryz.c_pool] at hl
  obtain ⟨a, b, c, d, e, f, g, i, j, k, m, o, rfl⟩ := list12 hl
  simp only [Tryz.c_int, Tryz.c_node] at h0 h1 h2 h3 h4
  simp at h0 h1 h2 h3 h4
  obtain ⟨z0, e0, _, _⟩ := DataW.trod_int Tryz.underlying3 h0
  obtain ⟨z1, e1, _, _⟩ := DataW.trod_int Tryz.underlying3 h1
  obtain ⟨z2, e2, _, _⟩ := DataW.trod_int Tryz.underlying3 h2
  obtain ⟨z3, e3, _, _⟩ := DataW.trod_int Tryz.underlying3 h3
  obtain ⟨t, v1, v2, e4, s1, s2, s3, s4⟩ := open_nodeC h4
  simp at e0 e1 e2 e3 e4
  obtain ⟨rfl, rfl, rfl, rfl, rfl, rfl, rfl, rfl⟩ := e4
  subst e0 e1 e2 e3
  exact ⟨⟨z0, z1, z2, z3, t⟩, _, _, rfl, s1, s2, s3, s4⟩
end
end Go.Proofs.YtmkpajjnjgnmkaaGreatDoor
