/- The contracts of Used, Free, NodeOf and of their models. -/
import Derived.Test.YtflcacbpceinaaaGreatDoorCluSOk
namespace Go.Proofs.YtflcacbpceinaaaGreatDoor
open Go.RowKit

def usedG (c : CV) (z : Int) : RV × Bool := if clusterOk c && (fstBy NV.id c.nodes z).isSome then usedOf c z else (RV.zero, false)
def freeG (c : CV) (z : Int) : RV × Bool := match fstBy NV.id c.nodes z with
  | some n => if clusterOk c then freeOf c n else (RV.zero, false)
  | none => (RV.zero, false)
def nodeOfB (c : CV) (z : Int) : Int := ((fstBy BV.task c.binds z).getD BV.zero).node
def nodeOfG (c : CV) (z : Int) : Int := if clusterOk c then nodeOfB c z else 0
theorem fitsAll_mem {c : CV} {l : List NV} (h : fitsAll c l = true) {n : NV} (hn : n ∈ l) : (freeOf c n).2 = true := by
  induction l with
  | nil => cases hn
  | cons x r ih =>
    simp only [fitsAll, Bool.and_eq_true] at h
    rcases List.mem_cons.1 hn with rfl | hn
    · exact h.1
    · exact ih h.2 hn
theorem clusterOk_fits {c : CV} (h : clusterOk c = true) : fitsAll c c.nodes = true := by simp only [clusterOk, Bool.and_eq_true] at h; exact h.2
theorem clusterOk_binds {c : CV} (h : clusterOk c = true) : bindsFrom c 0 c.binds = true := by simp only [clusterOk, Bool.and_eq_true] at h; exact h.1.2
theorem freeOf_ok {c : CV} {n : NV} (h : (freeOf c n).2 = true) : freeOf c n = (resSub n.cap (usedOf c n.id).1, true) := by
  unfold freeOf at h ⊢
  split
  · rename_i hu; rw [if_pos hu] at h; simp only at h; rw [h]
  · rename_i hu; rw [if_neg hu] at h; cases h
theorem freeG_ok {c : CV} {z : Int} {n : NV} (h : clusterOk c = true) (hn : fstBy NV.id c.nodes z = some n) : freeG c z = (resSub n.cap (usedOf c z).1, true) := by
  have hz := fstBy_key hn
  unfold freeG
  rw [hn]
  simp only [h, if_true]
  rw [freeOf_ok (fitsAll_mem (clusterOk_fits h) (fstBy_mem hn)), hz]

/-- The last rows of a function that hands back an amount out of its result block g. -/
theorem res_put {w : World} {g : Nat} {t : TypeId} {a b c : Value} (h : BlockIs w g t #[a, b, c]) (r : RV) : BlockIs (((w.setCell ⟨g, 0, none⟩ (.int .i64 r.c)).setCell ⟨g, 1, none⟩ (.int .i64 r.m)).setCell ⟨g, 2, none⟩ (.int .i64 r.p)) g t #[.int .i64 r.c, .int .i64 r.m, .int .i64 r.p] := by
  simpa using ((h.put 0 (.int .i64 r.c)).put 1 (.int .i64 r.m)).put 2 (.int .i64 r.p)
theorem res_below {B : Nat} {a w : World} {g : Nat} (h : Below B a w) (hg : B ≤ g) (u v x : Value) : Below B a (((w.setCell ⟨g, 0, none⟩ (u)).setCell ⟨g, 1, none⟩ (v)).setCell ⟨g, 2, none⟩ (x)) := ((h.setCell hg _).setCell hg _).setCell hg _

set_option maxHeartbeats 1600000 in
theorem Used_any (c : CV) (a0 a1 a2 : Value) (z : Int) (w : World) (x : Addr) (hg : ErrAt x w) (hc : CluR w c a0 a1 a2) :
    Calls Tryz.prog 46 #[.agg #[a0, a1, a2], .int .i64 z] w (RetR (usedG c z).1 (usedG c z).2 w) := by
  have hfind := fun w1 hw1 => findNode_any c a0 a1 a2 z w w1 hw1 hc
  have hok := fun w1 hg1 h => ClusterOk_any c a0 a1 a2 w1 x hg1 h
  have hus := fun w1 hw1 hg1 => usedOn_any c a0 a1 a2 z w w1 hw1 x hg1 hc
  have hG : usedG c z = if clusterOk c && (fstBy NV.id c.nodes z).isSome then ((usedOf c z).1, (usedOf c z).2) else (RV.zero, false) := rfl
  generalize fstBy NV.id c.nodes z = o at hfind hG
  generalize clusterOk c = ok at hok hG
  generalize (usedOf c z).1 = u at hus hG
  generalize (usedOf c z).2 = uo at hus hG
  obtain ⟨D0, D1, D2, e0, e1, e2, rfl, rfl, rfl, hF⟩ := hc.full
  have HC := Lib.hid hc
  have HFI := Lib.hid hfind
  have HOK := Lib.hid hok
  have HUS := Lib.hid hus
  have HR := Lib.hid hG
  have HG := Lib.hid hg
  clear hfind hok hus hG hg hc hF
  go_enter Tryz.func46, Tryz.ntmps46
  go_wp2_with fail
  have hX : Below w.heap.size w ((w.alloc (.cells #[.slice D0 c.tasks.length e0, .slice D1 c.nodes.length e1, .slice D2 c.binds.length e2] 39)).alloc (.cells #[.int .i64 0, .int .i64 0, .int .i64 0] 43)) := (by repeat' (first | exact Below.refl _ _ | refine Below.alloc ?_ ?_ _ | refine Below.setCell ?_ ?_ _ | refine Below.drew ?_ | (apply below_step; assumption) | (simp; done) | (simp; omega) | omega))
  refine (HFI.out _ hX).mono ?_
  rintro e w2 ⟨cs, rfl, hR, hb2⟩
  have hC2 := below_of hX hb2
  have hz2 := hb2.size
  simp at hz2
  have BC : BlockIs w2 w.heap.size 39 #[.slice D0 c.tasks.length e0, .slice D1 c.nodes.length e1, .slice D2 c.binds.length e2] := ((BlockIs.new w _ _).alloc _).below hb2 (by simp; omega)
  have BR : BlockIs w2 (w.heap.size + 1) 43 #[.int .i64 0, .int .i64 0, .int .i64 0] := (BlockIs.new' (by simp)).below hb2 (by simp)
  generalize o.getD NV.zero = t at hR
  obtain ⟨v1, v2, rfl, sl, si, m1, m2⟩ := hR
  obtain ⟨A1, c1, rfl, _⟩ := sl.form
  obtain ⟨A2, c2, rfl, _⟩ := si.form
  have g0 := BC.cell 0
  have g1 := BC.cell 1
  have g2 := BC.cell 2
  have r0 := BR.cell 0
  have r1 := BR.cell 1
  have r2 := BR.cell 2
  have rf := BR.frozen
  have rl := BR.lt
  have cl := BC.lt
  simp at g0 g1 g2 r0 r1 r2
  have HBC := Lib.hid BC
  have HBR := Lib.hid BR
  clear BC BR hb2 hX sl si m1 m2
  cases o with
  | none =>
    go_wp2_with fail
    have hZ := (res_put HBR.out RV.zero).alloc (.cells #[.int .i64 t.id, .int .i64 t.pool, .int .i64 t.cap.c, .int .i64 t.cap.m, .int .i64 t.cap.p, .slice A1 t.labs.length c1, .slice A2 t.taints.length c2, .bool t.cordon] 60)
    have hX' := (res_below (u := .int .i64 RV.zero.c) (v := .int .i64 RV.zero.m) (x := .int .i64 RV.zero.p) hC2 (g := w.heap.size + 1) (by omega)).alloc (o := .cells #[.int .i64 t.id, .int .i64 t.pool, .int .i64 t.cap.c, .int .i64 t.cap.m, .int .i64 t.cap.p, .slice A1 t.labs.length c1, .slice A2 t.taints.length c2, .bool t.cordon] 60) (by simp [World.setCell]; omega)
    simp only [RV.zero] at hZ hX'
    generalize World.alloc (((w2.setCell ⟨w.heap.size + 1, 0, none⟩ (.int .i64 0)).setCell ⟨w.heap.size + 1, 1, none⟩ (.int .i64 0)).setCell ⟨w.heap.size + 1, 2, none⟩ (.int .i64 0)) (.cells #[.int .i64 t.id, .int .i64 t.pool, .int .i64 t.cap.c, .int .i64 t.cap.m, .int .i64 t.cap.p, .slice A1 t.labs.length c1, .slice A2 t.taints.length c2, .bool t.cordon] 60) = Y at hZ hX' ⊢
    have z0 := hZ.cell 0
    have z1 := hZ.cell 1
    have z2 := hZ.cell 2
    simp at z0 z1 z2
    exact bodyPost_ret (v := .tuple #[.agg #[.int .i64 RV.zero.c, .int .i64 RV.zero.m, .int .i64 RV.zero.p], .bool false]) (by simp [results, Tryz.results46, go_sem, z0, z1, z2, RV.zero]) rfl ⟨by rw [HR.out] <;> simp, hX'⟩
  | some n =>
    go_wp2_with fail
    have hX2 : Below w2.heap.size w2 (w2.alloc (.cells #[.int .i64 t.id, .int .i64 t.pool, .int .i64 t.cap.c, .int .i64 t.cap.m, .int .i64 t.cap.p, .slice A1 t.labs.length c1, .slice A2 t.taints.length c2, .bool t.cordon] 60)) := (by repeat' (first | exact Below.refl _ _ | refine Below.alloc ?_ ?_ _ | refine Below.setCell ?_ ?_ _ | refine Below.drew ?_ | (apply below_step; assumption) | (simp; done) | (simp; omega) | omega))
    have hCX2 := below_of hC2 hX2
    refine (HOK.out _ (HG.out.below hCX2 (Nat.le_refl _)) (HC.out.below hCX2)).mono ?_
    rintro e w3 ⟨rfl, hb3⟩
    have hD3 := below_of hX2 hb3
    have hC3 := below_of hC2 hD3
    have hz3 := hD3.size
    have BC := HBC.out.below hD3 HBC.out.lt
    have BR := HBR.out.below hD3 HBR.out.lt
    have g0 := BC.cell 0
    have g1 := BC.cell 1
    have g2 := BC.cell 2
    have r0 := BR.cell 0
    have r1 := BR.cell 1
    have r2 := BR.cell 2
    have rf := BR.frozen
    have rl := BR.lt
    have cl := BC.lt
    simp at g0 g1 g2 r0 r1 r2
    have HBR3 := Lib.hid BR
    clear BC BR hb3 hX2 hCX2
    cases ok
    · go_wp2_with fail
      have hZ := res_put HBR3.out RV.zero
      have hX' := res_below (u := .int .i64 RV.zero.c) (v := .int .i64 RV.zero.m) (x := .int .i64 RV.zero.p) hC3 (g := w.heap.size + 1) (by omega)
      simp only [RV.zero] at hZ hX'
      generalize (((w3.setCell ⟨w.heap.size + 1, 0, none⟩ (.int .i64 0)).setCell ⟨w.heap.size + 1, 1, none⟩ (.int .i64 0)).setCell ⟨w.heap.size + 1, 2, none⟩ (.int .i64 0)) = Y at hZ hX' ⊢
      have z0 := hZ.cell 0
      have z1 := hZ.cell 1
      have z2 := hZ.cell 2
      simp at z0 z1 z2
      exact bodyPost_ret (v := .tuple #[.agg #[.int .i64 RV.zero.c, .int .i64 RV.zero.m, .int .i64 RV.zero.p], .bool false]) (by simp [results, Tryz.results46, go_sem, z0, z1, z2, RV.zero]) rfl ⟨by rw [HR.out] <;> simp, hX'⟩
    · go_wp2_with fail
      refine (HUS.out _ hC3 (HG.out.below hC3 (Nat.le_refl _))).mono ?_
      rintro e w4 ⟨rfl, hb4⟩
      have hC4 := below_of hC3 hb4
      have BR := HBR3.out.below hb4 HBR3.out.lt
      have r0 := BR.cell 0
      have r1 := BR.cell 1
      have r2 := BR.cell 2
      have rf := BR.frozen
      simp at r0 r1 r2
      have HBR4 := Lib.hid BR
      clear BR hb4
      go_wp2_with fail
      have hZ := res_put HBR4.out u
      have hX' := res_below (u := .int .i64 u.c) (v := .int .i64 u.m) (x := .int .i64 u.p) hC4 (g := w.heap.size + 1) (by omega)
      generalize (((w4.setCell ⟨w.heap.size + 1, 0, none⟩ (.int .i64 u.c)).setCell ⟨w.heap.size + 1, 1, none⟩ (.int .i64 u.m)).setCell ⟨w.heap.size + 1, 2, none⟩ (.int .i64 u.p)) = Y at hZ hX' ⊢
      have z0 := hZ.cell 0
      have z1 := hZ.cell 1
      have z2 := hZ.cell 2
      simp at z0 z1 z2
      exact bodyPost_ret (v := .tuple #[.agg #[.int .i64 u.c, .int .i64 u.m, .int .i64 u.p], .bool uo]) (by simp [results, Tryz.results46, go_sem, z0, z1, z2]) rfl ⟨by rw [HR.out] <;> simp, hX'⟩
set_option maxHeartbeats 1600000 in
theorem Free_any (c : CV) (a0 a1 a2 : Value) (z : Int) (w : World) (x : Addr) (hg : ErrAt x w) (hc : CluR w c a0 a1 a2) :
    Calls Tryz.prog 49 #[.agg #[a0, a1, a2], .int .i64 z] w (RetR (freeG c z).1 (freeG c z).2 w) := by
  have hfind := fun w1 hw1 => findNode_any c a0 a1 a2 z w w1 hw1 hc
  have hok := fun w1 hg1 h => ClusterOk_any c a0 a1 a2 w1 x hg1 h
  have hus := fun n u1 u2 w1 hw1 hg1 hn1 hn2 => freeOn_any c n a0 a1 a2 u1 u2 w w1 hw1 x hg1 hc hn1 hn2
  have hG : freeG c z = match fstBy NV.id c.nodes z with
    | some n => if clusterOk c then ((freeOf c n).1, (freeOf c n).2) else (RV.zero, false)
    | none => (RV.zero, false) := rfl
  generalize fstBy NV.id c.nodes z = o at hfind hG
  generalize clusterOk c = ok at hok hG
  obtain ⟨D0, D1, D2, e0, e1, e2, rfl, rfl, rfl, hF⟩ := hc.full
  have HC := Lib.hid hc
  have HFI := Lib.hid hfind
  have HOK := Lib.hid hok
  have HUS := Lib.hid hus
  have HR := Lib.hid hG
  have HG := Lib.hid hg
  clear hfind hok hus hG hg hc hF
  go_enter Tryz.func49, Tryz.ntmps49
  go_wp2_with fail
  have hX : Below w.heap.size w ((w.alloc (.cells #[.slice D0 c.tasks.length e0, .slice D1 c.nodes.length e1, .slice D2 c.binds.length e2] 39)).alloc (.cells #[.int .i64 0, .int .i64 0, .int .i64 0] 43)) := (by repeat' (first | exact Below.refl _ _ | refine Below.alloc ?_ ?_ _ | refine Below.setCell ?_ ?_ _ | refine Below.drew ?_ | (apply below_step; assumption) | (simp; done) | (simp; omega) | omega))
  refine (HFI.out _ hX).mono ?_
  rintro e w2 ⟨cs, rfl, hR, hb2⟩
  have hC2 := below_of hX hb2
  have hz2 := hb2.size
  simp at hz2
  have BC : BlockIs w2 w.heap.size 39 #[.slice D0 c.tasks.length e0, .slice D1 c.nodes.length e1, .slice D2 c.binds.length e2] := ((BlockIs.new w _ _).alloc _).below hb2 (by simp; omega)
  have BR : BlockIs w2 (w.heap.size + 1) 43 #[.int .i64 0, .int .i64 0, .int .i64 0] := (BlockIs.new' (by simp)).below hb2 (by simp)
  have g0 := BC.cell 0
  have g1 := BC.cell 1
  have g2 := BC.cell 2
  have r0 := BR.cell 0
  have r1 := BR.cell 1
  have r2 := BR.cell 2
  have rf := BR.frozen
  have rl := BR.lt
  have cl := BC.lt
  simp at g0 g1 g2 r0 r1 r2
  have HBC := Lib.hid BC
  have HBR := Lib.hid BR
  clear BC BR hb2 hX
  cases o with
  | none =>
    generalize (none : Option NV).getD NV.zero = t at hR
    obtain ⟨v1, v2, rfl, sl, si, m1, m2⟩ := hR
    obtain ⟨A1, c1, rfl, _⟩ := sl.form
    obtain ⟨A2, c2, rfl, _⟩ := si.form
    clear sl si m1 m2
    go_wp2_with fail
    have hZ := (res_put HBR.out RV.zero).alloc (.cells #[.int .i64 t.id, .int .i64 t.pool, .int .i64 t.cap.c, .int .i64 t.cap.m, .int .i64 t.cap.p, .slice A1 t.labs.length c1, .slice A2 t.taints.length c2, .bool t.cordon] 60)
    have hX' := (res_below (u := .int .i64 RV.zero.c) (v := .int .i64 RV.zero.m) (x := .int .i64 RV.zero.p) hC2 (g := w.heap.size + 1) (by omega)).alloc (o := .cells #[.int .i64 t.id, .int .i64 t.pool, .int .i64 t.cap.c, .int .i64 t.cap.m, .int .i64 t.cap.p, .slice A1 t.labs.length c1, .slice A2 t.taints.length c2, .bool t.cordon] 60) (by simp [World.setCell]; omega)
    simp only [RV.zero] at hZ hX'
    generalize World.alloc (((w2.setCell ⟨w.heap.size + 1, 0, none⟩ (.int .i64 0)).setCell ⟨w.heap.size + 1, 1, none⟩ (.int .i64 0)).setCell ⟨w.heap.size + 1, 2, none⟩ (.int .i64 0)) (.cells #[.int .i64 t.id, .int .i64 t.pool, .int .i64 t.cap.c, .int .i64 t.cap.m, .int .i64 t.cap.p, .slice A1 t.labs.length c1, .slice A2 t.taints.length c2, .bool t.cordon] 60) = Y at hZ hX' ⊢
    have z0 := hZ.cell 0
    have z1 := hZ.cell 1
    have z2 := hZ.cell 2
    simp at z0 z1 z2
    exact bodyPost_ret (v := .tuple #[.agg #[.int .i64 RV.zero.c, .int .i64 RV.zero.m, .int .i64 RV.zero.p], .bool false]) (by simp [results, Tryz.results49, go_sem, z0, z1, z2, RV.zero]) rfl ⟨by rw [HR.out] <;> simp, hX'⟩
  | some t =>
    have hR : NodeR w t cs := hR
    obtain ⟨v1, v2, rfl, sl, si, m1, m2⟩ := hR
    have hfr := fun w1 hw1 hg1 => HUS.out t v1 v2 w1 hw1 hg1 sl si
    generalize hu1 : (freeOf c t).1 = u at hfr
    generalize hu2 : (freeOf c t).2 = uo at hfr
    have HFR := Lib.hid hfr
    have HU := Lib.hid (And.intro hu1 hu2)
    obtain ⟨A1, c1, rfl, _⟩ := sl.form
    obtain ⟨A2, c2, rfl, _⟩ := si.form
    clear sl si m1 m2 hfr hu1 hu2 HUS
    go_wp2_with fail
    have hX2 : Below w2.heap.size w2 (w2.alloc (.cells #[.int .i64 t.id, .int .i64 t.pool, .int .i64 t.cap.c, .int .i64 t.cap.m, .int .i64 t.cap.p, .slice A1 t.labs.length c1, .slice A2 t.taints.length c2, .bool t.cordon] 60)) := (by repeat' (first | exact Below.refl _ _ | refine Below.alloc ?_ ?_ _ | refine Below.setCell ?_ ?_ _ | refine Below.drew ?_ | (apply below_step; assumption) | (simp; done) | (simp; omega) | omega))
    have hCX2 := below_of hC2 hX2
    refine (HOK.out _ (HG.out.below hCX2 (Nat.le_refl _)) (HC.out.below hCX2)).mono ?_
    rintro e w3 ⟨rfl, hb3⟩
    have hD3 := below_of hX2 hb3
    have hC3 := below_of hC2 hD3
    have hz3 := hD3.size
    have BC := HBC.out.below hD3 HBC.out.lt
    have BR := HBR.out.below hD3 HBR.out.lt
    have g0 := BC.cell 0
    have g1 := BC.cell 1
    have g2 := BC.cell 2
    have r0 := BR.cell 0
    have r1 := BR.cell 1
    have r2 := BR.cell 2
    have rf := BR.frozen
    have rl := BR.lt
    have cl := BC.lt
    simp at g0 g1 g2 r0 r1 r2
    have HBR3 := Lib.hid BR
    have BN := (BlockIs.new w2 60 #[.int .i64 t.id, .int .i64 t.pool, .int .i64 t.cap.c, .int .i64 t.cap.m, .int .i64 t.cap.p, .slice A1 t.labs.length c1, .slice A2 t.taints.length c2, .bool t.cordon]).below hb3 (by simp)
    have b0 := BN.cell 0
    have b1 := BN.cell 1
    have b2 := BN.cell 2
    have b3 := BN.cell 3
    have b4 := BN.cell 4
    have b5 := BN.cell 5
    have b6 := BN.cell 6
    have b7 := BN.cell 7
    have bl := BN.lt
    simp at b0 b1 b2 b3 b4 b5 b6 b7
    clear BC BR BN hb3 hX2 hCX2
    cases ok
    · go_wp2_with fail
      have hZ := res_put HBR3.out RV.zero
      have hX' := res_below (u := .int .i64 RV.zero.c) (v := .int .i64 RV.zero.m) (x := .int .i64 RV.zero.p) hC3 (g := w.heap.size + 1) (by omega)
      simp only [RV.zero] at hZ hX'
      generalize (((w3.setCell ⟨w.heap.size + 1, 0, none⟩ (.int .i64 0)).setCell ⟨w.heap.size + 1, 1, none⟩ (.int .i64 0)).setCell ⟨w.heap.size + 1, 2, none⟩ (.int .i64 0)) = Y at hZ hX' ⊢
      have z0 := hZ.cell 0
      have z1 := hZ.cell 1
      have z2 := hZ.cell 2
      simp at z0 z1 z2
      exact bodyPost_ret (v := .tuple #[.agg #[.int .i64 RV.zero.c, .int .i64 RV.zero.m, .int .i64 RV.zero.p], .bool false]) (by simp [results, Tryz.results49, go_sem, z0, z1, z2, RV.zero]) rfl ⟨by rw [HR.out] <;> simp, hX'⟩
    · go_wp2_with fail
      refine (HFR.out _ hC3 (HG.out.below hC3 (Nat.le_refl _))).mono ?_
      rintro e w4 ⟨rfl, hb4⟩
      have hC4 := below_of hC3 hb4
      have BR := HBR3.out.below hb4 HBR3.out.lt
      have r0 := BR.cell 0
      have r1 := BR.cell 1
      have r2 := BR.cell 2
      have rf := BR.frozen
      simp at r0 r1 r2
      have HBR4 := Lib.hid BR
      clear BR hb4
      go_wp2_with fail
      have hZ := res_put HBR4.out u
      have hX' := res_below (u := .int .i64 u.c) (v := .int .i64 u.m) (x := .int .i64 u.p) hC4 (g := w.heap.size + 1) (by omega)
      generalize (((w4.setCell ⟨w.heap.size + 1, 0, none⟩ (.int .i64 u.c)).setCell ⟨w.heap.size + 1, 1, none⟩ (.int .i64 u.m)).setCell ⟨w.heap.size + 1, 2, none⟩ (.int .i64 u.p)) = Y at hZ hX' ⊢
      have z0 := hZ.cell 0
      have z1 := hZ.cell 1
      have z2 := hZ.cell 2
      simp at z0 z1 z2
      exact bodyPost_ret (v := .tuple #[.agg #[.int .i64 u.c, .int .i64 u.m, .int .i64 u.p], .bool uo]) (by simp [results, Tryz.results49, go_sem, z0, z1, z2]) rfl ⟨by rw [HR.out]; simp [HU.out.1, HU.out.2], hX'⟩
set_option maxHeartbeats 1600000 in
theorem sUsedG_any (c : CV) (a0 a1 a2 : Value) (z : Int) (w : World) (hc : CluR w c a0 a1 a2) :
    Calls Tryz.prog 45 #[.agg #[a0, a1, a2], .int .i64 z] w (RetR (usedG c z).1 (usedG c z).2 w) := by
  have hix := fun w1 hw1 => sNode_any c a0 a1 a2 z w w1 hw1 hc
  have hok := fun w1 h => sClusterOk_any c a0 a1 a2 w1 h
  have hG : usedG c z = if clusterOk c && (fstBy NV.id c.nodes z).isSome then ((usedOf c z).1, (usedOf c z).2) else (RV.zero, false) := rfl
  have hus := fun (h : clusterOk c = true) w1 hw1 => sUsed_any c a0 a1 a2 z w w1 hw1 hc (bindsFrom_all (clusterOk_binds h))
  generalize (usedOf c z).1 = u at hus hG
  generalize (usedOf c z).2 = uo at hus hG
  obtain ⟨D0, D1, D2, e0, e1, e2, rfl, rfl, rfl, hF⟩ := hc.full
  have HC := Lib.hid hc
  cases ho : clusterOk c
  all_goals
    rw [ho] at hok hG
    have HOK := Lib.hid hok
  · have HR := Lib.hid hG
    clear hix hok hG hc hF hus ho
    go_enter Tryz.func45, Tryz.ntmps45
    go_wp2_with fail
    have hX : Below w.heap.size w ((w.alloc (.cells #[.slice D0 c.tasks.length e0, .slice D1 c.nodes.length e1, .slice D2 c.binds.length e2] 39)).alloc (.cells #[.int .i64 0, .int .i64 0, .int .i64 0] 43)) := (by repeat' (first | exact Below.refl _ _ | refine Below.alloc ?_ ?_ _ | refine Below.setCell ?_ ?_ _ | refine Below.drew ?_ | (apply below_step; assumption) | (simp; done) | (simp; omega) | omega))
    refine (HOK.out _ (HC.out.below hX)).mono ?_
    rintro e w2 ⟨rfl, hb2⟩
    have hC2 := below_of hX hb2
    have BR : BlockIs w2 (w.heap.size + 1) 43 #[.int .i64 0, .int .i64 0, .int .i64 0] := (BlockIs.new' (by simp)).below hb2 (by simp)
    have r0 := BR.cell 0
    have r1 := BR.cell 1
    have r2 := BR.cell 2
    have rf := BR.frozen
    simp at r0 r1 r2
    have HBR := Lib.hid BR
    clear BR hb2 hX
    go_wp2_with fail
    have hZ := res_put HBR.out RV.zero
    have hX' := res_below (u := .int .i64 RV.zero.c) (v := .int .i64 RV.zero.m) (x := .int .i64 RV.zero.p) hC2 (g := w.heap.size + 1) (by omega)
    simp only [RV.zero] at hZ hX'
    generalize (((w2.setCell ⟨w.heap.size + 1, 0, none⟩ (.int .i64 0)).setCell ⟨w.heap.size + 1, 1, none⟩ (.int .i64 0)).setCell ⟨w.heap.size + 1, 2, none⟩ (.int .i64 0)) = Y at hZ hX' ⊢
    have z0 := hZ.cell 0
    have z1 := hZ.cell 1
    have z2 := hZ.cell 2
    simp at z0 z1 z2
    exact bodyPost_ret (v := .tuple #[.agg #[.int .i64 RV.zero.c, .int .i64 RV.zero.m, .int .i64 RV.zero.p], .bool false]) (by simp [results, Tryz.results45, go_sem, z0, z1, z2, RV.zero]) rfl ⟨by rw [HR.out] <;> simp, hX'⟩
  · have HUS := Lib.hid (hus ho)
    cases hn : fstBy NV.id c.nodes z with
    | none =>
      rw [idxBy_none hn] at hix
      rw [hn] at hG
      have HIX := Lib.hid hix
      have HR := Lib.hid hG
      clear hix hok hG hc hF hus ho hn
      go_enter Tryz.func45, Tryz.ntmps45
      go_wp2_with fail
      have hX : Below w.heap.size w ((w.alloc (.cells #[.slice D0 c.tasks.length e0, .slice D1 c.nodes.length e1, .slice D2 c.binds.length e2] 39)).alloc (.cells #[.int .i64 0, .int .i64 0, .int .i64 0] 43)) := (by repeat' (first | exact Below.refl _ _ | refine Below.alloc ?_ ?_ _ | refine Below.setCell ?_ ?_ _ | refine Below.drew ?_ | (apply below_step; assumption) | (simp; done) | (simp; omega) | omega))
      refine (HOK.out _ (HC.out.below hX)).mono ?_
      rintro e w2 ⟨rfl, hb2⟩
      have hC2 := below_of hX hb2
      have BC : BlockIs w2 w.heap.size 39 #[.slice D0 c.tasks.length e0, .slice D1 c.nodes.length e1, .slice D2 c.binds.length e2] := ((BlockIs.new w _ _).alloc _).below hb2 (by simp; omega)
      have BR : BlockIs w2 (w.heap.size + 1) 43 #[.int .i64 0, .int .i64 0, .int .i64 0] := (BlockIs.new' (by simp)).below hb2 (by simp)
      have g0 := BC.cell 0
      have g1 := BC.cell 1
      have g2 := BC.cell 2
      simp at g0 g1 g2
      have HBR := Lib.hid BR
      clear BC BR hb2 hX
      go_wp2_with fail
      refine (HIX.out _ hC2).mono ?_
      rintro e w3 ⟨rfl, hb3⟩
      have hC3 := below_of hC2 hb3
      have BR := HBR.out.below hb3 HBR.out.lt
      have r0 := BR.cell 0
      have r1 := BR.cell 1
      have r2 := BR.cell 2
      have rf := BR.frozen
      simp at r0 r1 r2
      have HBR3 := Lib.hid BR
      clear BR hb3
      go_wp2_with fail
      have hZ := res_put HBR3.out RV.zero
      have hX' := res_below (u := .int .i64 RV.zero.c) (v := .int .i64 RV.zero.m) (x := .int .i64 RV.zero.p) hC3 (g := w.heap.size + 1) (by omega)
      simp only [RV.zero] at hZ hX'
      generalize (((w3.setCell ⟨w.heap.size + 1, 0, none⟩ (.int .i64 0)).setCell ⟨w.heap.size + 1, 1, none⟩ (.int .i64 0)).setCell ⟨w.heap.size + 1, 2, none⟩ (.int .i64 0)) = Y at hZ hX' ⊢
      have z0 := hZ.cell 0
      have z1 := hZ.cell 1
      have z2 := hZ.cell 2
      simp at z0 z1 z2
      exact bodyPost_ret (v := .tuple #[.agg #[.int .i64 RV.zero.c, .int .i64 RV.zero.m, .int .i64 RV.zero.p], .bool false]) (by simp [results, Tryz.results45, go_sem, z0, z1, z2, RV.zero]) rfl ⟨by rw [HR.out] <;> simp, hX'⟩
    | some n =>
      obtain ⟨j, hj, _⟩ := idxBy_some hn
      rw [hj] at hix
      rw [hn] at hG
      have HIX := Lib.hid hix
      have HR := Lib.hid hG
      clear hix hok hG hc hF hus ho hn hj
      have hnn : decide ((j : Int) < 0) = false := by simp
      go_enter Tryz.func45, Tryz.ntmps45
      go_wp2_with fail
      have hX : Below w.heap.size w ((w.alloc (.cells #[.slice D0 c.tasks.length e0, .slice D1 c.nodes.length e1, .slice D2 c.binds.length e2] 39)).alloc (.cells #[.int .i64 0, .int .i64 0, .int .i64 0] 43)) := (by repeat' (first | exact Below.refl _ _ | refine Below.alloc ?_ ?_ _ | refine Below.setCell ?_ ?_ _ | refine Below.drew ?_ | (apply below_step; assumption) | (simp; done) | (simp; omega) | omega))
      refine (HOK.out _ (HC.out.below hX)).mono ?_
      rintro e w2 ⟨rfl, hb2⟩
      have hC2 := below_of hX hb2
      have BC : BlockIs w2 w.heap.size 39 #[.slice D0 c.tasks.length e0, .slice D1 c.nodes.length e1, .slice D2 c.binds.length e2] := ((BlockIs.new w _ _).alloc _).below hb2 (by simp; omega)
      have BR : BlockIs w2 (w.heap.size + 1) 43 #[.int .i64 0, .int .i64 0, .int .i64 0] := (BlockIs.new' (by simp)).below hb2 (by simp)
      have g0 := BC.cell 0
      have g1 := BC.cell 1
      have g2 := BC.cell 2
      simp at g0 g1 g2
      have HBR := Lib.hid BR
      have HBC := Lib.hid BC
      clear BC BR hb2 hX
      go_wp2_with fail
      refine (HIX.out _ hC2).mono ?_
      rintro e w3 ⟨rfl, hb3⟩
      have hC3 := below_of hC2 hb3
      have BC := HBC.out.below hb3 HBC.out.lt
      have g0 := BC.cell 0
      have g1 := BC.cell 1
      have g2 := BC.cell 2
      simp at g0 g1 g2
      have HBR3 := Lib.hid (HBR.out.below hb3 HBR.out.lt)
      clear BC hb3 HBR
      go_wp2_with fail
      refine (HUS.out _ hC3).mono ?_
      rintro e w4 ⟨rfl, hb4⟩
      have hC4 := below_of hC3 hb4
      have BR := HBR3.out.below hb4 HBR3.out.lt
      have r0 := BR.cell 0
      have r1 := BR.cell 1
      have r2 := BR.cell 2
      have rf := BR.frozen
      simp at r0 r1 r2
      have HBR4 := Lib.hid BR
      clear BR hb4
      go_wp2_with fail
      have hZ := res_put HBR4.out u
      have hX' := res_below (u := .int .i64 u.c) (v := .int .i64 u.m) (x := .int .i64 u.p) hC4 (g := w.heap.size + 1) (by omega)
      generalize (((w4.setCell ⟨w.heap.size + 1, 0, none⟩ (.int .i64 u.c)).setCell ⟨w.heap.size + 1, 1, none⟩ (.int .i64 u.m)).setCell ⟨w.heap.size + 1, 2, none⟩ (.int .i64 u.p)) = Y at hZ hX' ⊢
      have z0 := hZ.cell 0
      have z1 := hZ.cell 1
      have z2 := hZ.cell 2
      simp at z0 z1 z2
      exact bodyPost_ret (v := .tuple #[.agg #[.int .i64 u.c, .int .i64 u.m, .int .i64 u.p], .bool uo]) (by simp [results, Tryz.results45, go_sem, z0, z1, z2]) rfl ⟨by rw [HR.out] <;> simp, hX'⟩
set_option maxHeartbeats 3200000 in
set_option maxRecDepth 20000 in
theorem l03Free_any (c : CV) (a0 a1 a2 : Value) (z : Int) (n : NV) (w : World) (hc : CluR w c a0 a1 a2) (hall : ∀ b ∈ c.binds, ∃ t, fstBy TV.id c.tasks b.task = some t) (hn : fstBy NV.id c.nodes z = some n) :
    Calls Tryz.prog 96 #[.agg #[a0, a1, a2], .int .i64 z] w fun e w' => e = .returned (.agg #[.int .i64 (resSub n.cap (usedOf c z).1).c, .int .i64 (resSub n.cap (usedOf c z).1).m, .int .i64 (resSub n.cap (usedOf c z).1).p]) ∧ Below w.heap.size w w' := by
  have hix := fun w1 hw1 => sNode_any c a0 a1 a2 z w w1 hw1 hc
  have hus := fun w1 hw1 => sUsed_any c a0 a1 a2 z w w1 hw1 hc hall
  obtain ⟨D0, D1, D2, e0, e1, e2, rfl, rfl, rfl, hF⟩ := hc.full
  obtain ⟨j, hj, hjt, hkz, hmn⟩ := idxBy_some hn
  clear hkz hmn
  rw [hj] at hix
  generalize (usedOf c z).1 = u at hus ⊢
  generalize (usedOf c z).2 = uo at hus
  have hjl : j < c.nodes.length := (List.getElem?_eq_some_iff.1 hjt).1
  have l1 := hF.l1
  obtain ⟨bn, on, rfl, hbw, hat⟩ := hF.hn (by omega)
  obtain ⟨cs, hR, hC⟩ := hat j n hjt
  obtain ⟨v1, v2, rfl, _, _, _, _⟩ := hR
  have hsub := fun w1 => sResSub_any n.cap u w1
  generalize hs : resSub n.cap u = s at hsub
  generalize resSubOk n.cap u = so at hsub
  have HS := Lib.hid hs
  have HIX := Lib.hid hix
  have HUS := Lib.hid hus
  have HSUB := Lib.hid hsub
  have HCC := Lib.hid hC
  have hji : (j : Int) < (c.nodes.length : Int) := by omega
  have hj0 : (0 : Int) ≤ (j : Int) := by omega
  clear hix hus hsub hc hF hn hj hjt hat hC hs hall
  go_enter Tryz.func96, Tryz.ntmps96
  go_wp2_with fail
  have hX : Below w.heap.size w ((w.alloc (.cells #[.slice D0 c.tasks.length e0, .slice (some ⟨bn, on, none⟩) c.nodes.length e1, .slice D2 c.binds.length e2] 39)).alloc (.cells #[.int .i64 0, .int .i64 0, .int .i64 0] 43)) := (by repeat' (first | exact Below.refl _ _ | refine Below.alloc ?_ ?_ _ | refine Below.setCell ?_ ?_ _ | refine Below.drew ?_ | (apply below_step; assumption) | (simp; done) | (simp; omega) | omega))
  refine (HUS.out _ hX).mono ?_
  rintro e w2 ⟨rfl, hb2⟩
  have hC2 := below_of hX hb2
  have hz2 := hb2.size
  simp at hz2
  have BC : BlockIs w2 w.heap.size 39 #[.slice D0 c.tasks.length e0, .slice (some ⟨bn, on, none⟩) c.nodes.length e1, .slice D2 c.binds.length e2] := ((BlockIs.new w _ _).alloc _).below hb2 (by simp; omega)
  have BR : BlockIs w2 (w.heap.size + 1) 43 #[.int .i64 0, .int .i64 0, .int .i64 0] := (BlockIs.new' (by simp)).below hb2 (by simp)
  have HBC := Lib.hid BC
  have HBR := Lib.hid BR
  have cl := BC.lt
  have rl := BR.lt
  clear BC BR hb2 hX
  go_upto_region 2 with fail
  have hX3 : Below w2.heap.size w2 (w2.alloc (.cells #[.int .i64 u.c, .int .i64 u.m, .int .i64 u.p] 43)) := (by repeat' (first | exact Below.refl _ _ | refine Below.alloc ?_ ?_ _ | refine Below.setCell ?_ ?_ _ | refine Below.drew ?_ | (apply below_step; assumption) | (simp; done) | (simp; omega) | omega))
  have hC3 := below_of hC2 hX3
  have BC := HBC.out.alloc (.cells #[.int .i64 u.c, .int .i64 u.m, .int .i64 u.p] 43)
  have BU := BlockIs.new w2 43 #[.int .i64 u.c, .int .i64 u.m, .int .i64 u.p]
  have HBR3 := Lib.hid (HBR.out.alloc (.cells #[.int .i64 u.c, .int .i64 u.m, .int .i64 u.p] 43))
  have hzw : w2.heap.size < (w2.alloc (.cells #[.int .i64 u.c, .int .i64 u.m, .int .i64 u.p] 43)).heap.size := by simp
  generalize w2.alloc (.cells #[.int .i64 u.c, .int .i64 u.m, .int .i64 u.p] 43) = X at hX3 hC3 BC BU HBR3 hzw ⊢
  obtain ⟨q0, q1, q2, q3, q4, q5, q6, q7⟩ := node_cells (HCC.out.below hC3 hbw)
  have hbX : bn < X.heap.size := Nat.lt_of_lt_of_le hbw hC3.size
  have HK := Lib.hid (show ∀ w', Below X.heap.size X w' → Below X.heap.size X w' ∧ (∀ o, w'.cell? ⟨w.heap.size, o, none⟩ = (#[.slice D0 c.tasks.length e0, .slice (some ⟨bn, on, none⟩) c.nodes.length e1, .slice D2 c.binds.length e2] : Array Value)[o]?) ∧ (∀ o, w'.cell? ⟨w2.heap.size, o, none⟩ = (#[.int .i64 u.c, .int .i64 u.m, .int .i64 u.p] : Array Value)[o]?) ∧ w'.cell? ⟨bn, on + j * 8 + 2, none⟩ = some (.int .i64 n.cap.c) ∧ w'.cell? ⟨bn, on + j * 8 + 3, none⟩ = some (.int .i64 n.cap.m) ∧ w'.cell? ⟨bn, on + j * 8 + 4, none⟩ = some (.int .i64 n.cap.p) from fun w' hb => ⟨hb, (BC.below hb BC.lt).cell, (BU.below hb BU.lt).cell, (hb.cell (p := ⟨_, _, none⟩) hbX).trans q2, (hb.cell (p := ⟨_, _, none⟩) hbX).trans q3, (hb.cell (p := ⟨_, _, none⟩) hbX).trans q4⟩)
  clear q0 q1 q2 q3 q4 q5 q6 q7 BC BU hX3
  go_cut [7] (fun s7 wx => PutAt X s s7 wx)
  case first =>
    go_region_held3 (fun w' => Below X.heap.size X w' ∧ (∀ o, w'.cell? ⟨w.heap.size, o, none⟩ = (#[.slice D0 c.tasks.length e0, .slice (some ⟨bn, on, none⟩) c.nodes.length e1, .slice D2 c.binds.length e2] : Array Value)[o]?) ∧ (∀ o, w'.cell? ⟨w2.heap.size, o, none⟩ = (#[.int .i64 u.c, .int .i64 u.m, .int .i64 u.p] : Array Value)[o]?) ∧ w'.cell? ⟨bn, on + j * 8 + 2, none⟩ = some (.int .i64 n.cap.c) ∧ w'.cell? ⟨bn, on + j * 8 + 3, none⟩ = some (.int .i64 n.cap.m) ∧ w'.cell? ⟨bn, on + j * 8 + 4, none⟩ = some (.int .i64 n.cap.p))
      (exact HK.out _ (by repeat' (first | exact Below.refl _ _ | refine Below.alloc ?_ ?_ _ | refine Below.setCell ?_ ?_ _ | refine Below.drew ?_ | (apply below_step; assumption) | (simp; done) | (simp; omega) | omega)))
      (first
        | (go_at_call 88; refine (HIX.out _ (below_of hC3 (by repeat' (first | exact Below.refl _ _ | refine Below.alloc ?_ ?_ _ | refine Below.setCell ?_ ?_ _ | refine Below.drew ?_ | (apply below_step; assumption) | (simp; done) | (simp; omega) | omega)))).mono ?_; rintro e w4 ⟨rfl, hb4⟩; obtain ⟨hc4, hf4⟩ := bcell hb4; have hl4 := blt hb4; (first | have hm4 := (blast hb4).2.2 | have hm4 := (blastd hb4).2.2 | have hm4 := True.intro); (try simp at hm4); have hz4 := hb4.size; try simp at hz4)
        | (go_at_call 141; refine (HSUB.out _).mono ?_; rintro e w5 ⟨rfl, hb5⟩; obtain ⟨hc5, hf5⟩ := bcell hb5; have hl5 := blt hb5; (first | have hm5 := (blast hb5).2.2 | have hm5 := (blastd hb5).2.2 | have hm5 := True.intro); (try simp at hm5); have hz5 := hb5.size; try simp at hz5))
    all_goals
      go_wp2_with fail
      go_meet
      exact ⟨_, rfl, by (first | (simp; done) | (go_simp; done)), by (first | (simp; done) | (go_simp; done)), by (first | (simp; done) | (go_simp; done)), (by repeat' (first | exact Below.refl _ _ | refine Below.alloc ?_ ?_ _ | refine Below.setCell ?_ ?_ _ | refine Below.drew ?_ | (apply below_step; assumption) | (simp; done) | (simp; omega) | omega))⟩
  case rest =>
    obtain ⟨g7, rfl, y0, y1, y2, hD⟩ := hcut
    have hC4 := below_of hC3 hD
    have BR := HBR3.out.below hD HBR3.out.lt
    have r0 := BR.cell 0
    have r1 := BR.cell 1
    have r2 := BR.cell 2
    have rf := BR.frozen
    simp at r0 r1 r2
    have HBR4 := Lib.hid BR
    clear BR HBR HBR3 HBC
    go_wp2_with fail
    have hZ := res_put HBR4.out s
    have hX' := res_below (u := .int .i64 s.c) (v := .int .i64 s.m) (x := .int .i64 s.p) hC4 (g := w.heap.size + 1) (by omega)
    generalize (((wc.setCell ⟨w.heap.size + 1, 0, none⟩ (.int .i64 s.c)).setCell ⟨w.heap.size + 1, 1, none⟩ (.int .i64 s.m)).setCell ⟨w.heap.size + 1, 2, none⟩ (.int .i64 s.p)) = Y at hZ hX' ⊢
    have z0 := hZ.cell 0
    have z1 := hZ.cell 1
    have z2 := hZ.cell 2
    simp at z0 z1 z2
    exact bodyPost_ret (v := .agg #[.int .i64 s.c, .int .i64 s.m, .int .i64 s.p]) (by simp [results, Tryz.results96, go_sem, z0, z1, z2]) rfl ⟨by have h := HS.out; subst h; rfl, hX'⟩
set_option maxHeartbeats 1600000 in
theorem sFreeG_any (c : CV) (a0 a1 a2 : Value) (z : Int) (w : World) (hc : CluR w c a0 a1 a2) :
    Calls Tryz.prog 48 #[.agg #[a0, a1, a2], .int .i64 z] w (RetR (freeG c z).1 (freeG c z).2 w) := by
  have hix := fun w1 hw1 => sNode_any c a0 a1 a2 z w w1 hw1 hc
  have hok := fun w1 h => sClusterOk_any c a0 a1 a2 w1 h
  have hG : freeG c z = match fstBy NV.id c.nodes z with
    | some n => if clusterOk c then freeOf c n else (RV.zero, false)
    | none => (RV.zero, false) := rfl
  have hus := fun (h : clusterOk c = true) n hn w1 h1 => l03Free_any c a0 a1 a2 z n w1 h1 (bindsFrom_all (clusterOk_binds h)) hn
  have hGo := fun (h : clusterOk c = true) n hn => freeG_ok (c := c) (z := z) (n := n) h hn
  obtain ⟨D0, D1, D2, e0, e1, e2, rfl, rfl, rfl, hF⟩ := hc.full
  have HC := Lib.hid hc
  cases ho : clusterOk c
  all_goals
    rw [ho] at hok hG
    have HOK := Lib.hid hok
  · have HR := Lib.hid (show freeG c z = (RV.zero, false) by rw [hG]; cases fstBy NV.id c.nodes z <;> rfl)
    clear hix hok hG hc hF hus ho hGo
    go_enter Tryz.func48, Tryz.ntmps48
    go_wp2_with fail
    have hX : Below w.heap.size w ((w.alloc (.cells #[.slice D0 c.tasks.length e0, .slice D1 c.nodes.length e1, .slice D2 c.binds.length e2] 39)).alloc (.cells #[.int .i64 0, .int .i64 0, .int .i64 0] 43)) := (by repeat' (first | exact Below.refl _ _ | refine Below.alloc ?_ ?_ _ | refine Below.setCell ?_ ?_ _ | refine Below.drew ?_ | (apply below_step; assumption) | (simp; done) | (simp; omega) | omega))
    refine (HOK.out _ (HC.out.below hX)).mono ?_
    rintro e w2 ⟨rfl, hb2⟩
    have hC2 := below_of hX hb2
    have BR : BlockIs w2 (w.heap.size + 1) 43 #[.int .i64 0, .int .i64 0, .int .i64 0] := (BlockIs.new' (by simp)).below hb2 (by simp)
    have r0 := BR.cell 0
    have r1 := BR.cell 1
    have r2 := BR.cell 2
    have rf := BR.frozen
    simp at r0 r1 r2
    have HBR := Lib.hid BR
    clear BR hb2 hX
    go_wp2_with fail
    have hZ := res_put HBR.out RV.zero
    have hX' := res_below (u := .int .i64 RV.zero.c) (v := .int .i64 RV.zero.m) (x := .int .i64 RV.zero.p) hC2 (g := w.heap.size + 1) (by omega)
    simp only [RV.zero] at hZ hX'
    generalize (((w2.setCell ⟨w.heap.size + 1, 0, none⟩ (.int .i64 0)).setCell ⟨w.heap.size + 1, 1, none⟩ (.int .i64 0)).setCell ⟨w.heap.size + 1, 2, none⟩ (.int .i64 0)) = Y at hZ hX' ⊢
    have z0 := hZ.cell 0
    have z1 := hZ.cell 1
    have z2 := hZ.cell 2
    simp at z0 z1 z2
    exact bodyPost_ret (v := .tuple #[.agg #[.int .i64 RV.zero.c, .int .i64 RV.zero.m, .int .i64 RV.zero.p], .bool false]) (by simp [results, Tryz.results48, go_sem, z0, z1, z2, RV.zero]) rfl ⟨by rw [HR.out] <;> simp, hX'⟩
  · cases hn : fstBy NV.id c.nodes z with
    | none =>
      rw [idxBy_none hn] at hix
      rw [hn] at hG
      have HIX := Lib.hid hix
      have HR := Lib.hid hG
      clear hix hok hG hc hF hus ho hn hGo
      go_enter Tryz.func48, Tryz.ntmps48
      go_wp2_with fail
      have hX : Below w.heap.size w ((w.alloc (.cells #[.slice D0 c.tasks.length e0, .slice D1 c.nodes.length e1, .slice D2 c.binds.length e2] 39)).alloc (.cells #[.int .i64 0, .int .i64 0, .int .i64 0] 43)) := (by repeat' (first | exact Below.refl _ _ | refine Below.alloc ?_ ?_ _ | refine Below.setCell ?_ ?_ _ | refine Below.drew ?_ | (apply below_step; assumption) | (simp; done) | (simp; omega) | omega))
      refine (HOK.out _ (HC.out.below hX)).mono ?_
      rintro e w2 ⟨rfl, hb2⟩
      have hC2 := below_of hX hb2
      have BC : BlockIs w2 w.heap.size 39 #[.slice D0 c.tasks.length e0, .slice D1 c.nodes.length e1, .slice D2 c.binds.length e2] := ((BlockIs.new w _ _).alloc _).below hb2 (by simp; omega)
      have BR : BlockIs w2 (w.heap.size + 1) 43 #[.int .i64 0, .int .i64 0, .int .i64 0] := (BlockIs.new' (by simp)).below hb2 (by simp)
      have g0 := BC.cell 0
      have g1 := BC.cell 1
      have g2 := BC.cell 2
      simp at g0 g1 g2
      have HBR := Lib.hid BR
      clear BC BR hb2 hX
      go_wp2_with fail
      refine (HIX.out _ hC2).mono ?_
      rintro e w3 ⟨rfl, hb3⟩
      have hC3 := below_of hC2 hb3
      have BR := HBR.out.below hb3 HBR.out.lt
      have r0 := BR.cell 0
      have r1 := BR.cell 1
      have r2 := BR.cell 2
      have rf := BR.frozen
      simp at r0 r1 r2
      have HBR3 := Lib.hid BR
      clear BR hb3
      go_wp2_with fail
      have hZ := res_put HBR3.out RV.zero
      have hX' := res_below (u := .int .i64 RV.zero.c) (v := .int .i64 RV.zero.m) (x := .int .i64 RV.zero.p) hC3 (g := w.heap.size + 1) (by omega)
      simp only [RV.zero] at hZ hX'
      generalize (((w3.setCell ⟨w.heap.size + 1, 0, none⟩ (.int .i64 0)).setCell ⟨w.heap.size + 1, 1, none⟩ (.int .i64 0)).setCell ⟨w.heap.size + 1, 2, none⟩ (.int .i64 0)) = Y at hZ hX' ⊢
      have z0 := hZ.cell 0
      have z1 := hZ.cell 1
      have z2 := hZ.cell 2
      simp at z0 z1 z2
      exact bodyPost_ret (v := .tuple #[.agg #[.int .i64 RV.zero.c, .int .i64 RV.zero.m, .int .i64 RV.zero.p], .bool false]) (by simp [results, Tryz.results48, go_sem, z0, z1, z2, RV.zero]) rfl ⟨by rw [HR.out] <;> simp, hX'⟩
    | some n =>
      obtain ⟨j, hj, _⟩ := idxBy_some hn
      rw [hj] at hix
      have hr := hus ho n hn
      have hv := hGo ho n hn
      generalize resSub n.cap (usedOf c z).1 = u at hr hv
      have HIX := Lib.hid hix
      have HUS := Lib.hid hr
      have HR := Lib.hid hv
      clear hix hok hG hc hF hus ho hn hj hGo hr hv
      have hnn : decide ((j : Int) < 0) = false := by simp
      go_enter Tryz.func48, Tryz.ntmps48
      go_wp2_with fail
      have hX : Below w.heap.size w ((w.alloc (.cells #[.slice D0 c.tasks.length e0, .slice D1 c.nodes.length e1, .slice D2 c.binds.length e2] 39)).alloc (.cells #[.int .i64 0, .int .i64 0, .int .i64 0] 43)) := (by repeat' (first | exact Below.refl _ _ | refine Below.alloc ?_ ?_ _ | refine Below.setCell ?_ ?_ _ | refine Below.drew ?_ | (apply below_step; assumption) | (simp; done) | (simp; omega) | omega))
      refine (HOK.out _ (HC.out.below hX)).mono ?_
      rintro e w2 ⟨rfl, hb2⟩
      have hC2 := below_of hX hb2
      have BC : BlockIs w2 w.heap.size 39 #[.slice D0 c.tasks.length e0, .slice D1 c.nodes.length e1, .slice D2 c.binds.length e2] := ((BlockIs.new w _ _).alloc _).below hb2 (by simp; omega)
      have BR : BlockIs w2 (w.heap.size + 1) 43 #[.int .i64 0, .int .i64 0, .int .i64 0] := (BlockIs.new' (by simp)).below hb2 (by simp)
      have g0 := BC.cell 0
      have g1 := BC.cell 1
      have g2 := BC.cell 2
      simp at g0 g1 g2
      have HBR := Lib.hid BR
      have HBC := Lib.hid BC
      clear BC BR hb2 hX
      go_wp2_with fail
      refine (HIX.out _ hC2).mono ?_
      rintro e w3 ⟨rfl, hb3⟩
      have hC3 := below_of hC2 hb3
      have BC := HBC.out.below hb3 HBC.out.lt
      have g0 := BC.cell 0
      have g1 := BC.cell 1
      have g2 := BC.cell 2
      simp at g0 g1 g2
      have HBR3 := Lib.hid (HBR.out.below hb3 HBR.out.lt)
      clear BC hb3 HBR
      go_wp2_with fail
      refine (HUS.out _ (HC.out.below hC3)).mono ?_
      rintro e w4 ⟨rfl, hb4⟩
      have hC4 := below_of hC3 hb4
      have BR := HBR3.out.below hb4 HBR3.out.lt
      have r0 := BR.cell 0
      have r1 := BR.cell 1
      have r2 := BR.cell 2
      have rf := BR.frozen
      simp at r0 r1 r2
      have HBR4 := Lib.hid BR
      clear BR hb4
      go_wp2_with fail
      have hZ := res_put HBR4.out u
      have hX' := res_below (u := .int .i64 u.c) (v := .int .i64 u.m) (x := .int .i64 u.p) hC4 (g := w.heap.size + 1) (by omega)
      generalize (((w4.setCell ⟨w.heap.size + 1, 0, none⟩ (.int .i64 u.c)).setCell ⟨w.heap.size + 1, 1, none⟩ (.int .i64 u.m)).setCell ⟨w.heap.size + 1, 2, none⟩ (.int .i64 u.p)) = Y at hZ hX' ⊢
      have z0 := hZ.cell 0
      have z1 := hZ.cell 1
      have z2 := hZ.cell 2
      simp at z0 z1 z2
      exact bodyPost_ret (v := .tuple #[.agg #[.int .i64 u.c, .int .i64 u.m, .int .i64 u.p], .bool true]) (by simp [results, Tryz.results48, go_sem, z0, z1, z2]) rfl ⟨by rw [HR.out] <;> simp, hX'⟩
end Go.Proofs.YtflcacbpceinaaaGreatDoor
