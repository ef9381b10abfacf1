/- The contracts of Used, Free, NodeOf and of their models. -/
import Derived.Test.YtnjmnocehmoeaaaGreatDoorCluSOk
namespace Go.Proofs.YtnjmnocehmoeaaaGreatDoor
open Go.RowKit

def usedG (c : CV) (z : Int) : RV × Bool := if clusterOk c && (fstBy NV.id c.nodes z).isSome then usedOf c z else (RV.zero, false)
def freeG (c : CV) (z : Int) : RV × Bool := match fstBy NV.id c.nodes z with
  | some n => if clusterOk c then freeOf c n else (RV.zero, false)
  | none => (RV.zero, false)
def nodeOfB (c : CV) (z : Int) : Int := ((fstBy BV.task c.binds z).getD BV.zero).node
def nodeOfG (c : CV) (z : Int) : Int := if clusterOk c then nodeOfB c z else 0
theorem fitsAll_mem {c : CV} {l : List NV} (h : fitsAll c l = true) {n : NV} (hn : n ∈ l) : (freeOf c n).2 = true := by
  induction l with
  | nil => cases hn
  | cons x r ih =>
    simp only [fitsAll, Bool.and_eq_true] at h
    rcases List.mem_cons.1 hn with rfl | hn
    · exact h.1
    · exact ih h.2 hn
theorem clusterOk_fits {c : CV} (h : clusterOk c = true) : fitsAll c c.nodes = true := by simp only [clusterOk, Bool.and_eq_true] at h; exact h.2
theorem clusterOk_binds {c : CV} (h : clusterOk c = true) : bindsFrom c 0 c.binds = true := by simp only [clusterOk, Bool.and_eq_true] at h; exact h.1.2
theorem freeOf_ok {c : CV} {n : NV} (h : (freeOf c n).2 = true) : freeOf c n = (resSub n.cap (usedOf c n.id).1, true) := by
  unfold freeOf at h ⊢
  split
  · rename_i hu; rw [if_pos hu] at h; simp only at h; rw [h]
  · rename_i hu; rw [if_neg hu] at h; cases h
theorem freeG_ok {c : CV} {z : Int} {n : NV} (h : clusterOk c = true) (hn : fstBy NV.id c.nodes z = some n) : freeG c z = (resSub n.cap (usedOf c z).1, true) := by
  have hz := fstBy_key hn
  unfold freeG
  rw [hn]
  simp only [h, if_true]
  rw [freeOf_ok (fitsAll_mem (clusterOk_fits h) (fstBy_mem hn)), hz]

/-- The last rows of a function that hands back an amount out of its result block g. -/
theorem res_put {w : World} {g : Nat} {t : TypeId} {a b c : Value} (h : BlockIs w g t #[a, b, c]) (r : RV) : BlockIs (((w.setCell ⟨g, 0, none⟩ (.int .i64 r.c)).setCell ⟨g, 1, none⟩ (.int .i64 r.m)).setCell ⟨g, 2, none⟩ (.int .i64 r.p)) g t #[.int .i64 r.c, .int .i64 r.m, .int .i64 r.p] := by
  simpa using ((h.put 0 (.int .i64 r.c)).put 1 (.int .i64 r.m)).put 2 (.int .i64 r.p)
theorem res_below {B : Nat} {a w : World} {g : Nat} (h : Below B a w) (hg : B ≤ g) (u v x : Value) : Below B a (((w.setCell ⟨g, 0, none⟩ (u)).setCell ⟨g, 1, none⟩ (v)).setCell ⟨g, 2, none⟩ (x)) := ((h.setCell hg _).setCell hg _).setCell hg _

set_option maxHeartbeats 1600000 in
theorem NodeOf_any (c : CV) (a0 a1 a2 : Value) (z : Int) (w : World) (x : Addr) (hg : ErrAt x w) (hc : CluR w c a0 a1 a2) :
    Calls Tryz.prog 7 #[.agg #[a0, a1, a2], .int .i64 z] w fun e w' => e = .returned (.int .i64 (nodeOfG c z)) ∧ Below w.heap.size w w' := by
  have hfind := fun w1 hw1 => findBind_any c a0 a1 a2 z w w1 hw1 hc
  have hok := fun w1 hg1 h => ClusterOk_any c a0 a1 a2 w1 x hg1 h
  have hG : nodeOfG c z = if clusterOk c then ((fstBy BV.task c.binds z).getD BV.zero).node else 0 := rfl
  generalize fstBy BV.task c.binds z = o at hfind hG
  generalize clusterOk c = ok at hok hG
  obtain ⟨D0, D1, D2, e0, e1, e2, rfl, rfl, rfl, hF⟩ := hc.full
  have HC := Lib.hid hc
  have HFI := Lib.hid hfind
  have HOK := Lib.hid hok
  have HR := Lib.hid hG
  have HG := Lib.hid hg
  clear hfind hok hG hg hc hF
  go_enter Tryz.func7, Tryz.ntmps7
  go_wp2_with fail
  have hX : Below w.heap.size w (w.alloc (.cells #[.slice D0 c.tasks.length e0, .slice D1 c.nodes.length e1, .slice D2 c.binds.length e2] 33)) := (by repeat' (first | exact Below.refl _ _ | refine Below.alloc ?_ ?_ _ | refine Below.setCell ?_ ?_ _ | refine Below.drew ?_ | (apply below_step; assumption) | (simp; done) | (simp; omega) | omega))
  refine (HOK.out _ (HG.out.below hX (Nat.le_refl _)) (HC.out.below hX)).mono ?_
  rintro e w2 ⟨rfl, hb2⟩
  have hC2 := below_of hX hb2
  have BC : BlockIs w2 w.heap.size 33 #[.slice D0 c.tasks.length e0, .slice D1 c.nodes.length e1, .slice D2 c.binds.length e2] := (BlockIs.new w _ _).below hb2 (by simp)
  have g0 := BC.cell 0
  have g1 := BC.cell 1
  have g2 := BC.cell 2
  simp at g0 g1 g2
  clear BC hb2 hX
  cases ok
  · go_wp2_with fail
    go_ret
    exact ⟨by rw [HR.out] <;> simp, hC2⟩
  · go_wp2_with fail
    refine (HFI.out _ hC2).mono ?_
    rintro e w3 ⟨cs, rfl, hR, hb3⟩
    have hC3 := below_of hC2 hb3
    have hz3 := hC3.size
    have HR' := Lib.hid (show nodeOfG c z = (o.getD BV.zero).node from HR.out)
    generalize o.getD BV.zero = t at hR HR'
    obtain rfl := hR
    go_wp2_with fail
    go_ret
    exact ⟨by rw [HR'.out]; simp, hC3.alloc (by omega) _⟩
set_option maxHeartbeats 1600000 in
theorem sOf_any (c : CV) (a0 a1 a2 : Value) (z : Int) (w : World) (hc : CluR w c a0 a1 a2) :
    Calls Tryz.prog 13 #[.agg #[a0, a1, a2], .int .i64 z] w fun e w' => e = .returned (.int .i64 (nodeOfB c z)) ∧ Below w.heap.size w w' := by
  have hix := fun w1 hw1 => sBind_any c a0 a1 a2 z w w1 hw1 hc
  have hG : nodeOfB c z = ((fstBy BV.task c.binds z).getD BV.zero).node := rfl
  obtain ⟨D0, D1, D2, e0, e1, e2, rfl, rfl, rfl, hF⟩ := hc.full
  cases hn : fstBy BV.task c.binds z with
  | none =>
    rw [idxBy_none hn] at hix
    rw [hn] at hG
    have HIX := Lib.hid hix
    have HR := Lib.hid hG
    clear hix hG hc hF hn
    go_enter Tryz.func13, Tryz.ntmps13
    go_wp2_with fail
    have hX : Below w.heap.size w (w.alloc (.cells #[.slice D0 c.tasks.length e0, .slice D1 c.nodes.length e1, .slice D2 c.binds.length e2] 33)) := (by repeat' (first | exact Below.refl _ _ | refine Below.alloc ?_ ?_ _ | refine Below.setCell ?_ ?_ _ | refine Below.drew ?_ | (apply below_step; assumption) | (simp; done) | (simp; omega) | omega))
    refine (HIX.out _ hX).mono ?_
    rintro e w2 ⟨rfl, hb2⟩
    go_wp2_with fail
    go_ret
    exact ⟨by rw [HR.out]; rfl, below_of hX hb2⟩
  | some t =>
    obtain ⟨j, hj, hjt, hkz, hmn⟩ := idxBy_some hn
    clear hkz hmn
    rw [hj] at hix
    rw [hn] at hG
    have HIX := Lib.hid hix
    have HR := Lib.hid (show nodeOfB c z = t.node from hG)
    have hjl : j < c.binds.length := (List.getElem?_eq_some_iff.1 hjt).1
    have l2 := hF.l2
    obtain ⟨bb, ob, rfl, hbw, hat⟩ := hF.hb (by omega)
    obtain ⟨cs, hR, hC⟩ := hat j t hjt
    obtain rfl := hR
    have HCC := Lib.hid hC
    have hnn : decide ((j : Int) < 0) = false := by simp
    have hji : (j : Int) < (c.binds.length : Int) := by omega
    have hj0 : (0 : Int) ≤ (j : Int) := by omega
    clear hix hG hc hF hn hj hjt hat hC
    go_enter Tryz.func13, Tryz.ntmps13
    go_wp2_with fail
    have hX : Below w.heap.size w (w.alloc (.cells #[.slice D0 c.tasks.length e0, .slice D1 c.nodes.length e1, .slice (some ⟨bb, ob, none⟩) c.binds.length e2] 33)) := (by repeat' (first | exact Below.refl _ _ | refine Below.alloc ?_ ?_ _ | refine Below.setCell ?_ ?_ _ | refine Below.drew ?_ | (apply below_step; assumption) | (simp; done) | (simp; omega) | omega))
    refine (HIX.out _ hX).mono ?_
    rintro e w2 ⟨rfl, hb2⟩
    have hC2 := below_of hX hb2
    have BC : BlockIs w2 w.heap.size 33 #[.slice D0 c.tasks.length e0, .slice D1 c.nodes.length e1, .slice (some ⟨bb, ob, none⟩) c.binds.length e2] := (BlockIs.new w _ _).below hb2 (by simp)
    have g2 := BC.cell 2
    simp at g2
    obtain ⟨q0, q1⟩ := bind_cells (HCC.out.below hC2 hbw)
    clear BC hb2 hX
    go_wp2_with fail
    go_ret
    exact ⟨by rw [HR.out]; rfl, hC2⟩
set_option maxHeartbeats 1600000 in
theorem sNodeOf_any (c : CV) (a0 a1 a2 : Value) (z : Int) (w : World) (hc : CluR w c a0 a1 a2) :
    Calls Tryz.prog 5 #[.agg #[a0, a1, a2], .int .i64 z] w fun e w' => e = .returned (.int .i64 (nodeOfG c z)) ∧ Below w.heap.size w w' := by
  have hof := fun w1 h => sOf_any c a0 a1 a2 z w1 h
  have hok := fun w1 h => sClusterOk_any c a0 a1 a2 w1 h
  have hG : nodeOfG c z = if clusterOk c then nodeOfB c z else 0 := rfl
  generalize nodeOfB c z = m at hof hG
  generalize clusterOk c = ok at hok hG
  obtain ⟨D0, D1, D2, e0, e1, e2, rfl, rfl, rfl, hF⟩ := hc.full
  have HC := Lib.hid hc
  have HOF := Lib.hid hof
  have HOK := Lib.hid hok
  have HR := Lib.hid hG
  clear hof hok hG hc hF
  go_enter Tryz.func5, Tryz.ntmps5
  go_wp2_with fail
  have hX : Below w.heap.size w (w.alloc (.cells #[.slice D0 c.tasks.length e0, .slice D1 c.nodes.length e1, .slice D2 c.binds.length e2] 33)) := (by repeat' (first | exact Below.refl _ _ | refine Below.alloc ?_ ?_ _ | refine Below.setCell ?_ ?_ _ | refine Below.drew ?_ | (apply below_step; assumption) | (simp; done) | (simp; omega) | omega))
  refine (HOK.out _ (HC.out.below hX)).mono ?_
  rintro e w2 ⟨rfl, hb2⟩
  have hC2 := below_of hX hb2
  have BC : BlockIs w2 w.heap.size 33 #[.slice D0 c.tasks.length e0, .slice D1 c.nodes.length e1, .slice D2 c.binds.length e2] := (BlockIs.new w _ _).below hb2 (by simp)
  have g0 := BC.cell 0
  have g1 := BC.cell 1
  have g2 := BC.cell 2
  simp at g0 g1 g2
  clear BC hb2 hX
  cases ok
  · go_wp2_with fail
    go_ret
    exact ⟨by rw [HR.out] <;> simp, hC2⟩
  · go_wp2_with fail
    refine (HOF.out _ (HC.out.below hC2)).mono ?_
    rintro e w3 ⟨rfl, hb3⟩
    go_wp2_with fail
    go_ret
    exact ⟨by rw [HR.out] <;> simp, below_of hC2 hb3⟩
end Go.Proofs.YtnjmnocehmoeaaaGreatDoor
