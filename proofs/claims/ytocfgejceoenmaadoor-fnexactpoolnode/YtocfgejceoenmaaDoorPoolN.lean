/- The contracts of shaped, PoolNode and their models; markPool. -/
import Derived.Test.YtocfgejceoenmaaDoorPoolTo
import Derived.Test.YtocfgejceoenmaaDoorCopyI
import Derived.Test.YtocfgejceoenmaaDoorMgMark
import Derived.Test.YtocfgejceoenmaaDoorMarkN
namespace Go.Proofs.YtocfgejceoenmaaDoor
open Go.RowKit

def poolNodeG (p : PV) (z : Int) : NV × Bool := if p.ok && idOk z then ({ p.shape with id := z }, true) else (NV.zero, false)
theorem poolNodeG_yes {p : PV} {z : Int} (h : p.ok = true) (k : idOk z = true) : poolNodeG p z = ({ p.shape with id := z }, true) := by unfold poolNodeG; rw [h, k]; rfl
theorem poolNodeG_bad {p : PV} {z : Int} (h : p.ok = false) : poolNodeG p z = (NV.zero, false) := by unfold poolNodeG; rw [h]; rfl
theorem poolNodeG_no {p : PV} {z : Int} (h : p.ok = true) (k : idOk z = false) : poolNodeG p z = (NV.zero, false) := by unfold poolNodeG; rw [h, k]; rfl
/-- The ending 'a node of the call's own, and whether'. -/
def RetNodeB (w : World) (t : NV) (b : Bool) (e : Ending) (w' : World) : Prop := ∃ ds bs, e = .returned (.tuple #[.agg ds.toArray, .bool b]) ∧ NodeO w' t ds bs ∧ bs.Nodup ∧ (∀ b ∈ bs, w.heap.size ≤ b) ∧ Below w.heap.size w w'
theorem NodeO.zero (w : World) : NodeO w NV.zero [.int .i64 0, .int .i64 0, .int .i64 0, .int .i64 0, .int .i64 0, .slice none 0 0, .slice none 0 0, .bool false] [] := ⟨_, _, rfl, by simpa [NV.zero, LabO, labL] using World.ownsRow_nil _ _ _ _, by simpa [NV.zero, IntO, intL] using World.ownsRow_nil _ _ _ _, rfl, by simp [NV.zero], by simp [NV.zero]⟩
set_option maxHeartbeats 1600000 in
theorem shaped_any (p : PV) (v1 v2 : Value) (z : Int) (w : World) (h1 : LabSl w v1 p.shape.labs) (h2 : IntSl w v2 p.shape.taints) (l1 : p.shape.labs.length ≤ 1048576) (l2 : p.shape.taints.length ≤ 1048576) :
    Calls Tryd.prog 29 #[.agg #[.int .i64 p.id, .int .i64 p.min, .int .i64 p.max, .int .i64 p.prio, .int .i64 p.shape.id, .int .i64 p.shape.pool, .int .i64 p.shape.cap.c, .int .i64 p.shape.cap.m, .int .i64 p.shape.cap.p, v1, v2, .bool p.shape.cordon], .int .i64 z] w (RetO NodeO w { p.shape with id := z }) := by
  have hcp := fun w1 (hb : Below w.heap.size w w1) => copyNode_any p.shape _ w1 ⟨v1, v2, rfl, h1.below hb, h2.below hb, l1, l2⟩
  have HCP := Lib.hid hcp
  clear hcp h1 h2 l1 l2
  go_enter Tryd.func29, Tryd.ntmps29
  go_wp2_with fail
  have hX : Below w.heap.size w ((w.alloc (.cells #[.int .i64 p.id, .int .i64 p.min, .int .i64 p.max, .int .i64 p.prio, .int .i64 p.shape.id, .int .i64 p.shape.pool, .int .i64 p.shape.cap.c, .int .i64 p.shape.cap.m, .int .i64 p.shape.cap.p, v1, v2, .bool p.shape.cordon] 37)).alloc (.cells #[.int .i64 0, .int .i64 0, .int .i64 0, .int .i64 0, .int .i64 0, .slice none 0 0, .slice none 0 0, .bool false] 35)) := (by repeat' (first | exact Below.refl _ _ | refine Below.alloc ?_ ?_ _ | refine Below.setCell ?_ ?_ _ | refine Below.drew ?_ | (apply below_step; assumption) | (simp; done) | (simp; omega) | omega))
  refine (HCP.out _ hX).mono ?_
  rintro e w1 ⟨ds, bs, rfl, hO, hnd, hlo, hb1⟩
  have hC1 := below_of hX hb1
  have hz1 := hb1.size
  simp at hz1
  have hlt := hO.lt
  have BR : BlockIs w1 (w.heap.size + 1) 35 #[.int .i64 0, .int .i64 0, .int .i64 0, .int .i64 0, .int .i64 0, .slice none 0 0, .slice none 0 0, .bool false] := (BlockIs.new' (by simp)).below hb1 (by simp)
  have hlo' : ∀ b ∈ bs, w.heap.size + 2 ≤ b := fun b hb => by have := hlo b hb; simpa using this
  have HO := Lib.hid (And.intro hO (And.intro hnd (And.intro hlt hlo')))
  obtain ⟨y1, y2, rfl, n1, n2, -⟩ := hO
  obtain ⟨E1, d1, rfl, -⟩ := own_form n1
  obtain ⟨E2, d2, rfl, -⟩ := own_form n2
  have r0 := BR.cell 0
  have r1 := BR.cell 1
  have r2 := BR.cell 2
  have r3 := BR.cell 3
  have r4 := BR.cell 4
  have r5 := BR.cell 5
  have r6 := BR.cell 6
  have r7 := BR.cell 7
  have rf := BR.frozen
  simp at r0 r1 r2 r3 r4 r5 r6 r7
  have HBR := Lib.hid BR
  have hor : w1.heap.size ≠ w.heap.size + 1 := by omega
  clear n1 n2 hnd hlo hlo' hlt hb1 hX BR r0 r1 r2 r3 r4 r5 r6 r7 rf
  go_upto_region 2 with fail
  have hY : Below w1.heap.size w1 (w1.alloc (.cells #[.int .i64 p.shape.id, .int .i64 p.shape.pool, .int .i64 p.shape.cap.c, .int .i64 p.shape.cap.m, .int .i64 p.shape.cap.p, .slice E1 p.shape.labs.length d1, .slice E2 p.shape.taints.length d2, .bool p.shape.cordon] 35)) := (by repeat' (first | exact Below.refl _ _ | refine Below.alloc ?_ ?_ _ | refine Below.setCell ?_ ?_ _ | refine Below.drew ?_ | (apply below_step; assumption) | (simp; done) | (simp; omega) | omega))
  have BN : BlockIs (w1.alloc (.cells #[.int .i64 p.shape.id, .int .i64 p.shape.pool, .int .i64 p.shape.cap.c, .int .i64 p.shape.cap.m, .int .i64 p.shape.cap.p, .slice E1 p.shape.labs.length d1, .slice E2 p.shape.taints.length d2, .bool p.shape.cordon] 35)) w1.heap.size 35 #[.int .i64 p.shape.id, .int .i64 p.shape.pool, .int .i64 p.shape.cap.c, .int .i64 p.shape.cap.m, .int .i64 p.shape.cap.p, .slice E1 p.shape.labs.length d1, .slice E2 p.shape.taints.length d2, .bool p.shape.cordon] := BlockIs.new _ _ _
  have BY := HBR.out.alloc (.cells #[.int .i64 p.shape.id, .int .i64 p.shape.pool, .int .i64 p.shape.cap.c, .int .i64 p.shape.cap.m, .int .i64 p.shape.cap.p, .slice E1 p.shape.labs.length d1, .slice E2 p.shape.taints.length d2, .bool p.shape.cordon] 35)
  have hYz : w1.heap.size < (w1.alloc (.cells #[.int .i64 p.shape.id, .int .i64 p.shape.pool, .int .i64 p.shape.cap.c, .int .i64 p.shape.cap.m, .int .i64 p.shape.cap.p, .slice E1 p.shape.labs.length d1, .slice E2 p.shape.taints.length d2, .bool p.shape.cordon] 35)).heap.size := by simp
  generalize w1.alloc (.cells #[.int .i64 p.shape.id, .int .i64 p.shape.pool, .int .i64 p.shape.cap.c, .int .i64 p.shape.cap.m, .int .i64 p.shape.cap.p, .slice E1 p.shape.labs.length d1, .slice E2 p.shape.taints.length d2, .bool p.shape.cordon] 35) = Y at hY BN BY hYz ⊢
  have n0 := BN.cell 0
  have n1 := BN.cell 1
  have n2 := BN.cell 2
  have n3 := BN.cell 3
  have n4 := BN.cell 4
  have n5 := BN.cell 5
  have n6 := BN.cell 6
  have n7 := BN.cell 7
  have r0 := BY.cell 0
  have r1 := BY.cell 1
  have r2 := BY.cell 2
  have r3 := BY.cell 3
  have r4 := BY.cell 4
  have r5 := BY.cell 5
  have r6 := BY.cell 6
  have r7 := BY.cell 7
  have nf := BN.frozen
  have rf := BY.frozen
  simp at n0 r0 n1 r1 n2 r2 n3 r3 n4 r4 n5 r5 n6 r6 n7 r7
  have HYY := Lib.hid (And.intro hY BY)
  clear hY BN BY
  go_wp2_with fail
  have hZ : BlockIs (((((((((Y.setCell ⟨w1.heap.size, 0, none⟩ (.int .i64 z)).setCell ⟨w.heap.size + 1, 0, none⟩ (.int .i64 z)).setCell ⟨w.heap.size + 1, 1, none⟩ (.int .i64 p.shape.pool)).setCell ⟨w.heap.size + 1, 2, none⟩ (.int .i64 p.shape.cap.c)).setCell ⟨w.heap.size + 1, 3, none⟩ (.int .i64 p.shape.cap.m)).setCell ⟨w.heap.size + 1, 4, none⟩ (.int .i64 p.shape.cap.p)).setCell ⟨w.heap.size + 1, 5, none⟩ (.slice E1 p.shape.labs.length d1)).setCell ⟨w.heap.size + 1, 6, none⟩ (.slice E2 p.shape.taints.length d2)).setCell ⟨w.heap.size + 1, 7, none⟩ (.bool p.shape.cordon)) (w.heap.size + 1) 35 #[.int .i64 z, .int .i64 p.shape.pool, .int .i64 p.shape.cap.c, .int .i64 p.shape.cap.m, .int .i64 p.shape.cap.p, .slice E1 p.shape.labs.length d1, .slice E2 p.shape.taints.length d2, .bool p.shape.cordon] := by
    have := (HYY.out.2.far (p := ⟨w1.heap.size, 0, none⟩) (by dsimp only; omega) (.int .i64 z)).putAll (o := 0) (ds := [.int .i64 z, .int .i64 p.shape.pool, .int .i64 p.shape.cap.c, .int .i64 p.shape.cap.m, .int .i64 p.shape.cap.p, .slice E1 p.shape.labs.length d1, .slice E2 p.shape.taints.length d2, .bool p.shape.cordon])
    have e : setAll #[.int .i64 0, .int .i64 0, .int .i64 0, .int .i64 0, .int .i64 0, .slice none 0 0, .slice none 0 0, .bool false] 0 [.int .i64 z, .int .i64 p.shape.pool, .int .i64 p.shape.cap.c, .int .i64 p.shape.cap.m, .int .i64 p.shape.cap.p, .slice E1 p.shape.labs.length d1, .slice E2 p.shape.taints.length d2, .bool p.shape.cordon] = #[.int .i64 z, .int .i64 p.shape.pool, .int .i64 p.shape.cap.c, .int .i64 p.shape.cap.m, .int .i64 p.shape.cap.p, .slice E1 p.shape.labs.length d1, .slice E2 p.shape.taints.length d2, .bool p.shape.cordon] := by simp [setAll]
    rw [e] at this
    exact this
  have hT : TurnB [w1.heap.size, w.heap.size + 1] Y (((((((((Y.setCell ⟨w1.heap.size, 0, none⟩ (.int .i64 z)).setCell ⟨w.heap.size + 1, 0, none⟩ (.int .i64 z)).setCell ⟨w.heap.size + 1, 1, none⟩ (.int .i64 p.shape.pool)).setCell ⟨w.heap.size + 1, 2, none⟩ (.int .i64 p.shape.cap.c)).setCell ⟨w.heap.size + 1, 3, none⟩ (.int .i64 p.shape.cap.m)).setCell ⟨w.heap.size + 1, 4, none⟩ (.int .i64 p.shape.cap.p)).setCell ⟨w.heap.size + 1, 5, none⟩ (.slice E1 p.shape.labs.length d1)).setCell ⟨w.heap.size + 1, 6, none⟩ (.slice E2 p.shape.taints.length d2)).setCell ⟨w.heap.size + 1, 7, none⟩ (.bool p.shape.cordon)) := ((TurnB.refl _ _).put (by simp) _ _).putAll (o := 0) (ds := [.int .i64 z, .int .i64 p.shape.pool, .int .i64 p.shape.cap.c, .int .i64 p.shape.cap.m, .int .i64 p.shape.cap.p, .slice E1 p.shape.labs.length d1, .slice E2 p.shape.taints.length d2, .bool p.shape.cordon]) (by simp)
  have hCY := below_of hC1 HYY.out.1
  have hB : Below w.heap.size w (((((((((Y.setCell ⟨w1.heap.size, 0, none⟩ (.int .i64 z)).setCell ⟨w.heap.size + 1, 0, none⟩ (.int .i64 z)).setCell ⟨w.heap.size + 1, 1, none⟩ (.int .i64 p.shape.pool)).setCell ⟨w.heap.size + 1, 2, none⟩ (.int .i64 p.shape.cap.c)).setCell ⟨w.heap.size + 1, 3, none⟩ (.int .i64 p.shape.cap.m)).setCell ⟨w.heap.size + 1, 4, none⟩ (.int .i64 p.shape.cap.p)).setCell ⟨w.heap.size + 1, 5, none⟩ (.slice E1 p.shape.labs.length d1)).setCell ⟨w.heap.size + 1, 6, none⟩ (.slice E2 p.shape.taints.length d2)).setCell ⟨w.heap.size + 1, 7, none⟩ (.bool p.shape.cordon)) := hCY.trans (hT.below hCY.size (by simp; omega))
  generalize (((((((((Y.setCell ⟨w1.heap.size, 0, none⟩ (.int .i64 z)).setCell ⟨w.heap.size + 1, 0, none⟩ (.int .i64 z)).setCell ⟨w.heap.size + 1, 1, none⟩ (.int .i64 p.shape.pool)).setCell ⟨w.heap.size + 1, 2, none⟩ (.int .i64 p.shape.cap.c)).setCell ⟨w.heap.size + 1, 3, none⟩ (.int .i64 p.shape.cap.m)).setCell ⟨w.heap.size + 1, 4, none⟩ (.int .i64 p.shape.cap.p)).setCell ⟨w.heap.size + 1, 5, none⟩ (.slice E1 p.shape.labs.length d1)).setCell ⟨w.heap.size + 1, 6, none⟩ (.slice E2 p.shape.taints.length d2)).setCell ⟨w.heap.size + 1, 7, none⟩ (.bool p.shape.cordon)) = X at hZ hT hB ⊢
  have x0 := hZ.cell 0
  have x1 := hZ.cell 1
  have x2 := hZ.cell 2
  have x3 := hZ.cell 3
  have x4 := hZ.cell 4
  have x5 := hZ.cell 5
  have x6 := hZ.cell 6
  have x7 := hZ.cell 7
  simp at x0 x1 x2 x3 x4 x5 x6 x7
  obtain ⟨hO, hnd, hlt, hlo⟩ := HO.out
  have hN := NodeO.framed _ _ _ _ _ (NodeO.framed _ _ _ _ _ hO (Agree.of_below HYY.out.1 hlt)) (hT.agree (fun b hb => ⟨by have := hlt b hb; omega, by have := hlo b hb; have := hlt b hb; simp; omega⟩))
  obtain ⟨y1, y2, e, m1, m2, m3, m4⟩ := hN
  simp at e
  obtain ⟨rfl, rfl⟩ := e
  exact bodyPost_ret (v := .agg #[.int .i64 z, .int .i64 p.shape.pool, .int .i64 p.shape.cap.c, .int .i64 p.shape.cap.m, .int .i64 p.shape.cap.p, .slice E1 p.shape.labs.length d1, .slice E2 p.shape.taints.length d2, .bool p.shape.cordon]) (by simp [results, Tryd.results29, go_sem, x0, x1, x2, x3, x4, x5, x6, x7]) rfl ⟨[.int .i64 z, .int .i64 p.shape.pool, .int .i64 p.shape.cap.c, .int .i64 p.shape.cap.m, .int .i64 p.shape.cap.p, .slice E1 p.shape.labs.length d1, .slice E2 p.shape.taints.length d2, .bool p.shape.cordon], bs, rfl, ⟨_, _, rfl, m1, m2, m3, m4⟩, hnd, fun b hb => by have := hlo b hb; omega, hB⟩
set_option maxHeartbeats 1600000 in
theorem sNodeL5_any (p : PV) (v1 v2 : Value) (z : Int) (w : World) (h1 : LabSl w v1 p.shape.labs) (h2 : IntSl w v2 p.shape.taints) (l1 : p.shape.labs.length ≤ 1048576) (l2 : p.shape.taints.length ≤ 1048576) :
    Calls Tryd.prog 27 #[.agg #[.int .i64 p.id, .int .i64 p.min, .int .i64 p.max, .int .i64 p.prio, .int .i64 p.shape.id, .int .i64 p.shape.pool, .int .i64 p.shape.cap.c, .int .i64 p.shape.cap.m, .int .i64 p.shape.cap.p, v1, v2, .bool p.shape.cordon], .int .i64 z] w (RetO NodeO w { p.shape with id := z }) := by
  have hcp := fun w1 (hb : Below w.heap.size w w1) => sCopyNode_any p.shape _ w1 ⟨v1, v2, rfl, h1.below hb, h2.below hb, l1, l2⟩
  have HCP := Lib.hid hcp
  clear hcp h1 h2 l1 l2
  go_enter Tryd.func27, Tryd.ntmps27
  go_wp2_with fail
  have hX : Below w.heap.size w ((w.alloc (.cells #[.int .i64 p.id, .int .i64 p.min, .int .i64 p.max, .int .i64 p.prio, .int .i64 p.shape.id, .int .i64 p.shape.pool, .int .i64 p.shape.cap.c, .int .i64 p.shape.cap.m, .int .i64 p.shape.cap.p, v1, v2, .bool p.shape.cordon] 37)).alloc (.cells #[.int .i64 0, .int .i64 0, .int .i64 0, .int .i64 0, .int .i64 0, .slice none 0 0, .slice none 0 0, .bool false] 35)) := (by repeat' (first | exact Below.refl _ _ | refine Below.alloc ?_ ?_ _ | refine Below.setCell ?_ ?_ _ | refine Below.drew ?_ | (apply below_step; assumption) | (simp; done) | (simp; omega) | omega))
  refine (HCP.out _ hX).mono ?_
  rintro e w1 ⟨ds, bs, rfl, hO, hnd, hlo, hb1⟩
  have hC1 := below_of hX hb1
  have hz1 := hb1.size
  simp at hz1
  have hlt := hO.lt
  have BR : BlockIs w1 (w.heap.size + 1) 35 #[.int .i64 0, .int .i64 0, .int .i64 0, .int .i64 0, .int .i64 0, .slice none 0 0, .slice none 0 0, .bool false] := (BlockIs.new' (by simp)).below hb1 (by simp)
  have hlo' : ∀ b ∈ bs, w.heap.size + 2 ≤ b := fun b hb => by have := hlo b hb; simpa using this
  have HO := Lib.hid (And.intro hO (And.intro hnd (And.intro hlt hlo')))
  obtain ⟨y1, y2, rfl, n1, n2, -⟩ := hO
  obtain ⟨E1, d1, rfl, -⟩ := own_form n1
  obtain ⟨E2, d2, rfl, -⟩ := own_form n2
  have r0 := BR.cell 0
  have r1 := BR.cell 1
  have r2 := BR.cell 2
  have r3 := BR.cell 3
  have r4 := BR.cell 4
  have r5 := BR.cell 5
  have r6 := BR.cell 6
  have r7 := BR.cell 7
  have rf := BR.frozen
  simp at r0 r1 r2 r3 r4 r5 r6 r7
  have HBR := Lib.hid BR
  have hor : w1.heap.size ≠ w.heap.size + 1 := by omega
  clear n1 n2 hnd hlo hlo' hlt hb1 hX BR r0 r1 r2 r3 r4 r5 r6 r7 rf
  go_upto_region 2 with fail
  have hY : Below w1.heap.size w1 (w1.alloc (.cells #[.int .i64 p.shape.id, .int .i64 p.shape.pool, .int .i64 p.shape.cap.c, .int .i64 p.shape.cap.m, .int .i64 p.shape.cap.p, .slice E1 p.shape.labs.length d1, .slice E2 p.shape.taints.length d2, .bool p.shape.cordon] 35)) := (by repeat' (first | exact Below.refl _ _ | refine Below.alloc ?_ ?_ _ | refine Below.setCell ?_ ?_ _ | refine Below.drew ?_ | (apply below_step; assumption) | (simp; done) | (simp; omega) | omega))
  have BN : BlockIs (w1.alloc (.cells #[.int .i64 p.shape.id, .int .i64 p.shape.pool, .int .i64 p.shape.cap.c, .int .i64 p.shape.cap.m, .int .i64 p.shape.cap.p, .slice E1 p.shape.labs.length d1, .slice E2 p.shape.taints.length d2, .bool p.shape.cordon] 35)) w1.heap.size 35 #[.int .i64 p.shape.id, .int .i64 p.shape.pool, .int .i64 p.shape.cap.c, .int .i64 p.shape.cap.m, .int .i64 p.shape.cap.p, .slice E1 p.shape.labs.length d1, .slice E2 p.shape.taints.length d2, .bool p.shape.cordon] := BlockIs.new _ _ _
  have BY := HBR.out.alloc (.cells #[.int .i64 p.shape.id, .int .i64 p.shape.pool, .int .i64 p.shape.cap.c, .int .i64 p.shape.cap.m, .int .i64 p.shape.cap.p, .slice E1 p.shape.labs.length d1, .slice E2 p.shape.taints.length d2, .bool p.shape.cordon] 35)
  have hYz : w1.heap.size < (w1.alloc (.cells #[.int .i64 p.shape.id, .int .i64 p.shape.pool, .int .i64 p.shape.cap.c, .int .i64 p.shape.cap.m, .int .i64 p.shape.cap.p, .slice E1 p.shape.labs.length d1, .slice E2 p.shape.taints.length d2, .bool p.shape.cordon] 35)).heap.size := by simp
  generalize w1.alloc (.cells #[.int .i64 p.shape.id, .int .i64 p.shape.pool, .int .i64 p.shape.cap.c, .int .i64 p.shape.cap.m, .int .i64 p.shape.cap.p, .slice E1 p.shape.labs.length d1, .slice E2 p.shape.taints.length d2, .bool p.shape.cordon] 35) = Y at hY BN BY hYz ⊢
  have n0 := BN.cell 0
  have n1 := BN.cell 1
  have n2 := BN.cell 2
  have n3 := BN.cell 3
  have n4 := BN.cell 4
  have n5 := BN.cell 5
  have n6 := BN.cell 6
  have n7 := BN.cell 7
  have r0 := BY.cell 0
  have r1 := BY.cell 1
  have r2 := BY.cell 2
  have r3 := BY.cell 3
  have r4 := BY.cell 4
  have r5 := BY.cell 5
  have r6 := BY.cell 6
  have r7 := BY.cell 7
  have nf := BN.frozen
  have rf := BY.frozen
  simp at n0 r0 n1 r1 n2 r2 n3 r3 n4 r4 n5 r5 n6 r6 n7 r7
  have HYY := Lib.hid (And.intro hY BY)
  clear hY BN BY
  go_wp2_with fail
  have hZ : BlockIs (((((((((Y.setCell ⟨w1.heap.size, 0, none⟩ (.int .i64 z)).setCell ⟨w.heap.size + 1, 0, none⟩ (.int .i64 z)).setCell ⟨w.heap.size + 1, 1, none⟩ (.int .i64 p.shape.pool)).setCell ⟨w.heap.size + 1, 2, none⟩ (.int .i64 p.shape.cap.c)).setCell ⟨w.heap.size + 1, 3, none⟩ (.int .i64 p.shape.cap.m)).setCell ⟨w.heap.size + 1, 4, none⟩ (.int .i64 p.shape.cap.p)).setCell ⟨w.heap.size + 1, 5, none⟩ (.slice E1 p.shape.labs.length d1)).setCell ⟨w.heap.size + 1, 6, none⟩ (.slice E2 p.shape.taints.length d2)).setCell ⟨w.heap.size + 1, 7, none⟩ (.bool p.shape.cordon)) (w.heap.size + 1) 35 #[.int .i64 z, .int .i64 p.shape.pool, .int .i64 p.shape.cap.c, .int .i64 p.shape.cap.m, .int .i64 p.shape.cap.p, .slice E1 p.shape.labs.length d1, .slice E2 p.shape.taints.length d2, .bool p.shape.cordon] := by
    have := (HYY.out.2.far (p := ⟨w1.heap.size, 0, none⟩) (by dsimp only; omega) (.int .i64 z)).putAll (o := 0) (ds := [.int .i64 z, .int .i64 p.shape.pool, .int .i64 p.shape.cap.c, .int .i64 p.shape.cap.m, .int .i64 p.shape.cap.p, .slice E1 p.shape.labs.length d1, .slice E2 p.shape.taints.length d2, .bool p.shape.cordon])
    have e : setAll #[.int .i64 0, .int .i64 0, .int .i64 0, .int .i64 0, .int .i64 0, .slice none 0 0, .slice none 0 0, .bool false] 0 [.int .i64 z, .int .i64 p.shape.pool, .int .i64 p.shape.cap.c, .int .i64 p.shape.cap.m, .int .i64 p.shape.cap.p, .slice E1 p.shape.labs.length d1, .slice E2 p.shape.taints.length d2, .bool p.shape.cordon] = #[.int .i64 z, .int .i64 p.shape.pool, .int .i64 p.shape.cap.c, .int .i64 p.shape.cap.m, .int .i64 p.shape.cap.p, .slice E1 p.shape.labs.length d1, .slice E2 p.shape.taints.length d2, .bool p.shape.cordon] := by simp [setAll]
    rw [e] at this
    exact this
  have hT : TurnB [w1.heap.size, w.heap.size + 1] Y (((((((((Y.setCell ⟨w1.heap.size, 0, none⟩ (.int .i64 z)).setCell ⟨w.heap.size + 1, 0, none⟩ (.int .i64 z)).setCell ⟨w.heap.size + 1, 1, none⟩ (.int .i64 p.shape.pool)).setCell ⟨w.heap.size + 1, 2, none⟩ (.int .i64 p.shape.cap.c)).setCell ⟨w.heap.size + 1, 3, none⟩ (.int .i64 p.shape.cap.m)).setCell ⟨w.heap.size + 1, 4, none⟩ (.int .i64 p.shape.cap.p)).setCell ⟨w.heap.size + 1, 5, none⟩ (.slice E1 p.shape.labs.length d1)).setCell ⟨w.heap.size + 1, 6, none⟩ (.slice E2 p.shape.taints.length d2)).setCell ⟨w.heap.size + 1, 7, none⟩ (.bool p.shape.cordon)) := ((TurnB.refl _ _).put (by simp) _ _).putAll (o := 0) (ds := [.int .i64 z, .int .i64 p.shape.pool, .int .i64 p.shape.cap.c, .int .i64 p.shape.cap.m, .int .i64 p.shape.cap.p, .slice E1 p.shape.labs.length d1, .slice E2 p.shape.taints.length d2, .bool p.shape.cordon]) (by simp)
  have hCY := below_of hC1 HYY.out.1
  have hB : Below w.heap.size w (((((((((Y.setCell ⟨w1.heap.size, 0, none⟩ (.int .i64 z)).setCell ⟨w.heap.size + 1, 0, none⟩ (.int .i64 z)).setCell ⟨w.heap.size + 1, 1, none⟩ (.int .i64 p.shape.pool)).setCell ⟨w.heap.size + 1, 2, none⟩ (.int .i64 p.shape.cap.c)).setCell ⟨w.heap.size + 1, 3, none⟩ (.int .i64 p.shape.cap.m)).setCell ⟨w.heap.size + 1, 4, none⟩ (.int .i64 p.shape.cap.p)).setCell ⟨w.heap.size + 1, 5, none⟩ (.slice E1 p.shape.labs.length d1)).setCell ⟨w.heap.size + 1, 6, none⟩ (.slice E2 p.shape.taints.length d2)).setCell ⟨w.heap.size + 1, 7, none⟩ (.bool p.shape.cordon)) := hCY.trans (hT.below hCY.size (by simp; omega))
  generalize (((((((((Y.setCell ⟨w1.heap.size, 0, none⟩ (.int .i64 z)).setCell ⟨w.heap.size + 1, 0, none⟩ (.int .i64 z)).setCell ⟨w.heap.size + 1, 1, none⟩ (.int .i64 p.shape.pool)).setCell ⟨w.heap.size + 1, 2, none⟩ (.int .i64 p.shape.cap.c)).setCell ⟨w.heap.size + 1, 3, none⟩ (.int .i64 p.shape.cap.m)).setCell ⟨w.heap.size + 1, 4, none⟩ (.int .i64 p.shape.cap.p)).setCell ⟨w.heap.size + 1, 5, none⟩ (.slice E1 p.shape.labs.length d1)).setCell ⟨w.heap.size + 1, 6, none⟩ (.slice E2 p.shape.taints.length d2)).setCell ⟨w.heap.size + 1, 7, none⟩ (.bool p.shape.cordon)) = X at hZ hT hB ⊢
  have x0 := hZ.cell 0
  have x1 := hZ.cell 1
  have x2 := hZ.cell 2
  have x3 := hZ.cell 3
  have x4 := hZ.cell 4
  have x5 := hZ.cell 5
  have x6 := hZ.cell 6
  have x7 := hZ.cell 7
  simp at x0 x1 x2 x3 x4 x5 x6 x7
  obtain ⟨hO, hnd, hlt, hlo⟩ := HO.out
  have hN := NodeO.framed _ _ _ _ _ (NodeO.framed _ _ _ _ _ hO (Agree.of_below HYY.out.1 hlt)) (hT.agree (fun b hb => ⟨by have := hlt b hb; omega, by have := hlo b hb; have := hlt b hb; simp; omega⟩))
  obtain ⟨y1, y2, e, m1, m2, m3, m4⟩ := hN
  simp at e
  obtain ⟨rfl, rfl⟩ := e
  exact bodyPost_ret (v := .agg #[.int .i64 z, .int .i64 p.shape.pool, .int .i64 p.shape.cap.c, .int .i64 p.shape.cap.m, .int .i64 p.shape.cap.p, .slice E1 p.shape.labs.length d1, .slice E2 p.shape.taints.length d2, .bool p.shape.cordon]) (by simp [results, Tryd.results27, go_sem, x0, x1, x2, x3, x4, x5, x6, x7]) rfl ⟨[.int .i64 z, .int .i64 p.shape.pool, .int .i64 p.shape.cap.c, .int .i64 p.shape.cap.m, .int .i64 p.shape.cap.p, .slice E1 p.shape.labs.length d1, .slice E2 p.shape.taints.length d2, .bool p.shape.cordon], bs, rfl, ⟨_, _, rfl, m1, m2, m3, m4⟩, hnd, fun b hb => by have := hlo b hb; omega, hB⟩
set_option maxHeartbeats 1600000 in
theorem PoolNode_any (p : PV) (v1 v2 : Value) (z : Int) (w : World) (x : Addr) (hg : ErrAt x w) (h1 : LabSl w v1 p.shape.labs) (h2 : IntSl w v2 p.shape.taints) (l1 : p.shape.labs.length ≤ 1048576) (l2 : p.shape.taints.length ≤ 1048576) :
    Calls Tryd.prog 17 #[.agg #[.int .i64 p.id, .int .i64 p.min, .int .i64 p.max, .int .i64 p.prio, .int .i64 p.shape.id, .int .i64 p.shape.pool, .int .i64 p.shape.cap.c, .int .i64 p.shape.cap.m, .int .i64 p.shape.cap.p, v1, v2, .bool p.shape.cordon], .int .i64 z] w (RetNodeB w (poolNodeG p z).1 (poolNodeG p z).2) := by
  have hok := fun w1 (hb : Below w.heap.size w w1) => PoolOk_any p v1 v2 w1 x (hg.below hb (Nat.le_refl _)) (h1.below hb) (h2.below hb) l1 l2
  have hid := idOk_any z
  have hsh := fun w1 (hb : Below w.heap.size w w1) => shaped_any p v1 v2 z w1 (h1.below hb) (h2.below hb) l1 l2
  have hE1 := @poolNodeG_yes p z
  have hE2 := @poolNodeG_bad p z
  have hE3 := @poolNodeG_no p z
  obtain ⟨A1, k1, rfl, -⟩ := h1.form
  obtain ⟨A2, k2, rfl, -⟩ := h2.form
  generalize p.ok = ok at hok hE1 hE2 hE3
  generalize idOk z = ik at hid hE1 hE2 hE3
  have HOK := Lib.hid hok
  have HID := Lib.hid hid
  have HSH := Lib.hid hsh
  have HE := Lib.hid (And.intro hE1 (And.intro hE2 hE3))
  clear hok hid hsh hE1 hE2 hE3 h1 h2 l1 l2 hg
  go_enter Tryd.func17, Tryd.ntmps17
  go_wp2_with fail
  have hX : Below w.heap.size w ((w.alloc (.cells #[.int .i64 p.id, .int .i64 p.min, .int .i64 p.max, .int .i64 p.prio, .int .i64 p.shape.id, .int .i64 p.shape.pool, .int .i64 p.shape.cap.c, .int .i64 p.shape.cap.m, .int .i64 p.shape.cap.p, .slice A1 p.shape.labs.length k1, .slice A2 p.shape.taints.length k2, .bool p.shape.cordon] 37)).alloc (.cells #[.int .i64 0, .int .i64 0, .int .i64 0, .int .i64 0, .int .i64 0, .slice none 0 0, .slice none 0 0, .bool false] 35)) := (by repeat' (first | exact Below.refl _ _ | refine Below.alloc ?_ ?_ _ | refine Below.setCell ?_ ?_ _ | refine Below.drew ?_ | (apply below_step; assumption) | (simp; done) | (simp; omega) | omega))
  refine (HOK.out _ hX).mono ?_
  rintro e w1 ⟨rfl, hb1⟩
  have hC1 := below_of hX hb1
  have hz1 := hb1.size
  simp at hz1
  have BP : BlockIs w1 w.heap.size 37 #[.int .i64 p.id, .int .i64 p.min, .int .i64 p.max, .int .i64 p.prio, .int .i64 p.shape.id, .int .i64 p.shape.pool, .int .i64 p.shape.cap.c, .int .i64 p.shape.cap.m, .int .i64 p.shape.cap.p, .slice A1 p.shape.labs.length k1, .slice A2 p.shape.taints.length k2, .bool p.shape.cordon] := ((BlockIs.new w _ _).alloc _).below hb1 (by simp; omega)
  have BR : BlockIs w1 (w.heap.size + 1) 35 #[.int .i64 0, .int .i64 0, .int .i64 0, .int .i64 0, .int .i64 0, .slice none 0 0, .slice none 0 0, .bool false] := (BlockIs.new' (by simp)).below hb1 (by simp)
  have r0 := BR.cell 0
  have r1 := BR.cell 1
  have r2 := BR.cell 2
  have r3 := BR.cell 3
  have r4 := BR.cell 4
  have r5 := BR.cell 5
  have r6 := BR.cell 6
  have r7 := BR.cell 7
  have g0 := BP.cell 0
  have g1 := BP.cell 1
  have g2 := BP.cell 2
  have g3 := BP.cell 3
  have g4 := BP.cell 4
  have g5 := BP.cell 5
  have g6 := BP.cell 6
  have g7 := BP.cell 7
  have g8 := BP.cell 8
  have g9 := BP.cell 9
  have g10 := BP.cell 10
  have g11 := BP.cell 11
  have rf := BR.frozen
  simp at r0 r1 r2 r3 r4 r5 r6 r7 g0 g1 g2 g3 g4 g5 g6 g7 g8 g9 g10 g11
  have HBR := Lib.hid BR
  clear BP BR hb1 hX
  cases ok
  · go_wp2_with fail
    have hZ : BlockIs ((((((((w1.setCell ⟨w.heap.size + 1, 0, none⟩ (.int .i64 0)).setCell ⟨w.heap.size + 1, 1, none⟩ (.int .i64 0)).setCell ⟨w.heap.size + 1, 2, none⟩ (.int .i64 0)).setCell ⟨w.heap.size + 1, 3, none⟩ (.int .i64 0)).setCell ⟨w.heap.size + 1, 4, none⟩ (.int .i64 0)).setCell ⟨w.heap.size + 1, 5, none⟩ (.slice none 0 0)).setCell ⟨w.heap.size + 1, 6, none⟩ (.slice none 0 0)).setCell ⟨w.heap.size + 1, 7, none⟩ (.bool false)) (w.heap.size + 1) 35 #[.int .i64 0, .int .i64 0, .int .i64 0, .int .i64 0, .int .i64 0, .slice none 0 0, .slice none 0 0, .bool false] := by
      have := HBR.out.putAll (o := 0) (ds := [.int .i64 0, .int .i64 0, .int .i64 0, .int .i64 0, .int .i64 0, .slice none 0 0, .slice none 0 0, .bool false])
      have e : setAll #[.int .i64 0, .int .i64 0, .int .i64 0, .int .i64 0, .int .i64 0, .slice none 0 0, .slice none 0 0, .bool false] 0 [.int .i64 0, .int .i64 0, .int .i64 0, .int .i64 0, .int .i64 0, .slice none 0 0, .slice none 0 0, .bool false] = #[.int .i64 0, .int .i64 0, .int .i64 0, .int .i64 0, .int .i64 0, .slice none 0 0, .slice none 0 0, .bool false] := by simp [setAll]
      rw [e] at this
      exact this
    have hB : Below w.heap.size w ((((((((w1.setCell ⟨w.heap.size + 1, 0, none⟩ (.int .i64 0)).setCell ⟨w.heap.size + 1, 1, none⟩ (.int .i64 0)).setCell ⟨w.heap.size + 1, 2, none⟩ (.int .i64 0)).setCell ⟨w.heap.size + 1, 3, none⟩ (.int .i64 0)).setCell ⟨w.heap.size + 1, 4, none⟩ (.int .i64 0)).setCell ⟨w.heap.size + 1, 5, none⟩ (.slice none 0 0)).setCell ⟨w.heap.size + 1, 6, none⟩ (.slice none 0 0)).setCell ⟨w.heap.size + 1, 7, none⟩ (.bool false)) := putAll_below (o := 0) (ds := [.int .i64 0, .int .i64 0, .int .i64 0, .int .i64 0, .int .i64 0, .slice none 0 0, .slice none 0 0, .bool false]) hC1 (by omega)
    generalize ((((((((w1.setCell ⟨w.heap.size + 1, 0, none⟩ (.int .i64 0)).setCell ⟨w.heap.size + 1, 1, none⟩ (.int .i64 0)).setCell ⟨w.heap.size + 1, 2, none⟩ (.int .i64 0)).setCell ⟨w.heap.size + 1, 3, none⟩ (.int .i64 0)).setCell ⟨w.heap.size + 1, 4, none⟩ (.int .i64 0)).setCell ⟨w.heap.size + 1, 5, none⟩ (.slice none 0 0)).setCell ⟨w.heap.size + 1, 6, none⟩ (.slice none 0 0)).setCell ⟨w.heap.size + 1, 7, none⟩ (.bool false)) = X at hZ hB ⊢
    have x0 := hZ.cell 0
    have x1 := hZ.cell 1
    have x2 := hZ.cell 2
    have x3 := hZ.cell 3
    have x4 := hZ.cell 4
    have x5 := hZ.cell 5
    have x6 := hZ.cell 6
    have x7 := hZ.cell 7
    simp at x0 x1 x2 x3 x4 x5 x6 x7
    exact bodyPost_ret (v := .tuple #[.agg #[.int .i64 0, .int .i64 0, .int .i64 0, .int .i64 0, .int .i64 0, .slice none 0 0, .slice none 0 0, .bool false], .bool false]) (by simp [results, Tryd.results17, go_sem, x0, x1, x2, x3, x4, x5, x6, x7]) rfl (by rw [HE.out.2.1 (by simp)]; exact ⟨[.int .i64 0, .int .i64 0, .int .i64 0, .int .i64 0, .int .i64 0, .slice none 0 0, .slice none 0 0, .bool false], [], rfl, NodeO.zero _, by simp, by simp, hB⟩)
  go_wp2_with fail
  refine (HID.out _).mono ?_
  rintro e w2 ⟨rfl, rfl⟩
  cases ik
  · go_wp2_with fail
    have hZ : BlockIs ((((((((w1.setCell ⟨w.heap.size + 1, 0, none⟩ (.int .i64 0)).setCell ⟨w.heap.size + 1, 1, none⟩ (.int .i64 0)).setCell ⟨w.heap.size + 1, 2, none⟩ (.int .i64 0)).setCell ⟨w.heap.size + 1, 3, none⟩ (.int .i64 0)).setCell ⟨w.heap.size + 1, 4, none⟩ (.int .i64 0)).setCell ⟨w.heap.size + 1, 5, none⟩ (.slice none 0 0)).setCell ⟨w.heap.size + 1, 6, none⟩ (.slice none 0 0)).setCell ⟨w.heap.size + 1, 7, none⟩ (.bool false)) (w.heap.size + 1) 35 #[.int .i64 0, .int .i64 0, .int .i64 0, .int .i64 0, .int .i64 0, .slice none 0 0, .slice none 0 0, .bool false] := by
      have := HBR.out.putAll (o := 0) (ds := [.int .i64 0, .int .i64 0, .int .i64 0, .int .i64 0, .int .i64 0, .slice none 0 0, .slice none 0 0, .bool false])
      have e : setAll #[.int .i64 0, .int .i64 0, .int .i64 0, .int .i64 0, .int .i64 0, .slice none 0 0, .slice none 0 0, .bool false] 0 [.int .i64 0, .int .i64 0, .int .i64 0, .int .i64 0, .int .i64 0, .slice none 0 0, .slice none 0 0, .bool false] = #[.int .i64 0, .int .i64 0, .int .i64 0, .int .i64 0, .int .i64 0, .slice none 0 0, .slice none 0 0, .bool false] := by simp [setAll]
      rw [e] at this
      exact this
    have hB : Below w.heap.size w ((((((((w1.setCell ⟨w.heap.size + 1, 0, none⟩ (.int .i64 0)).setCell ⟨w.heap.size + 1, 1, none⟩ (.int .i64 0)).setCell ⟨w.heap.size + 1, 2, none⟩ (.int .i64 0)).setCell ⟨w.heap.size + 1, 3, none⟩ (.int .i64 0)).setCell ⟨w.heap.size + 1, 4, none⟩ (.int .i64 0)).setCell ⟨w.heap.size + 1, 5, none⟩ (.slice none 0 0)).setCell ⟨w.heap.size + 1, 6, none⟩ (.slice none 0 0)).setCell ⟨w.heap.size + 1, 7, none⟩ (.bool false)) := putAll_below (o := 0) (ds := [.int .i64 0, .int .i64 0, .int .i64 0, .int .i64 0, .int .i64 0, .slice none 0 0, .slice none 0 0, .bool false]) hC1 (by omega)
    generalize ((((((((w1.setCell ⟨w.heap.size + 1, 0, none⟩ (.int .i64 0)).setCell ⟨w.heap.size + 1, 1, none⟩ (.int .i64 0)).setCell ⟨w.heap.size + 1, 2, none⟩ (.int .i64 0)).setCell ⟨w.heap.size + 1, 3, none⟩ (.int .i64 0)).setCell ⟨w.heap.size + 1, 4, none⟩ (.int .i64 0)).setCell ⟨w.heap.size + 1, 5, none⟩ (.slice none 0 0)).setCell ⟨w.heap.size + 1, 6, none⟩ (.slice none 0 0)).setCell ⟨w.heap.size + 1, 7, none⟩ (.bool false)) = X at hZ hB ⊢
    have x0 := hZ.cell 0
    have x1 := hZ.cell 1
    have x2 := hZ.cell 2
    have x3 := hZ.cell 3
    have x4 := hZ.cell 4
    have x5 := hZ.cell 5
    have x6 := hZ.cell 6
    have x7 := hZ.cell 7
    simp at x0 x1 x2 x3 x4 x5 x6 x7
    exact bodyPost_ret (v := .tuple #[.agg #[.int .i64 0, .int .i64 0, .int .i64 0, .int .i64 0, .int .i64 0, .slice none 0 0, .slice none 0 0, .bool false], .bool false]) (by simp [results, Tryd.results17, go_sem, x0, x1, x2, x3, x4, x5, x6, x7]) rfl (by rw [HE.out.2.2 (by simp) (by simp)]; exact ⟨[.int .i64 0, .int .i64 0, .int .i64 0, .int .i64 0, .int .i64 0, .slice none 0 0, .slice none 0 0, .bool false], [], rfl, NodeO.zero _, by simp, by simp, hB⟩)
  go_wp2_with fail
  refine (HSH.out _ hC1).mono ?_
  rintro e w3 ⟨ds, bs, rfl, hO, hnd, hlo, hb3⟩
  have hC3 := below_of hC1 hb3
  have hz3 := hb3.size
  have hlt := hO.lt
  have BR := HBR.out.below hb3 HBR.out.lt
  have HO := Lib.hid (And.intro hO (And.intro hnd (And.intro hlt hlo)))
  obtain ⟨y1, y2, rfl, n1, n2, -⟩ := hO
  obtain ⟨E1, d1, rfl, -⟩ := own_form n1
  obtain ⟨E2, d2, rfl, -⟩ := own_form n2
  have r0 := BR.cell 0
  have r1 := BR.cell 1
  have r2 := BR.cell 2
  have r3 := BR.cell 3
  have r4 := BR.cell 4
  have r5 := BR.cell 5
  have r6 := BR.cell 6
  have r7 := BR.cell 7
  have rf := BR.frozen
  simp at r0 r1 r2 r3 r4 r5 r6 r7
  have HBR3 := Lib.hid BR
  clear n1 n2 hnd hlo hlt hb3 BR g0 g1 g2 g3 g4 g5 g6 g7 g8 g9 g10 g11
  go_wp2_with fail
  have hZ : BlockIs ((((((((w3.setCell ⟨w.heap.size + 1, 0, none⟩ (.int .i64 z)).setCell ⟨w.heap.size + 1, 1, none⟩ (.int .i64 p.shape.pool)).setCell ⟨w.heap.size + 1, 2, none⟩ (.int .i64 p.shape.cap.c)).setCell ⟨w.heap.size + 1, 3, none⟩ (.int .i64 p.shape.cap.m)).setCell ⟨w.heap.size + 1, 4, none⟩ (.int .i64 p.shape.cap.p)).setCell ⟨w.heap.size + 1, 5, none⟩ (.slice E1 p.shape.labs.length d1)).setCell ⟨w.heap.size + 1, 6, none⟩ (.slice E2 p.shape.taints.length d2)).setCell ⟨w.heap.size + 1, 7, none⟩ (.bool p.shape.cordon)) (w.heap.size + 1) 35 #[.int .i64 z, .int .i64 p.shape.pool, .int .i64 p.shape.cap.c, .int .i64 p.shape.cap.m, .int .i64 p.shape.cap.p, .slice E1 p.shape.labs.length d1, .slice E2 p.shape.taints.length d2, .bool p.shape.cordon] := by
    have := HBR3.out.putAll (o := 0) (ds := [.int .i64 z, .int .i64 p.shape.pool, .int .i64 p.shape.cap.c, .int .i64 p.shape.cap.m, .int .i64 p.shape.cap.p, .slice E1 p.shape.labs.length d1, .slice E2 p.shape.taints.length d2, .bool p.shape.cordon])
    have e : setAll #[.int .i64 0, .int .i64 0, .int .i64 0, .int .i64 0, .int .i64 0, .slice none 0 0, .slice none 0 0, .bool false] 0 [.int .i64 z, .int .i64 p.shape.pool, .int .i64 p.shape.cap.c, .int .i64 p.shape.cap.m, .int .i64 p.shape.cap.p, .slice E1 p.shape.labs.length d1, .slice E2 p.shape.taints.length d2, .bool p.shape.cordon] = #[.int .i64 z, .int .i64 p.shape.pool, .int .i64 p.shape.cap.c, .int .i64 p.shape.cap.m, .int .i64 p.shape.cap.p, .slice E1 p.shape.labs.length d1, .slice E2 p.shape.taints.length d2, .bool p.shape.cordon] := by simp [setAll]
    rw [e] at this
    exact this
  have hT : TurnB [w.heap.size + 1] w3 ((((((((w3.setCell ⟨w.heap.size + 1, 0, none⟩ (.int .i64 z)).setCell ⟨w.heap.size + 1, 1, none⟩ (.int .i64 p.shape.pool)).setCell ⟨w.heap.size + 1, 2, none⟩ (.int .i64 p.shape.cap.c)).setCell ⟨w.heap.size + 1, 3, none⟩ (.int .i64 p.shape.cap.m)).setCell ⟨w.heap.size + 1, 4, none⟩ (.int .i64 p.shape.cap.p)).setCell ⟨w.heap.size + 1, 5, none⟩ (.slice E1 p.shape.labs.length d1)).setCell ⟨w.heap.size + 1, 6, none⟩ (.slice E2 p.shape.taints.length d2)).setCell ⟨w.heap.size + 1, 7, none⟩ (.bool p.shape.cordon)) := (TurnB.refl _ _).putAll (o := 0) (ds := [.int .i64 z, .int .i64 p.shape.pool, .int .i64 p.shape.cap.c, .int .i64 p.shape.cap.m, .int .i64 p.shape.cap.p, .slice E1 p.shape.labs.length d1, .slice E2 p.shape.taints.length d2, .bool p.shape.cordon]) (List.mem_singleton.2 rfl)
  have hB : Below w.heap.size w ((((((((w3.setCell ⟨w.heap.size + 1, 0, none⟩ (.int .i64 z)).setCell ⟨w.heap.size + 1, 1, none⟩ (.int .i64 p.shape.pool)).setCell ⟨w.heap.size + 1, 2, none⟩ (.int .i64 p.shape.cap.c)).setCell ⟨w.heap.size + 1, 3, none⟩ (.int .i64 p.shape.cap.m)).setCell ⟨w.heap.size + 1, 4, none⟩ (.int .i64 p.shape.cap.p)).setCell ⟨w.heap.size + 1, 5, none⟩ (.slice E1 p.shape.labs.length d1)).setCell ⟨w.heap.size + 1, 6, none⟩ (.slice E2 p.shape.taints.length d2)).setCell ⟨w.heap.size + 1, 7, none⟩ (.bool p.shape.cordon)) := hC3.trans (hT.below hC3.size (by simp))
  generalize ((((((((w3.setCell ⟨w.heap.size + 1, 0, none⟩ (.int .i64 z)).setCell ⟨w.heap.size + 1, 1, none⟩ (.int .i64 p.shape.pool)).setCell ⟨w.heap.size + 1, 2, none⟩ (.int .i64 p.shape.cap.c)).setCell ⟨w.heap.size + 1, 3, none⟩ (.int .i64 p.shape.cap.m)).setCell ⟨w.heap.size + 1, 4, none⟩ (.int .i64 p.shape.cap.p)).setCell ⟨w.heap.size + 1, 5, none⟩ (.slice E1 p.shape.labs.length d1)).setCell ⟨w.heap.size + 1, 6, none⟩ (.slice E2 p.shape.taints.length d2)).setCell ⟨w.heap.size + 1, 7, none⟩ (.bool p.shape.cordon)) = X at hZ hT hB ⊢
  have x0 := hZ.cell 0
  have x1 := hZ.cell 1
  have x2 := hZ.cell 2
  have x3 := hZ.cell 3
  have x4 := hZ.cell 4
  have x5 := hZ.cell 5
  have x6 := hZ.cell 6
  have x7 := hZ.cell 7
  simp at x0 x1 x2 x3 x4 x5 x6 x7
  obtain ⟨hO, hnd, hlt, hlo⟩ := HO.out
  have hN := NodeO.framed _ _ _ _ _ hO (hT.agree (fun b hb => ⟨hlt b hb, by have := hlo b hb; simp; omega⟩))
  exact bodyPost_ret (v := .tuple #[.agg #[.int .i64 z, .int .i64 p.shape.pool, .int .i64 p.shape.cap.c, .int .i64 p.shape.cap.m, .int .i64 p.shape.cap.p, .slice E1 p.shape.labs.length d1, .slice E2 p.shape.taints.length d2, .bool p.shape.cordon], .bool true]) (by simp [results, Tryd.results17, go_sem, x0, x1, x2, x3, x4, x5, x6, x7]) rfl (by rw [HE.out.1 (by simp) (by simp)]; exact ⟨[.int .i64 z, .int .i64 p.shape.pool, .int .i64 p.shape.cap.c, .int .i64 p.shape.cap.m, .int .i64 p.shape.cap.p, .slice E1 p.shape.labs.length d1, .slice E2 p.shape.taints.length d2, .bool p.shape.cordon], bs, rfl, hN, hnd, fun b hb => by have := hlo b hb; omega, hB⟩)
set_option maxHeartbeats 1600000 in
theorem sPoolNode_any (p : PV) (v1 v2 : Value) (z : Int) (w : World) (h1 : LabSl w v1 p.shape.labs) (h2 : IntSl w v2 p.shape.taints) (l1 : p.shape.labs.length ≤ 1048576) (l2 : p.shape.taints.length ≤ 1048576) :
    Calls Tryd.prog 16 #[.agg #[.int .i64 p.id, .int .i64 p.min, .int .i64 p.max, .int .i64 p.prio, .int .i64 p.shape.id, .int .i64 p.shape.pool, .int .i64 p.shape.cap.c, .int .i64 p.shape.cap.m, .int .i64 p.shape.cap.p, v1, v2, .bool p.shape.cordon], .int .i64 z] w (RetNodeB w (poolNodeG p z).1 (poolNodeG p z).2) := by
  have hok := fun w1 (hb : Below w.heap.size w w1) => sPoolOk_any p v1 v2 w1 (h1.below hb) (h2.below hb) l1 l2
  have hid := sId_any z
  have hsh := fun w1 (hb : Below w.heap.size w w1) => sNodeL5_any p v1 v2 z w1 (h1.below hb) (h2.below hb) l1 l2
  have hE1 := @poolNodeG_yes p z
  have hE2 := @poolNodeG_bad p z
  have hE3 := @poolNodeG_no p z
  obtain ⟨A1, k1, rfl, -⟩ := h1.form
  obtain ⟨A2, k2, rfl, -⟩ := h2.form
  generalize p.ok = ok at hok hE1 hE2 hE3
  generalize idOk z = ik at hid hE1 hE2 hE3
  have HOK := Lib.hid hok
  have HID := Lib.hid hid
  have HSH := Lib.hid hsh
  have HE := Lib.hid (And.intro hE1 (And.intro hE2 hE3))
  clear hok hid hsh hE1 hE2 hE3 h1 h2 l1 l2
  go_enter Tryd.func16, Tryd.ntmps16
  go_wp2_with fail
  have hX : Below w.heap.size w ((w.alloc (.cells #[.int .i64 p.id, .int .i64 p.min, .int .i64 p.max, .int .i64 p.prio, .int .i64 p.shape.id, .int .i64 p.shape.pool, .int .i64 p.shape.cap.c, .int .i64 p.shape.cap.m, .int .i64 p.shape.cap.p, .slice A1 p.shape.labs.length k1, .slice A2 p.shape.taints.length k2, .bool p.shape.cordon] 37)).alloc (.cells #[.int .i64 0, .int .i64 0, .int .i64 0, .int .i64 0, .int .i64 0, .slice none 0 0, .slice none 0 0, .bool false] 35)) := (by repeat' (first | exact Below.refl _ _ | refine Below.alloc ?_ ?_ _ | refine Below.setCell ?_ ?_ _ | refine Below.drew ?_ | (apply below_step; assumption) | (simp; done) | (simp; omega) | omega))
  refine (HOK.out _ hX).mono ?_
  rintro e w1 ⟨rfl, hb1⟩
  have hC1 := below_of hX hb1
  have hz1 := hb1.size
  simp at hz1
  have BP : BlockIs w1 w.heap.size 37 #[.int .i64 p.id, .int .i64 p.min, .int .i64 p.max, .int .i64 p.prio, .int .i64 p.shape.id, .int .i64 p.shape.pool, .int .i64 p.shape.cap.c, .int .i64 p.shape.cap.m, .int .i64 p.shape.cap.p, .slice A1 p.shape.labs.length k1, .slice A2 p.shape.taints.length k2, .bool p.shape.cordon] := ((BlockIs.new w _ _).alloc _).below hb1 (by simp; omega)
  have BR : BlockIs w1 (w.heap.size + 1) 35 #[.int .i64 0, .int .i64 0, .int .i64 0, .int .i64 0, .int .i64 0, .slice none 0 0, .slice none 0 0, .bool false] := (BlockIs.new' (by simp)).below hb1 (by simp)
  have r0 := BR.cell 0
  have r1 := BR.cell 1
  have r2 := BR.cell 2
  have r3 := BR.cell 3
  have r4 := BR.cell 4
  have r5 := BR.cell 5
  have r6 := BR.cell 6
  have r7 := BR.cell 7
  have g0 := BP.cell 0
  have g1 := BP.cell 1
  have g2 := BP.cell 2
  have g3 := BP.cell 3
  have g4 := BP.cell 4
  have g5 := BP.cell 5
  have g6 := BP.cell 6
  have g7 := BP.cell 7
  have g8 := BP.cell 8
  have g9 := BP.cell 9
  have g10 := BP.cell 10
  have g11 := BP.cell 11
  have rf := BR.frozen
  simp at r0 r1 r2 r3 r4 r5 r6 r7 g0 g1 g2 g3 g4 g5 g6 g7 g8 g9 g10 g11
  have HBR := Lib.hid BR
  clear BP BR hb1 hX
  cases ok
  · go_wp2_with fail
    have hZ : BlockIs ((((((((w1.setCell ⟨w.heap.size + 1, 0, none⟩ (.int .i64 0)).setCell ⟨w.heap.size + 1, 1, none⟩ (.int .i64 0)).setCell ⟨w.heap.size + 1, 2, none⟩ (.int .i64 0)).setCell ⟨w.heap.size + 1, 3, none⟩ (.int .i64 0)).setCell ⟨w.heap.size + 1, 4, none⟩ (.int .i64 0)).setCell ⟨w.heap.size + 1, 5, none⟩ (.slice none 0 0)).setCell ⟨w.heap.size + 1, 6, none⟩ (.slice none 0 0)).setCell ⟨w.heap.size + 1, 7, none⟩ (.bool false)) (w.heap.size + 1) 35 #[.int .i64 0, .int .i64 0, .int .i64 0, .int .i64 0, .int .i64 0, .slice none 0 0, .slice none 0 0, .bool false] := by
      have := HBR.out.putAll (o := 0) (ds := [.int .i64 0, .int .i64 0, .int .i64 0, .int .i64 0, .int .i64 0, .slice none 0 0, .slice none 0 0, .bool false])
      have e : setAll #[.int .i64 0, .int .i64 0, .int .i64 0, .int .i64 0, .int .i64 0, .slice none 0 0, .slice none 0 0, .bool false] 0 [.int .i64 0, .int .i64 0, .int .i64 0, .int .i64 0, .int .i64 0, .slice none 0 0, .slice none 0 0, .bool false] = #[.int .i64 0, .int .i64 0, .int .i64 0, .int .i64 0, .int .i64 0, .slice none 0 0, .slice none 0 0, .bool false] := by simp [setAll]
      rw [e] at this
      exact this
    have hB : Below w.heap.size w ((((((((w1.setCell ⟨w.heap.size + 1, 0, none⟩ (.int .i64 0)).setCell ⟨w.heap.size + 1, 1, none⟩ (.int .i64 0)).setCell ⟨w.heap.size + 1, 2, none⟩ (.int .i64 0)).setCell ⟨w.heap.size + 1, 3, none⟩ (.int .i64 0)).setCell ⟨w.heap.size + 1, 4, none⟩ (.int .i64 0)).setCell ⟨w.heap.size + 1, 5, none⟩ (.slice none 0 0)).setCell ⟨w.heap.size + 1, 6, none⟩ (.slice none 0 0)).setCell ⟨w.heap.size + 1, 7, none⟩ (.bool false)) := putAll_below (o := 0) (ds := [.int .i64 0, .int .i64 0, .int .i64 0, .int .i64 0, .int .i64 0, .slice none 0 0, .slice none 0 0, .bool false]) hC1 (by omega)
    generalize ((((((((w1.setCell ⟨w.heap.size + 1, 0, none⟩ (.int .i64 0)).setCell ⟨w.heap.size + 1, 1, none⟩ (.int .i64 0)).setCell ⟨w.heap.size + 1, 2, none⟩ (.int .i64 0)).setCell ⟨w.heap.size + 1, 3, none⟩ (.int .i64 0)).setCell ⟨w.heap.size + 1, 4, none⟩ (.int .i64 0)).setCell ⟨w.heap.size + 1, 5, none⟩ (.slice none 0 0)).setCell ⟨w.heap.size + 1, 6, none⟩ (.slice none 0 0)).setCell ⟨w.heap.size + 1, 7, none⟩ (.bool false)) = X at hZ hB ⊢
    have x0 := hZ.cell 0
    have x1 := hZ.cell 1
    have x2 := hZ.cell 2
    have x3 := hZ.cell 3
    have x4 := hZ.cell 4
    have x5 := hZ.cell 5
    have x6 := hZ.cell 6
    have x7 := hZ.cell 7
    simp at x0 x1 x2 x3 x4 x5 x6 x7
    exact bodyPost_ret (v := .tuple #[.agg #[.int .i64 0, .int .i64 0, .int .i64 0, .int .i64 0, .int .i64 0, .slice none 0 0, .slice none 0 0, .bool false], .bool false]) (by simp [results, Tryd.results16, go_sem, x0, x1, x2, x3, x4, x5, x6, x7]) rfl (by rw [HE.out.2.1 (by simp)]; exact ⟨[.int .i64 0, .int .i64 0, .int .i64 0, .int .i64 0, .int .i64 0, .slice none 0 0, .slice none 0 0, .bool false], [], rfl, NodeO.zero _, by simp, by simp, hB⟩)
  go_wp2_with fail
  refine (HID.out _).mono ?_
  rintro e w2 ⟨rfl, rfl⟩
  cases ik
  · go_wp2_with fail
    have hZ : BlockIs ((((((((w1.setCell ⟨w.heap.size + 1, 0, none⟩ (.int .i64 0)).setCell ⟨w.heap.size + 1, 1, none⟩ (.int .i64 0)).setCell ⟨w.heap.size + 1, 2, none⟩ (.int .i64 0)).setCell ⟨w.heap.size + 1, 3, none⟩ (.int .i64 0)).setCell ⟨w.heap.size + 1, 4, none⟩ (.int .i64 0)).setCell ⟨w.heap.size + 1, 5, none⟩ (.slice none 0 0)).setCell ⟨w.heap.size + 1, 6, none⟩ (.slice none 0 0)).setCell ⟨w.heap.size + 1, 7, none⟩ (.bool false)) (w.heap.size + 1) 35 #[.int .i64 0, .int .i64 0, .int .i64 0, .int .i64 0, .int .i64 0, .slice none 0 0, .slice none 0 0, .bool false] := by
      have := HBR.out.putAll (o := 0) (ds := [.int .i64 0, .int .i64 0, .int .i64 0, .int .i64 0, .int .i64 0, .slice none 0 0, .slice none 0 0, .bool false])
      have e : setAll #[.int .i64 0, .int .i64 0, .int .i64 0, .int .i64 0, .int .i64 0, .slice none 0 0, .slice none 0 0, .bool false] 0 [.int .i64 0, .int .i64 0, .int .i64 0, .int .i64 0, .int .i64 0, .slice none 0 0, .slice none 0 0, .bool false] = #[.int .i64 0, .int .i64 0, .int .i64 0, .int .i64 0, .int .i64 0, .slice none 0 0, .slice none 0 0, .bool false] := by simp [setAll]
      rw [e] at this
      exact this
    have hB : Below w.heap.size w ((((((((w1.setCell ⟨w.heap.size + 1, 0, none⟩ (.int .i64 0)).setCell ⟨w.heap.size + 1, 1, none⟩ (.int .i64 0)).setCell ⟨w.heap.size + 1, 2, none⟩ (.int .i64 0)).setCell ⟨w.heap.size + 1, 3, none⟩ (.int .i64 0)).setCell ⟨w.heap.size + 1, 4, none⟩ (.int .i64 0)).setCell ⟨w.heap.size + 1, 5, none⟩ (.slice none 0 0)).setCell ⟨w.heap.size + 1, 6, none⟩ (.slice none 0 0)).setCell ⟨w.heap.size + 1, 7, none⟩ (.bool false)) := putAll_below (o := 0) (ds := [.int .i64 0, .int .i64 0, .int .i64 0, .int .i64 0, .int .i64 0, .slice none 0 0, .slice none 0 0, .bool false]) hC1 (by omega)
    generalize ((((((((w1.setCell ⟨w.heap.size + 1, 0, none⟩ (.int .i64 0)).setCell ⟨w.heap.size + 1, 1, none⟩ (.int .i64 0)).setCell ⟨w.heap.size + 1, 2, none⟩ (.int .i64 0)).setCell ⟨w.heap.size + 1, 3, none⟩ (.int .i64 0)).setCell ⟨w.heap.size + 1, 4, none⟩ (.int .i64 0)).setCell ⟨w.heap.size + 1, 5, none⟩ (.slice none 0 0)).setCell ⟨w.heap.size + 1, 6, none⟩ (.slice none 0 0)).setCell ⟨w.heap.size + 1, 7, none⟩ (.bool false)) = X at hZ hB ⊢
    have x0 := hZ.cell 0
    have x1 := hZ.cell 1
    have x2 := hZ.cell 2
    have x3 := hZ.cell 3
    have x4 := hZ.cell 4
    have x5 := hZ.cell 5
    have x6 := hZ.cell 6
    have x7 := hZ.cell 7
    simp at x0 x1 x2 x3 x4 x5 x6 x7
    exact bodyPost_ret (v := .tuple #[.agg #[.int .i64 0, .int .i64 0, .int .i64 0, .int .i64 0, .int .i64 0, .slice none 0 0, .slice none 0 0, .bool false], .bool false]) (by simp [results, Tryd.results16, go_sem, x0, x1, x2, x3, x4, x5, x6, x7]) rfl (by rw [HE.out.2.2 (by simp) (by simp)]; exact ⟨[.int .i64 0, .int .i64 0, .int .i64 0, .int .i64 0, .int .i64 0, .slice none 0 0, .slice none 0 0, .bool false], [], rfl, NodeO.zero _, by simp, by simp, hB⟩)
  go_wp2_with fail
  refine (HSH.out _ hC1).mono ?_
  rintro e w3 ⟨ds, bs, rfl, hO, hnd, hlo, hb3⟩
  have hC3 := below_of hC1 hb3
  have hz3 := hb3.size
  have hlt := hO.lt
  have BR := HBR.out.below hb3 HBR.out.lt
  have HO := Lib.hid (And.intro hO (And.intro hnd (And.intro hlt hlo)))
  obtain ⟨y1, y2, rfl, n1, n2, -⟩ := hO
  obtain ⟨E1, d1, rfl, -⟩ := own_form n1
  obtain ⟨E2, d2, rfl, -⟩ := own_form n2
  have r0 := BR.cell 0
  have r1 := BR.cell 1
  have r2 := BR.cell 2
  have r3 := BR.cell 3
  have r4 := BR.cell 4
  have r5 := BR.cell 5
  have r6 := BR.cell 6
  have r7 := BR.cell 7
  have rf := BR.frozen
  simp at r0 r1 r2 r3 r4 r5 r6 r7
  have HBR3 := Lib.hid BR
  clear n1 n2 hnd hlo hlt hb3 BR g0 g1 g2 g3 g4 g5 g6 g7 g8 g9 g10 g11
  go_wp2_with fail
  have hZ : BlockIs ((((((((w3.setCell ⟨w.heap.size + 1, 0, none⟩ (.int .i64 z)).setCell ⟨w.heap.size + 1, 1, none⟩ (.int .i64 p.shape.pool)).setCell ⟨w.heap.size + 1, 2, none⟩ (.int .i64 p.shape.cap.c)).setCell ⟨w.heap.size + 1, 3, none⟩ (.int .i64 p.shape.cap.m)).setCell ⟨w.heap.size + 1, 4, none⟩ (.int .i64 p.shape.cap.p)).setCell ⟨w.heap.size + 1, 5, none⟩ (.slice E1 p.shape.labs.length d1)).setCell ⟨w.heap.size + 1, 6, none⟩ (.slice E2 p.shape.taints.length d2)).setCell ⟨w.heap.size + 1, 7, none⟩ (.bool p.shape.cordon)) (w.heap.size + 1) 35 #[.int .i64 z, .int .i64 p.shape.pool, .int .i64 p.shape.cap.c, .int .i64 p.shape.cap.m, .int .i64 p.shape.cap.p, .slice E1 p.shape.labs.length d1, .slice E2 p.shape.taints.length d2, .bool p.shape.cordon] := by
    have := HBR3.out.putAll (o := 0) (ds := [.int .i64 z, .int .i64 p.shape.pool, .int .i64 p.shape.cap.c, .int .i64 p.shape.cap.m, .int .i64 p.shape.cap.p, .slice E1 p.shape.labs.length d1, .slice E2 p.shape.taints.length d2, .bool p.shape.cordon])
    have e : setAll #[.int .i64 0, .int .i64 0, .int .i64 0, .int .i64 0, .int .i64 0, .slice none 0 0, .slice none 0 0, .bool false] 0 [.int .i64 z, .int .i64 p.shape.pool, .int .i64 p.shape.cap.c, .int .i64 p.shape.cap.m, .int .i64 p.shape.cap.p, .slice E1 p.shape.labs.length d1, .slice E2 p.shape.taints.length d2, .bool p.shape.cordon] = #[.int .i64 z, .int .i64 p.shape.pool, .int .i64 p.shape.cap.c, .int .i64 p.shape.cap.m, .int .i64 p.shape.cap.p, .slice E1 p.shape.labs.length d1, .slice E2 p.shape.taints.length d2, .bool p.shape.cordon] := by simp [setAll]
    rw [e] at this
    exact this
  have hT : TurnB [w.heap.size + 1] w3 ((((((((w3.setCell ⟨w.heap.size + 1, 0, none⟩ (.int .i64 z)).setCell ⟨w.heap.size + 1, 1, none⟩ (.int .i64 p.shape.pool)).setCell ⟨w.heap.size + 1, 2, none⟩ (.int .i64 p.shape.cap.c)).setCell ⟨w.heap.size + 1, 3, none⟩ (.int .i64 p.shape.cap.m)).setCell ⟨w.heap.size + 1, 4, none⟩ (.int .i64 p.shape.cap.p)).setCell ⟨w.heap.size + 1, 5, none⟩ (.slice E1 p.shape.labs.length d1)).setCell ⟨w.heap.size + 1, 6, none⟩ (.slice E2 p.shape.taints.length d2)).setCell ⟨w.heap.size + 1, 7, none⟩ (.bool p.shape.cordon)) := (TurnB.refl _ _).putAll (o := 0) (ds := [.int .i64 z, .int .i64 p.shape.pool, .int .i64 p.shape.cap.c, .int .i64 p.shape.cap.m, .int .i64 p.shape.cap.p, .slice E1 p.shape.labs.length d1, .slice E2 p.shape.taints.length d2, .bool p.shape.cordon]) (List.mem_singleton.2 rfl)
  have hB : Below w.heap.size w ((((((((w3.setCell ⟨w.heap.size + 1, 0, none⟩ (.int .i64 z)).setCell ⟨w.heap.size + 1, 1, none⟩ (.int .i64 p.shape.pool)).setCell ⟨w.heap.size + 1, 2, none⟩ (.int .i64 p.shape.cap.c)).setCell ⟨w.heap.size + 1, 3, none⟩ (.int .i64 p.shape.cap.m)).setCell ⟨w.heap.size + 1, 4, none⟩ (.int .i64 p.shape.cap.p)).setCell ⟨w.heap.size + 1, 5, none⟩ (.slice E1 p.shape.labs.length d1)).setCell ⟨w.heap.size + 1, 6, none⟩ (.slice E2 p.shape.taints.length d2)).setCell ⟨w.heap.size + 1, 7, none⟩ (.bool p.shape.cordon)) := hC3.trans (hT.below hC3.size (by simp))
  generalize ((((((((w3.setCell ⟨w.heap.size + 1, 0, none⟩ (.int .i64 z)).setCell ⟨w.heap.size + 1, 1, none⟩ (.int .i64 p.shape.pool)).setCell ⟨w.heap.size + 1, 2, none⟩ (.int .i64 p.shape.cap.c)).setCell ⟨w.heap.size + 1, 3, none⟩ (.int .i64 p.shape.cap.m)).setCell ⟨w.heap.size + 1, 4, none⟩ (.int .i64 p.shape.cap.p)).setCell ⟨w.heap.size + 1, 5, none⟩ (.slice E1 p.shape.labs.length d1)).setCell ⟨w.heap.size + 1, 6, none⟩ (.slice E2 p.shape.taints.length d2)).setCell ⟨w.heap.size + 1, 7, none⟩ (.bool p.shape.cordon)) = X at hZ hT hB ⊢
  have x0 := hZ.cell 0
  have x1 := hZ.cell 1
  have x2 := hZ.cell 2
  have x3 := hZ.cell 3
  have x4 := hZ.cell 4
  have x5 := hZ.cell 5
  have x6 := hZ.cell 6
  have x7 := hZ.cell 7
  simp at x0 x1 x2 x3 x4 x5 x6 x7
  obtain ⟨hO, hnd, hlt, hlo⟩ := HO.out
  have hN := NodeO.framed _ _ _ _ _ hO (hT.agree (fun b hb => ⟨hlt b hb, by have := hlo b hb; simp; omega⟩))
  exact bodyPost_ret (v := .tuple #[.agg #[.int .i64 z, .int .i64 p.shape.pool, .int .i64 p.shape.cap.c, .int .i64 p.shape.cap.m, .int .i64 p.shape.cap.p, .slice E1 p.shape.labs.length d1, .slice E2 p.shape.taints.length d2, .bool p.shape.cordon], .bool true]) (by simp [results, Tryd.results16, go_sem, x0, x1, x2, x3, x4, x5, x6, x7]) rfl (by rw [HE.out.1 (by simp) (by simp)]; exact ⟨[.int .i64 z, .int .i64 p.shape.pool, .int .i64 p.shape.cap.c, .int .i64 p.shape.cap.m, .int .i64 p.shape.cap.p, .slice E1 p.shape.labs.length d1, .slice E2 p.shape.taints.length d2, .bool p.shape.cordon], bs, rfl, hN, hnd, fun b hb => by have := hlo b hb; omega, hB⟩)
set_option maxHeartbeats 800000 in
theorem markPool_any (p : PV) (v1 v2 : Value) (bs : List Nat) (k : Int) (w : World) (h : NodeO w p.shape [.int .i64 p.shape.id, .int .i64 p.shape.pool, .int .i64 p.shape.cap.c, .int .i64 p.shape.cap.m, .int .i64 p.shape.cap.p, v1, v2, .bool p.shape.cordon] bs) (hnd : bs.Nodup) (h0 : 0 ≤ k) (hk : k ≤ 576460752303423488) :
    Calls Tryd.prog 19 #[.agg #[.int .i64 p.id, .int .i64 p.min, .int .i64 p.max, .int .i64 p.prio, .int .i64 p.shape.id, .int .i64 p.shape.pool, .int .i64 p.shape.cap.c, .int .i64 p.shape.cap.m, .int .i64 p.shape.cap.p, v1, v2, .bool p.shape.cordon], .int .i64 k] w fun e w' => e = .returned (.int .i64 (k + 2 * p.shape.labs.length + p.shape.taints.length)) ∧ TurnB bs w w' := by
  have hX : Below w.heap.size w (w.alloc (.cells #[.int .i64 p.id, .int .i64 p.min, .int .i64 p.max, .int .i64 p.prio, .int .i64 p.shape.id, .int .i64 p.shape.pool, .int .i64 p.shape.cap.c, .int .i64 p.shape.cap.m, .int .i64 p.shape.cap.p, v1, v2, .bool p.shape.cordon] 37)) := (by repeat' (first | exact Below.refl _ _ | refine Below.alloc ?_ ?_ _ | refine Below.setCell ?_ ?_ _ | refine Below.drew ?_ | (apply below_step; assumption) | (simp; done) | (simp; omega) | omega))
  have hm := markNode_any p.shape _ bs k _ (NodeO.framed _ _ _ _ _ h (Agree.of_below hX h.lt)) hnd h0 hk
  have HM := Lib.hid hm
  have HX := Lib.hid hX
  clear hm h hnd
  go_enter Tryd.func19, Tryd.ntmps19
  go_wp2_with fail
  refine HM.out.mono ?_
  rintro e w1 ⟨rfl, -, hT⟩
  have HT := Lib.hid ((TurnB.of_below HX.out).trans hT)
  clear hT
  go_wp2_with fail
  go_ret
  exact ⟨rfl, HT.out⟩
end Go.Proofs.YtocfgejceoenmaaDoor
