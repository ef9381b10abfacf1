/- The laws' helpers over a pool: szPool, toPool, eqPool; a pool as an argument, opened. -/
import Derived.Test.YtocfgejceoenmaaDoorPoolI
import Derived.Test.YtocfgejceoenmaaDoorToO
import Derived.Test.YtocfgejceoenmaaDoorTaskRow
import Derived.Test.YtocfgejceoenmaaDoorCluRow
namespace Go.Proofs.YtocfgejceoenmaaDoor
open Go.RowKit

set_option maxHeartbeats 800000 in
theorem szPool_any (c0 c1 c2 c3 c4 c5 c6 c7 c8 c11 : Value) (A1 A2 : Option Addr) (n1 k1 n2 k2 : Nat) (z : Int) (w : World) (h0 : 0 ≤ z) (hz : z ≤ 1048576) (hm1 : n1 ≤ maxLen) (hm2 : n2 ≤ maxLen) :
    Calls Tryd.prog 6 #[.agg #[c0, c1, c2, c3, c4, c5, c6, c7, c8, .slice A1 n1 k1, .slice A2 n2 k2, c11], .int .i64 z] w fun e w' => e = .returned (.int .i64 (szTV z n1 n2)) ∧ Below w.heap.size w w' := by
  have hs := fun w => szNode_any c4 c5 c6 c7 c8 c11 A1 A2 n1 k1 n2 k2 z w h0 hz hm1 hm2
  generalize hy : szTV z n1 n2 = y at hs
  have HY := Lib.hid (szTV_ok hy)
  have HS := Lib.hid hs
  clear hs hy hm1 hm2
  go_enter Tryd.func6, Tryd.ntmps6
  go_wp2_with fail
  refine (HS.out _).mono ?_
  rintro e w1 ⟨rfl, hb1⟩
  have hz1 := hb1.size
  simp at hz1
  rcases HY.out with rfl | hy
  · go_wp2_with fail
    go_ret
    exact ⟨rfl, (by repeat' (first | exact Below.refl _ _ | refine Below.alloc ?_ ?_ _ | refine Below.setCell ?_ ?_ _ | refine Below.drew ?_ | (apply below_step; assumption) | (simp; done) | (simp; omega) | omega))⟩
  · obtain ⟨a1, -, -, -⟩ := hy h0
    have a1' : decide (y < 0) = false := by simp; omega
    go_wp2_with fail
    go_ret
    exact ⟨rfl, (by repeat' (first | exact Below.refl _ _ | refine Below.alloc ?_ ?_ _ | refine Below.setCell ?_ ?_ _ | refine Below.drew ?_ | (apply below_step; assumption) | (simp; done) | (simp; omega) | omega))⟩

/-- The ending 'a pool of its own that reads as p'. -/
def NewPoolO (w : World) (p : PV) (e : Ending) (w' : World) : Prop := ∃ g1 g2, e = .returned (.agg #[.int .i64 p.id, .int .i64 p.min, .int .i64 p.max, .int .i64 p.prio, .int .i64 p.shape.id, .int .i64 p.shape.pool, .int .i64 p.shape.cap.c, .int .i64 p.shape.cap.m, .int .i64 p.shape.cap.p, .slice (some ⟨g1, 0, none⟩) p.shape.labs.length p.shape.labs.length, .slice (some ⟨g2, 0, none⟩) p.shape.taints.length p.shape.taints.length, .bool p.shape.cordon]) ∧
  w.heap.size ≤ g1 ∧ w.heap.size ≤ g2 ∧ g2 < w'.heap.size ∧ BlockIs w' g1 74 (labL p.shape.labs).toArray ∧ BlockIs w' g2 3 (intL p.shape.taints).toArray ∧ Below w.heap.size w w'
set_option maxHeartbeats 1600000 in
theorem toPool_o (p : PV) (v1 v2 : Value) (w : World) (h1 : LabSl w v1 p.shape.labs) (h2 : IntSl w v2 p.shape.taints) (l1 : p.shape.labs.length ≤ 1048576) (l2 : p.shape.taints.length ≤ 1048576) :
    Calls Tryd.prog 8 #[.agg #[.int .i64 p.id, .int .i64 p.min, .int .i64 p.max, .int .i64 p.prio, .int .i64 p.shape.id, .int .i64 p.shape.pool, .int .i64 p.shape.cap.c, .int .i64 p.shape.cap.m, .int .i64 p.shape.cap.p, v1, v2, .bool p.shape.cordon]] w (NewPoolO w p) := by
  have H1 := Lib.hid h1
  have H2 := Lib.hid h2
  have L1 := Lib.hid l1
  have L2 := Lib.hid l2
  clear h1 h2 l1 l2
  go_enter Tryd.func8, Tryd.ntmps8
  go_wp2_with fail
  have hX : Below w.heap.size w (((w.alloc (.cells #[.int .i64 p.id, .int .i64 p.min, .int .i64 p.max, .int .i64 p.prio, .int .i64 p.shape.id, .int .i64 p.shape.pool, .int .i64 p.shape.cap.c, .int .i64 p.shape.cap.m, .int .i64 p.shape.cap.p, v1, v2, .bool p.shape.cordon] 29)).alloc (.cells #[.int .i64 0, .int .i64 0, .int .i64 0, .int .i64 0, .int .i64 0, .int .i64 0, .int .i64 0, .int .i64 0, .int .i64 0, .slice none 0 0, .slice none 0 0, .bool false] 37)).alloc (.cells #[.int .i64 p.id, .int .i64 p.min, .int .i64 p.max, .int .i64 p.prio, .int .i64 0, .int .i64 0, .int .i64 0, .int .i64 0, .int .i64 0, .slice none 0 0, .slice none 0 0, .bool false] 37)) := (by repeat' (first | exact Below.refl _ _ | refine Below.alloc ?_ ?_ _ | refine Below.setCell ?_ ?_ _ | refine Below.drew ?_ | (apply below_step; assumption) | (simp; done) | (simp; omega) | omega))
  refine (toNode_o p.shape v1 v2 _ (H1.out.below hX) (H2.out.below hX) L1.out L2.out).mono ?_
  rintro e w1 ⟨g1, g2, rfl, k1, k2, k3, bl, it, hb1⟩
  have hz1 := hb1.size
  simp at hz1 k1 k2
  have B1 : BlockIs w1 (w.heap.size + 1) 37 #[.int .i64 0, .int .i64 0, .int .i64 0, .int .i64 0, .int .i64 0, .int .i64 0, .int .i64 0, .int .i64 0, .int .i64 0, .slice none 0 0, .slice none 0 0, .bool false] := (BlockIs.alloc (BlockIs.new' (by simp)) _).below hb1 (by simp)
  have B2 : BlockIs w1 (w.heap.size + 1 + 1) 37 #[.int .i64 p.id, .int .i64 p.min, .int .i64 p.max, .int .i64 p.prio, .int .i64 0, .int .i64 0, .int .i64 0, .int .i64 0, .int .i64 0, .slice none 0 0, .slice none 0 0, .bool false] := (BlockIs.new' (by simp)).below hb1 (by simp)
  have hC1 := below_of hX hb1
  have c0 := B2.cell 0
  have c1 := B2.cell 1
  have c2 := B2.cell 2
  have c3 := B2.cell 3
  have c4 := B2.cell 4
  have c5 := B2.cell 5
  have c6 := B2.cell 6
  have c7 := B2.cell 7
  have c8 := B2.cell 8
  have c9 := B2.cell 9
  have c10 := B2.cell 10
  have c11 := B2.cell 11
  have d0 := B1.cell 0
  have d1 := B1.cell 1
  have d2 := B1.cell 2
  have d3 := B1.cell 3
  have d4 := B1.cell 4
  have d5 := B1.cell 5
  have d6 := B1.cell 6
  have d7 := B1.cell 7
  have d8 := B1.cell 8
  have d9 := B1.cell 9
  have d10 := B1.cell 10
  have d11 := B1.cell 11
  have f1 := B1.frozen
  have f2 := B2.frozen
  simp at c0 c1 c2 c3 c4 c5 c6 c7 c8 c9 c10 c11 d0 d1 d2 d3 d4 d5 d6 d7 d8 d9 d10 d11
  have HB1 := Lib.hid B1
  have HG1 := Lib.hid bl
  have HG2 := Lib.hid it
  clear B1 B2 bl it hb1 hX
  go_wp2_with fail
  have hZ : BlockIs ((((((((((((((((((((w1.setCell ⟨w.heap.size + 1 + 1, 4, none⟩ (.int .i64 p.shape.id)).setCell ⟨w.heap.size + 1 + 1, 4 + 1, none⟩ (.int .i64 p.shape.pool)).setCell ⟨w.heap.size + 1 + 1, 4 + 2, none⟩ (.int .i64 p.shape.cap.c)).setCell ⟨w.heap.size + 1 + 1, 4 + 3, none⟩ (.int .i64 p.shape.cap.m)).setCell ⟨w.heap.size + 1 + 1, 4 + 4, none⟩ (.int .i64 p.shape.cap.p)).setCell ⟨w.heap.size + 1 + 1, 4 + 5, none⟩ (.slice (some ⟨g1, 0, none⟩) p.shape.labs.length p.shape.labs.length)).setCell ⟨w.heap.size + 1 + 1, 4 + 6, none⟩ (.slice (some ⟨g2, 0, none⟩) p.shape.taints.length p.shape.taints.length)).setCell ⟨w.heap.size + 1 + 1, 4 + 7, none⟩ (.bool p.shape.cordon)).setCell ⟨w.heap.size + 1, 0, none⟩ (.int .i64 p.id)).setCell ⟨w.heap.size + 1, 1, none⟩ (.int .i64 p.min)).setCell ⟨w.heap.size + 1, 2, none⟩ (.int .i64 p.max)).setCell ⟨w.heap.size + 1, 3, none⟩ (.int .i64 p.prio)).setCell ⟨w.heap.size + 1, 4, none⟩ (.int .i64 p.shape.id)).setCell ⟨w.heap.size + 1, 5, none⟩ (.int .i64 p.shape.pool)).setCell ⟨w.heap.size + 1, 6, none⟩ (.int .i64 p.shape.cap.c)).setCell ⟨w.heap.size + 1, 7, none⟩ (.int .i64 p.shape.cap.m)).setCell ⟨w.heap.size + 1, 8, none⟩ (.int .i64 p.shape.cap.p)).setCell ⟨w.heap.size + 1, 9, none⟩ (.slice (some ⟨g1, 0, none⟩) p.shape.labs.length p.shape.labs.length)).setCell ⟨w.heap.size + 1, 10, none⟩ (.slice (some ⟨g2, 0, none⟩) p.shape.taints.length p.shape.taints.length)).setCell ⟨w.heap.size + 1, 11, none⟩ (.bool p.shape.cordon)) (w.heap.size + 1) 37 #[.int .i64 p.id, .int .i64 p.min, .int .i64 p.max, .int .i64 p.prio, .int .i64 p.shape.id, .int .i64 p.shape.pool, .int .i64 p.shape.cap.c, .int .i64 p.shape.cap.m, .int .i64 p.shape.cap.p, .slice (some ⟨g1, 0, none⟩) p.shape.labs.length p.shape.labs.length, .slice (some ⟨g2, 0, none⟩) p.shape.taints.length p.shape.taints.length, .bool p.shape.cordon] := by
    have := (BlockIs.putFar (g := w.heap.size + 1 + 1) (o := 4) (ds := [.int .i64 p.shape.id, .int .i64 p.shape.pool, .int .i64 p.shape.cap.c, .int .i64 p.shape.cap.m, .int .i64 p.shape.cap.p, .slice (some ⟨g1, 0, none⟩) p.shape.labs.length p.shape.labs.length, .slice (some ⟨g2, 0, none⟩) p.shape.taints.length p.shape.taints.length, .bool p.shape.cordon]) HB1.out (by omega)).putAll (o := 0) (ds := [.int .i64 p.id, .int .i64 p.min, .int .i64 p.max, .int .i64 p.prio, .int .i64 p.shape.id, .int .i64 p.shape.pool, .int .i64 p.shape.cap.c, .int .i64 p.shape.cap.m, .int .i64 p.shape.cap.p, .slice (some ⟨g1, 0, none⟩) p.shape.labs.length p.shape.labs.length, .slice (some ⟨g2, 0, none⟩) p.shape.taints.length p.shape.taints.length, .bool p.shape.cordon])
    have e : setAll #[.int .i64 0, .int .i64 0, .int .i64 0, .int .i64 0, .int .i64 0, .int .i64 0, .int .i64 0, .int .i64 0, .int .i64 0, .slice none 0 0, .slice none 0 0, .bool false] 0 [.int .i64 p.id, .int .i64 p.min, .int .i64 p.max, .int .i64 p.prio, .int .i64 p.shape.id, .int .i64 p.shape.pool, .int .i64 p.shape.cap.c, .int .i64 p.shape.cap.m, .int .i64 p.shape.cap.p, .slice (some ⟨g1, 0, none⟩) p.shape.labs.length p.shape.labs.length, .slice (some ⟨g2, 0, none⟩) p.shape.taints.length p.shape.taints.length, .bool p.shape.cordon] = #[.int .i64 p.id, .int .i64 p.min, .int .i64 p.max, .int .i64 p.prio, .int .i64 p.shape.id, .int .i64 p.shape.pool, .int .i64 p.shape.cap.c, .int .i64 p.shape.cap.m, .int .i64 p.shape.cap.p, .slice (some ⟨g1, 0, none⟩) p.shape.labs.length p.shape.labs.length, .slice (some ⟨g2, 0, none⟩) p.shape.taints.length p.shape.taints.length, .bool p.shape.cordon] := by simp [setAll]
    rw [e] at this
    exact this
  have hG : BlockIs ((((((((((((((((((((w1.setCell ⟨w.heap.size + 1 + 1, 4, none⟩ (.int .i64 p.shape.id)).setCell ⟨w.heap.size + 1 + 1, 4 + 1, none⟩ (.int .i64 p.shape.pool)).setCell ⟨w.heap.size + 1 + 1, 4 + 2, none⟩ (.int .i64 p.shape.cap.c)).setCell ⟨w.heap.size + 1 + 1, 4 + 3, none⟩ (.int .i64 p.shape.cap.m)).setCell ⟨w.heap.size + 1 + 1, 4 + 4, none⟩ (.int .i64 p.shape.cap.p)).setCell ⟨w.heap.size + 1 + 1, 4 + 5, none⟩ (.slice (some ⟨g1, 0, none⟩) p.shape.labs.length p.shape.labs.length)).setCell ⟨w.heap.size + 1 + 1, 4 + 6, none⟩ (.slice (some ⟨g2, 0, none⟩) p.shape.taints.length p.shape.taints.length)).setCell ⟨w.heap.size + 1 + 1, 4 + 7, none⟩ (.bool p.shape.cordon)).setCell ⟨w.heap.size + 1, 0, none⟩ (.int .i64 p.id)).setCell ⟨w.heap.size + 1, 1, none⟩ (.int .i64 p.min)).setCell ⟨w.heap.size + 1, 2, none⟩ (.int .i64 p.max)).setCell ⟨w.heap.size + 1, 3, none⟩ (.int .i64 p.prio)).setCell ⟨w.heap.size + 1, 4, none⟩ (.int .i64 p.shape.id)).setCell ⟨w.heap.size + 1, 5, none⟩ (.int .i64 p.shape.pool)).setCell ⟨w.heap.size + 1, 6, none⟩ (.int .i64 p.shape.cap.c)).setCell ⟨w.heap.size + 1, 7, none⟩ (.int .i64 p.shape.cap.m)).setCell ⟨w.heap.size + 1, 8, none⟩ (.int .i64 p.shape.cap.p)).setCell ⟨w.heap.size + 1, 9, none⟩ (.slice (some ⟨g1, 0, none⟩) p.shape.labs.length p.shape.labs.length)).setCell ⟨w.heap.size + 1, 10, none⟩ (.slice (some ⟨g2, 0, none⟩) p.shape.taints.length p.shape.taints.length)).setCell ⟨w.heap.size + 1, 11, none⟩ (.bool p.shape.cordon)) g1 74 (labL p.shape.labs).toArray := BlockIs.putFar (o := 0) (ds := [.int .i64 p.id, .int .i64 p.min, .int .i64 p.max, .int .i64 p.prio, .int .i64 p.shape.id, .int .i64 p.shape.pool, .int .i64 p.shape.cap.c, .int .i64 p.shape.cap.m, .int .i64 p.shape.cap.p, .slice (some ⟨g1, 0, none⟩) p.shape.labs.length p.shape.labs.length, .slice (some ⟨g2, 0, none⟩) p.shape.taints.length p.shape.taints.length, .bool p.shape.cordon]) (BlockIs.putFar (g := w.heap.size + 1 + 1) (o := 4) (ds := [.int .i64 p.shape.id, .int .i64 p.shape.pool, .int .i64 p.shape.cap.c, .int .i64 p.shape.cap.m, .int .i64 p.shape.cap.p, .slice (some ⟨g1, 0, none⟩) p.shape.labs.length p.shape.labs.length, .slice (some ⟨g2, 0, none⟩) p.shape.taints.length p.shape.taints.length, .bool p.shape.cordon]) HG1.out (by omega)) (by omega)
  have hI : BlockIs ((((((((((((((((((((w1.setCell ⟨w.heap.size + 1 + 1, 4, none⟩ (.int .i64 p.shape.id)).setCell ⟨w.heap.size + 1 + 1, 4 + 1, none⟩ (.int .i64 p.shape.pool)).setCell ⟨w.heap.size + 1 + 1, 4 + 2, none⟩ (.int .i64 p.shape.cap.c)).setCell ⟨w.heap.size + 1 + 1, 4 + 3, none⟩ (.int .i64 p.shape.cap.m)).setCell ⟨w.heap.size + 1 + 1, 4 + 4, none⟩ (.int .i64 p.shape.cap.p)).setCell ⟨w.heap.size + 1 + 1, 4 + 5, none⟩ (.slice (some ⟨g1, 0, none⟩) p.shape.labs.length p.shape.labs.length)).setCell ⟨w.heap.size + 1 + 1, 4 + 6, none⟩ (.slice (some ⟨g2, 0, none⟩) p.shape.taints.length p.shape.taints.length)).setCell ⟨w.heap.size + 1 + 1, 4 + 7, none⟩ (.bool p.shape.cordon)).setCell ⟨w.heap.size + 1, 0, none⟩ (.int .i64 p.id)).setCell ⟨w.heap.size + 1, 1, none⟩ (.int .i64 p.min)).setCell ⟨w.heap.size + 1, 2, none⟩ (.int .i64 p.max)).setCell ⟨w.heap.size + 1, 3, none⟩ (.int .i64 p.prio)).setCell ⟨w.heap.size + 1, 4, none⟩ (.int .i64 p.shape.id)).setCell ⟨w.heap.size + 1, 5, none⟩ (.int .i64 p.shape.pool)).setCell ⟨w.heap.size + 1, 6, none⟩ (.int .i64 p.shape.cap.c)).setCell ⟨w.heap.size + 1, 7, none⟩ (.int .i64 p.shape.cap.m)).setCell ⟨w.heap.size + 1, 8, none⟩ (.int .i64 p.shape.cap.p)).setCell ⟨w.heap.size + 1, 9, none⟩ (.slice (some ⟨g1, 0, none⟩) p.shape.labs.length p.shape.labs.length)).setCell ⟨w.heap.size + 1, 10, none⟩ (.slice (some ⟨g2, 0, none⟩) p.shape.taints.length p.shape.taints.length)).setCell ⟨w.heap.size + 1, 11, none⟩ (.bool p.shape.cordon)) g2 3 (intL p.shape.taints).toArray := BlockIs.putFar (o := 0) (ds := [.int .i64 p.id, .int .i64 p.min, .int .i64 p.max, .int .i64 p.prio, .int .i64 p.shape.id, .int .i64 p.shape.pool, .int .i64 p.shape.cap.c, .int .i64 p.shape.cap.m, .int .i64 p.shape.cap.p, .slice (some ⟨g1, 0, none⟩) p.shape.labs.length p.shape.labs.length, .slice (some ⟨g2, 0, none⟩) p.shape.taints.length p.shape.taints.length, .bool p.shape.cordon]) (BlockIs.putFar (g := w.heap.size + 1 + 1) (o := 4) (ds := [.int .i64 p.shape.id, .int .i64 p.shape.pool, .int .i64 p.shape.cap.c, .int .i64 p.shape.cap.m, .int .i64 p.shape.cap.p, .slice (some ⟨g1, 0, none⟩) p.shape.labs.length p.shape.labs.length, .slice (some ⟨g2, 0, none⟩) p.shape.taints.length p.shape.taints.length, .bool p.shape.cordon]) HG2.out (by omega)) (by omega)
  have hB : Below w.heap.size w ((((((((((((((((((((w1.setCell ⟨w.heap.size + 1 + 1, 4, none⟩ (.int .i64 p.shape.id)).setCell ⟨w.heap.size + 1 + 1, 4 + 1, none⟩ (.int .i64 p.shape.pool)).setCell ⟨w.heap.size + 1 + 1, 4 + 2, none⟩ (.int .i64 p.shape.cap.c)).setCell ⟨w.heap.size + 1 + 1, 4 + 3, none⟩ (.int .i64 p.shape.cap.m)).setCell ⟨w.heap.size + 1 + 1, 4 + 4, none⟩ (.int .i64 p.shape.cap.p)).setCell ⟨w.heap.size + 1 + 1, 4 + 5, none⟩ (.slice (some ⟨g1, 0, none⟩) p.shape.labs.length p.shape.labs.length)).setCell ⟨w.heap.size + 1 + 1, 4 + 6, none⟩ (.slice (some ⟨g2, 0, none⟩) p.shape.taints.length p.shape.taints.length)).setCell ⟨w.heap.size + 1 + 1, 4 + 7, none⟩ (.bool p.shape.cordon)).setCell ⟨w.heap.size + 1, 0, none⟩ (.int .i64 p.id)).setCell ⟨w.heap.size + 1, 1, none⟩ (.int .i64 p.min)).setCell ⟨w.heap.size + 1, 2, none⟩ (.int .i64 p.max)).setCell ⟨w.heap.size + 1, 3, none⟩ (.int .i64 p.prio)).setCell ⟨w.heap.size + 1, 4, none⟩ (.int .i64 p.shape.id)).setCell ⟨w.heap.size + 1, 5, none⟩ (.int .i64 p.shape.pool)).setCell ⟨w.heap.size + 1, 6, none⟩ (.int .i64 p.shape.cap.c)).setCell ⟨w.heap.size + 1, 7, none⟩ (.int .i64 p.shape.cap.m)).setCell ⟨w.heap.size + 1, 8, none⟩ (.int .i64 p.shape.cap.p)).setCell ⟨w.heap.size + 1, 9, none⟩ (.slice (some ⟨g1, 0, none⟩) p.shape.labs.length p.shape.labs.length)).setCell ⟨w.heap.size + 1, 10, none⟩ (.slice (some ⟨g2, 0, none⟩) p.shape.taints.length p.shape.taints.length)).setCell ⟨w.heap.size + 1, 11, none⟩ (.bool p.shape.cordon)) := putAll_below (o := 0) (ds := [.int .i64 p.id, .int .i64 p.min, .int .i64 p.max, .int .i64 p.prio, .int .i64 p.shape.id, .int .i64 p.shape.pool, .int .i64 p.shape.cap.c, .int .i64 p.shape.cap.m, .int .i64 p.shape.cap.p, .slice (some ⟨g1, 0, none⟩) p.shape.labs.length p.shape.labs.length, .slice (some ⟨g2, 0, none⟩) p.shape.taints.length p.shape.taints.length, .bool p.shape.cordon]) (putAll_below (g := w.heap.size + 1 + 1) (o := 4) (ds := [.int .i64 p.shape.id, .int .i64 p.shape.pool, .int .i64 p.shape.cap.c, .int .i64 p.shape.cap.m, .int .i64 p.shape.cap.p, .slice (some ⟨g1, 0, none⟩) p.shape.labs.length p.shape.labs.length, .slice (some ⟨g2, 0, none⟩) p.shape.taints.length p.shape.taints.length, .bool p.shape.cordon]) hC1 (by omega)) (by omega)
  have hs : ((((((((((((((((((((w1.setCell ⟨w.heap.size + 1 + 1, 4, none⟩ (.int .i64 p.shape.id)).setCell ⟨w.heap.size + 1 + 1, 4 + 1, none⟩ (.int .i64 p.shape.pool)).setCell ⟨w.heap.size + 1 + 1, 4 + 2, none⟩ (.int .i64 p.shape.cap.c)).setCell ⟨w.heap.size + 1 + 1, 4 + 3, none⟩ (.int .i64 p.shape.cap.m)).setCell ⟨w.heap.size + 1 + 1, 4 + 4, none⟩ (.int .i64 p.shape.cap.p)).setCell ⟨w.heap.size + 1 + 1, 4 + 5, none⟩ (.slice (some ⟨g1, 0, none⟩) p.shape.labs.length p.shape.labs.length)).setCell ⟨w.heap.size + 1 + 1, 4 + 6, none⟩ (.slice (some ⟨g2, 0, none⟩) p.shape.taints.length p.shape.taints.length)).setCell ⟨w.heap.size + 1 + 1, 4 + 7, none⟩ (.bool p.shape.cordon)).setCell ⟨w.heap.size + 1, 0, none⟩ (.int .i64 p.id)).setCell ⟨w.heap.size + 1, 1, none⟩ (.int .i64 p.min)).setCell ⟨w.heap.size + 1, 2, none⟩ (.int .i64 p.max)).setCell ⟨w.heap.size + 1, 3, none⟩ (.int .i64 p.prio)).setCell ⟨w.heap.size + 1, 4, none⟩ (.int .i64 p.shape.id)).setCell ⟨w.heap.size + 1, 5, none⟩ (.int .i64 p.shape.pool)).setCell ⟨w.heap.size + 1, 6, none⟩ (.int .i64 p.shape.cap.c)).setCell ⟨w.heap.size + 1, 7, none⟩ (.int .i64 p.shape.cap.m)).setCell ⟨w.heap.size + 1, 8, none⟩ (.int .i64 p.shape.cap.p)).setCell ⟨w.heap.size + 1, 9, none⟩ (.slice (some ⟨g1, 0, none⟩) p.shape.labs.length p.shape.labs.length)).setCell ⟨w.heap.size + 1, 10, none⟩ (.slice (some ⟨g2, 0, none⟩) p.shape.taints.length p.shape.taints.length)).setCell ⟨w.heap.size + 1, 11, none⟩ (.bool p.shape.cordon)).heap.size = w1.heap.size := (putAll_size (o := 0) (ds := [.int .i64 p.id, .int .i64 p.min, .int .i64 p.max, .int .i64 p.prio, .int .i64 p.shape.id, .int .i64 p.shape.pool, .int .i64 p.shape.cap.c, .int .i64 p.shape.cap.m, .int .i64 p.shape.cap.p, .slice (some ⟨g1, 0, none⟩) p.shape.labs.length p.shape.labs.length, .slice (some ⟨g2, 0, none⟩) p.shape.taints.length p.shape.taints.length, .bool p.shape.cordon])).trans (putAll_size (g := w.heap.size + 1 + 1) (o := 4) (ds := [.int .i64 p.shape.id, .int .i64 p.shape.pool, .int .i64 p.shape.cap.c, .int .i64 p.shape.cap.m, .int .i64 p.shape.cap.p, .slice (some ⟨g1, 0, none⟩) p.shape.labs.length p.shape.labs.length, .slice (some ⟨g2, 0, none⟩) p.shape.taints.length p.shape.taints.length, .bool p.shape.cordon]))
  generalize ((((((((((((((((((((w1.setCell ⟨w.heap.size + 1 + 1, 4, none⟩ (.int .i64 p.shape.id)).setCell ⟨w.heap.size + 1 + 1, 4 + 1, none⟩ (.int .i64 p.shape.pool)).setCell ⟨w.heap.size + 1 + 1, 4 + 2, none⟩ (.int .i64 p.shape.cap.c)).setCell ⟨w.heap.size + 1 + 1, 4 + 3, none⟩ (.int .i64 p.shape.cap.m)).setCell ⟨w.heap.size + 1 + 1, 4 + 4, none⟩ (.int .i64 p.shape.cap.p)).setCell ⟨w.heap.size + 1 + 1, 4 + 5, none⟩ (.slice (some ⟨g1, 0, none⟩) p.shape.labs.length p.shape.labs.length)).setCell ⟨w.heap.size + 1 + 1, 4 + 6, none⟩ (.slice (some ⟨g2, 0, none⟩) p.shape.taints.length p.shape.taints.length)).setCell ⟨w.heap.size + 1 + 1, 4 + 7, none⟩ (.bool p.shape.cordon)).setCell ⟨w.heap.size + 1, 0, none⟩ (.int .i64 p.id)).setCell ⟨w.heap.size + 1, 1, none⟩ (.int .i64 p.min)).setCell ⟨w.heap.size + 1, 2, none⟩ (.int .i64 p.max)).setCell ⟨w.heap.size + 1, 3, none⟩ (.int .i64 p.prio)).setCell ⟨w.heap.size + 1, 4, none⟩ (.int .i64 p.shape.id)).setCell ⟨w.heap.size + 1, 5, none⟩ (.int .i64 p.shape.pool)).setCell ⟨w.heap.size + 1, 6, none⟩ (.int .i64 p.shape.cap.c)).setCell ⟨w.heap.size + 1, 7, none⟩ (.int .i64 p.shape.cap.m)).setCell ⟨w.heap.size + 1, 8, none⟩ (.int .i64 p.shape.cap.p)).setCell ⟨w.heap.size + 1, 9, none⟩ (.slice (some ⟨g1, 0, none⟩) p.shape.labs.length p.shape.labs.length)).setCell ⟨w.heap.size + 1, 10, none⟩ (.slice (some ⟨g2, 0, none⟩) p.shape.taints.length p.shape.taints.length)).setCell ⟨w.heap.size + 1, 11, none⟩ (.bool p.shape.cordon)) = X at hZ hG hI hB hs ⊢
  have z0 := hZ.cell 0
  have z1 := hZ.cell 1
  have z2 := hZ.cell 2
  have z3 := hZ.cell 3
  have z4 := hZ.cell 4
  have z5 := hZ.cell 5
  have z6 := hZ.cell 6
  have z7 := hZ.cell 7
  have z8 := hZ.cell 8
  have z9 := hZ.cell 9
  have z10 := hZ.cell 10
  have z11 := hZ.cell 11
  simp at z0 z1 z2 z3 z4 z5 z6 z7 z8 z9 z10 z11
  exact bodyPost_ret (v := .agg #[.int .i64 p.id, .int .i64 p.min, .int .i64 p.max, .int .i64 p.prio, .int .i64 p.shape.id, .int .i64 p.shape.pool, .int .i64 p.shape.cap.c, .int .i64 p.shape.cap.m, .int .i64 p.shape.cap.p, .slice (some ⟨g1, 0, none⟩) p.shape.labs.length p.shape.labs.length, .slice (some ⟨g2, 0, none⟩) p.shape.taints.length p.shape.taints.length, .bool p.shape.cordon]) (by simp [results, Tryd.results8, go_sem, z0, z1, z2, z3, z4, z5, z6, z7, z8, z9, z10, z11]) rfl ⟨g1, g2, rfl, by omega, by omega, by omega, hG, hI, hB⟩

set_option maxHeartbeats 1600000 in
theorem eqPool_same (p : PV) (v1 v2 u1 u2 : Value) (w : World) (h1 : LabSl w v1 p.shape.labs) (h2 : IntSl w v2 p.shape.taints) (k1 : LabSl w u1 p.shape.labs) (k2 : IntSl w u2 p.shape.taints) (l1 : p.shape.labs.length ≤ 1048576) (l2 : p.shape.taints.length ≤ 1048576) :
    Calls Tryd.prog 10 #[.agg #[.int .i64 p.id, .int .i64 p.min, .int .i64 p.max, .int .i64 p.prio, .int .i64 p.shape.id, .int .i64 p.shape.pool, .int .i64 p.shape.cap.c, .int .i64 p.shape.cap.m, .int .i64 p.shape.cap.p, v1, v2, .bool p.shape.cordon], .agg #[.int .i64 p.id, .int .i64 p.min, .int .i64 p.max, .int .i64 p.prio, .int .i64 p.shape.id, .int .i64 p.shape.pool, .int .i64 p.shape.cap.c, .int .i64 p.shape.cap.m, .int .i64 p.shape.cap.p, u1, u2, .bool p.shape.cordon]] w fun e w' => e = .returned (.bool true) ∧ Below w.heap.size w w' := by
  have he := fun w a b c d => eqNode_same p.shape v1 v2 u1 u2 w a b c d l1 l2
  have H1 := Lib.hid h1
  have H2 := Lib.hid h2
  have K1 := Lib.hid k1
  have K2 := Lib.hid k2
  have HE := Lib.hid he
  have e1 : (p.id != p.id) = false := by simp
  have e2 : (p.min != p.min) = false := by simp
  have e3 : (p.max != p.max) = false := by simp
  have e4 : (p.prio != p.prio) = false := by simp
  clear h1 h2 k1 k2 l1 l2 he
  go_enter Tryd.func10, Tryd.ntmps10
  go_wp2_with fail
  have hX : Below w.heap.size w ((w.alloc (.cells #[.int .i64 p.id, .int .i64 p.min, .int .i64 p.max, .int .i64 p.prio, .int .i64 p.shape.id, .int .i64 p.shape.pool, .int .i64 p.shape.cap.c, .int .i64 p.shape.cap.m, .int .i64 p.shape.cap.p, v1, v2, .bool p.shape.cordon] 37)).alloc (.cells #[.int .i64 p.id, .int .i64 p.min, .int .i64 p.max, .int .i64 p.prio, .int .i64 p.shape.id, .int .i64 p.shape.pool, .int .i64 p.shape.cap.c, .int .i64 p.shape.cap.m, .int .i64 p.shape.cap.p, u1, u2, .bool p.shape.cordon] 37)) := (by repeat' (first | exact Below.refl _ _ | refine Below.alloc ?_ ?_ _ | refine Below.setCell ?_ ?_ _ | refine Below.drew ?_ | (apply below_step; assumption) | (simp; done) | (simp; omega) | omega))
  refine (HE.out _ (H1.out.below hX) (H2.out.below hX) (K1.out.below hX) (K2.out.below hX)).mono ?_
  rintro e w1 ⟨rfl, hb1⟩
  have hC1 := below_of hX hb1
  go_wp2_with fail
  go_ret
  exact ⟨rfl, hC1⟩
/-- A pool as a law gets it. -/
def PoolQ (w : World) (t : PV) (cs : List Value) : Prop := ∃ v1 v2, cs = [.int .i64 t.id, .int .i64 t.min, .int .i64 t.max, .int .i64 t.prio, .int .i64 t.shape.id, .int .i64 t.shape.pool, .int .i64 t.shape.cap.c, .int .i64 t.shape.cap.m, .int .i64 t.shape.cap.p, v1, v2, .bool t.shape.cordon] ∧ LabSl w v1 t.shape.labs ∧ IntSl w v2 t.shape.taints ∧ t.shape.labs.length ≤ maxLen ∧ t.shape.taints.length ≤ maxLen
theorem PoolQ.kept : Kept PoolQ := fun _ _ _ _ hb ⟨v1, v2, e, h1, h2, h3⟩ => ⟨v1, v2, e, h1.below hb, h2.below hb, h3⟩
end Go.Proofs.YtocfgejceoenmaaDoor
namespace Go.Proofs.YtocfgejceoenmaaDoor
open Go.ChangeShapes Go.WideShapes Go.ChangeAt Go.RowKit Go.Joins
section
variable {H : Type} {enc : TypeId × Value → H} {W : World}
theorem list12 {α : Type} {l : List α} (h : l.length = 12) : ∃ a b c d e f g i j k m n, l = [a, b, c, d, e, f, g, i, j, k, m, n] := by
  match l, h with
  | [a, b, c, d, e, f, g, i, j, k, m, n], _ => exact ⟨a, b, c, d, e, f, g, i, j, k, m, n, rfl⟩
theorem Tryd.c_pool : Tryd.prog.cellsOf 29 = 12 := by kernel_rfl
set_option maxRecDepth 100000 in
/-- The cells of a pool. -/
theorem open_poolC {fuel : Nat} {cs : List Value} {x : DataW H × List MemPlace} (h : DataW.trod enc Tryd.prog W 0 (fun _ => true) true fuel 29 cs = some x) : ∃ t : PV, PoolQ W t cs := by
  obtain ⟨y0, y1, y2, y3, y4, n, hl, h0, h1, h2, h3, h4⟩ := trod_struct5 Tryd.underlying29 h
  rw [Tryd.c_pool] at hl
  obtain ⟨a, b, c, d, e, f, g, i, j, k, m, o, rfl⟩ := list12 hl
  simp only [Tryd.c_int, Tryd.c_node] at h0 h1 h2 h3 h4
  simp at h0 h1 h2 h3 h4
  obtain ⟨z0, e0, _, _⟩ := DataW.trod_int Tryd.underlying3 h0
  obtain ⟨z1, e1, _, _⟩ := DataW.trod_int Tryd.underlying3 h1
  obtain ⟨z2, e2, _, _⟩ := DataW.trod_int Tryd.underlying3 h2
  obtain ⟨z3, e3, _, _⟩ := DataW.trod_int Tryd.underlying3 h3
  obtain ⟨t, v1, v2, e4, s1, s2, s3, s4⟩ := open_nodeC h4
  simp at e0 e1 e2 e3 e4
  obtain ⟨rfl, rfl, rfl, rfl, rfl, rfl, rfl, rfl⟩ := e4
  subst e0 e1 e2 e3
  exact ⟨⟨z0, z1, z2, z3, t⟩, _, _, rfl, s1, s2, s3, s4⟩
set_option maxRecDepth 100000 in
/-- A pool by value, opened. -/
theorem open_pool {base : Nat} {v : Value} {d : DataW H} {p : List MemPlace} (hv : Value.okWide Tryd.prog W .any base 29 v) (h : DataW.Trod enc Tryd.prog W 0 (fun _ => true) true 29 v d p) :
    ∃ (t : PV) (v1 v2 : Value), v = .agg #[.int .i64 t.id, .int .i64 t.min, .int .i64 t.max, .int .i64 t.prio, .int .i64 t.shape.id, .int .i64 t.shape.pool, .int .i64 t.shape.cap.c, .int .i64 t.shape.cap.m, .int .i64 t.shape.cap.p, v1, v2, .bool t.shape.cordon] ∧ LabSl W v1 t.shape.labs ∧ IntSl W v2 t.shape.taints ∧ t.shape.labs.length ≤ maxLen ∧ t.shape.taints.length ≤ maxLen := by
  obtain ⟨cs, rfl, _⟩ := okWide_struct Tryd.underlying29 hv
  obtain ⟨fuel, hf⟩ := h
  obtain ⟨t, v1, v2, e, h1, h2, h3, h4⟩ := open_poolC hf
  refine ⟨t, v1, v2, ?_, h1, h2, h3, h4⟩
  rw [agg_of_cells e]
end
end Go.Proofs.YtocfgejceoenmaaDoor
