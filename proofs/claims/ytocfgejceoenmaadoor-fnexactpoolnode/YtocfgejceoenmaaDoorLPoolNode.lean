/- FnExactPoolNode answers true at every pool and Id: PoolNode and its model agree, the pool is left as it was, and what is returned owns its memory. Tied to the text of impl.errRange. -/
import Derived.Test.YtocfgejceoenmaaDoorResRow
import Derived.Test.YtocfgejceoenmaaDoorPoolN
import Derived.Test.YtocfgejceoenmaaDoorRegHeld
namespace Go.Proofs.YtocfgejceoenmaaDoor.fnExactPoolNode
open Go.ChangeShapes Go.WideShapes Go.ChangeAt Go.RowKit Go.Joins

set_option maxHeartbeats 1600000 in
theorem walk_long (t : PV) (v1 v2 : Value) (z : Int) (w : World) (h1 : LabSl w v1 t.shape.labs) (h2 : IntSl w v2 t.shape.taints) (m1 : t.shape.labs.length ≤ maxLen) (m2 : t.shape.taints.length ≤ maxLen) (h : 1048576 < t.shape.labs.length + t.shape.taints.length) :
    Calls Tryd.prog 5 #[.agg #[.int .i64 t.id, .int .i64 t.min, .int .i64 t.max, .int .i64 t.prio, .int .i64 t.shape.id, .int .i64 t.shape.pool, .int .i64 t.shape.cap.c, .int .i64 t.shape.cap.m, .int .i64 t.shape.cap.p, v1, v2, .bool t.shape.cordon], .int .i64 z] w fun e w' => e = .returned (.bool true) ∧ Below w.heap.size w w' := by
  obtain ⟨A1, c1, rfl, _⟩ := h1.form
  obtain ⟨A2, c2, rfl, _⟩ := h2.form
  have HSZ := Lib.hid (show szTV 1048576 t.shape.labs.length t.shape.taints.length = -1 by
    unfold szTV szLeft
    split
    · rw [if_neg (by omega)]
    · rfl)
  have M := Lib.hid (And.intro m1 m2)
  clear h1 h2 m1 m2 h
  go_enter Tryd.func5, Tryd.ntmps5
  go_wp2_with fail
  refine (szPool_any _ _ _ _ _ _ _ _ _ _ A1 A2 _ c1 _ c2 1048576 _ (by omega) (by omega) M.out.1 M.out.2).mono ?_
  rintro e w1 ⟨rfl, hb1⟩
  rw [HSZ.out]
  have hz1 := hb1.size
  simp at hz1
  go_wp2_with fail
  go_ret
  exact ⟨rfl, (by repeat' (first | exact Below.refl _ _ | refine Below.alloc ?_ ?_ _ | refine Below.setCell ?_ ?_ _ | refine Below.drew ?_ | (apply below_step; assumption) | (simp; done) | (simp; omega) | omega))⟩

theorem poolR_of {w : World} {p : PV} {g1 g2 : Nat} (bl : BlockIs w g1 74 (labL p.shape.labs).toArray) (it : BlockIs w g2 3 (intL p.shape.taints).toArray) (l1 : p.shape.labs.length ≤ 1048576) (l2 : p.shape.taints.length ≤ 1048576) :
    NodeO w p.shape [.int .i64 p.shape.id, .int .i64 p.shape.pool, .int .i64 p.shape.cap.c, .int .i64 p.shape.cap.m, .int .i64 p.shape.cap.p, .slice (some ⟨g1, 0, none⟩) p.shape.labs.length p.shape.labs.length, .slice (some ⟨g2, 0, none⟩) p.shape.taints.length p.shape.taints.length, .bool p.shape.cordon] [g1, g2] ∧ [g1, g2].Nodup :=
  ⟨⟨_, _, rfl, labO_of bl l1, intO_of it l2, rfl, l1, l2⟩, by have := blk_ne bl it (by decide); simp [this]⟩
set_option maxHeartbeats 12800000 in
set_option maxRecDepth 20000 in
theorem walk (p : PV) (v1 v2 : Value) (z : Int) (w : World) (x : Addr) (hg : ErrAt x w) (h1 : LabSl w v1 p.shape.labs) (h2 : IntSl w v2 p.shape.taints) (hs : p.shape.labs.length + p.shape.taints.length ≤ 1048576) :
    Calls Tryd.prog 5 #[.agg #[.int .i64 p.id, .int .i64 p.min, .int .i64 p.max, .int .i64 p.prio, .int .i64 p.shape.id, .int .i64 p.shape.pool, .int .i64 p.shape.cap.c, .int .i64 p.shape.cap.m, .int .i64 p.shape.cap.p, v1, v2, .bool p.shape.cordon], .int .i64 z] w fun e w' => e = .returned (.bool true) ∧ Below w.heap.size w w' := by
  have H1 := Lib.hid h1
  have H2 := Lib.hid h2
  have l1 : p.shape.labs.length ≤ 1048576 := by omega
  have l2 : p.shape.taints.length ≤ 1048576 := by omega
  obtain ⟨A1, c1, e1, _⟩ := h1.form
  obtain ⟨A2, c2, e2, _⟩ := h2.form
  have HSZ := Lib.hid (show szTV 1048576 p.shape.labs.length p.shape.taints.length = 1048576 - p.shape.labs.length - p.shape.taints.length by
    unfold szTV szLeft
    rw [if_pos (by omega), if_pos (by omega)])
  have hle : decide (1048576 - (p.shape.labs.length : Int) - (p.shape.taints.length : Int) < 0) = false := by simp; omega
  have HG := Lib.hid hg
  have hsz := fun w => szPool_any (.int .i64 p.id) (.int .i64 p.min) (.int .i64 p.max) (.int .i64 p.prio) (.int .i64 p.shape.id) (.int .i64 p.shape.pool) (.int .i64 p.shape.cap.c) (.int .i64 p.shape.cap.m) (.int .i64 p.shape.cap.p) (.bool p.shape.cordon) A1 A2 p.shape.labs.length c1 p.shape.taints.length c2 1048576 w (by omega) (by omega) (by unfold maxLen; omega) (by unfold maxLen; omega)
  rw [← e1, ← e2, HSZ.out] at hsz
  have HS := Lib.hid hsz
  have so := fun v1 v2 w a b => sPoolNode_any p v1 v2 z w a b l1 l2
  have io := fun v1 v2 w hg a b => PoolNode_any p v1 v2 z w x hg a b l1 l2
  have hto := fun w a b => toPool_o p v1 v2 w a b l1 l2
  have heq := fun v1 v2 u1 u2 w a b c d => eqPool_same p v1 v2 u1 u2 w a b c d l1 l2
  generalize (poolNodeG p z).1 = r at so io
  generalize (poolNodeG p z).2 = n at so io
  have hnn : (n != n) = false := by simp
  have SO := Lib.hid so
  have IO := Lib.hid io
  have TO := Lib.hid hto
  have EQ := Lib.hid heq
  have L := Lib.hid (And.intro l1 l2)
  generalize (1048576 - (p.shape.labs.length : Int) - p.shape.taints.length) = q at hle HS
  clear h1 h2 hs hg e1 e2 hsz so io hto heq HSZ l1 l2
  go_enter Tryd.func5, Tryd.ntmps5
  go_wp2_with fail
  refine (HS.out _).mono ?_
  rintro e w1 ⟨rfl, hb1⟩
  have hX : Below w.heap.size w (w.alloc (.cells #[.int .i64 p.id, .int .i64 p.min, .int .i64 p.max, .int .i64 p.prio, .int .i64 p.shape.id, .int .i64 p.shape.pool, .int .i64 p.shape.cap.c, .int .i64 p.shape.cap.m, .int .i64 p.shape.cap.p, v1, v2, .bool p.shape.cordon] 29)) := (by repeat' (first | exact Below.refl _ _ | refine Below.alloc ?_ ?_ _ | refine Below.setCell ?_ ?_ _ | refine Below.drew ?_ | (apply below_step; assumption) | (simp; done) | (simp; omega) | omega))
  have hC1 := below_of hX hb1
  have B1 := (BlockIs.new w 29 #[.int .i64 p.id, .int .i64 p.min, .int .i64 p.max, .int .i64 p.prio, .int .i64 p.shape.id, .int .i64 p.shape.pool, .int .i64 p.shape.cap.c, .int .i64 p.shape.cap.m, .int .i64 p.shape.cap.p, v1, v2, .bool p.shape.cordon]).below hb1 (by simp)
  have HB1 := Lib.hid B1
  have gc0 := B1.cell 0
  have gc1 := B1.cell 1
  have gc2 := B1.cell 2
  have gc3 := B1.cell 3
  have gc4 := B1.cell 4
  have gc5 := B1.cell 5
  have gc6 := B1.cell 6
  have gc7 := B1.cell 7
  have gc8 := B1.cell 8
  have gc9 := B1.cell 9
  have gc10 := B1.cell 10
  have gc11 := B1.cell 11
  simp at gc0 gc1 gc2 gc3 gc4 gc5 gc6 gc7 gc8 gc9 gc10 gc11
  clear B1 hb1 hX
  go_wp2_with fail
  refine (TO.out _ (H1.out.below hC1) (H2.out.below hC1)).mono ?_
  rintro e w2 ⟨g1, g2, rfl, k1, k2, k3, bl, it, hb2⟩
  have hC2 := below_of hC1 hb2
  have HB2 := Lib.hid (HB1.out.below hb2 HB1.out.lt)
  have HN2 := Lib.hid (poolR_of bl it L.out.1 L.out.2).1.r
  clear bl it hb2 k1 k2 k3 gc0 gc1 gc2 gc3 gc4 gc5 gc6 gc7 gc8 gc9 gc10 gc11
  go_wp2_with fail
  obtain ⟨_, _, e, s1, s2, -, -⟩ := HN2.out
  simp at e
  obtain ⟨rfl, rfl⟩ := e
  refine (SO.out _ _ _ s1 s2).mono ?_
  clear s1 s2
  rintro e w3 ⟨ds, bw, rfl, hW3, hndw, hlw, hb3⟩
  have hC3 := below_of hC2 hb3
  have hwlt := hW3.lt
  have HWO := Lib.hid hW3
  obtain ⟨_, _, rfl, n1, n2, -⟩ := hW3
  obtain ⟨W1, y1, rfl, -⟩ := own_form n1
  obtain ⟨W2, y2, rfl, -⟩ := own_form n2
  have B3 := (HB2.out.below hb3 HB2.out.lt).alloc (.cells #[.int .i64 r.id, .int .i64 r.pool, .int .i64 r.cap.c, .int .i64 r.cap.m, .int .i64 r.cap.p, .slice W1 r.labs.length y1, .slice W2 r.taints.length y2, .bool r.cordon] 35)
  have hY3 : Below w3.heap.size w3 (w3.alloc (.cells #[.int .i64 r.id, .int .i64 r.pool, .int .i64 r.cap.c, .int .i64 r.cap.m, .int .i64 r.cap.p, .slice W1 r.labs.length y1, .slice W2 r.taints.length y2, .bool r.cordon] 35)) := (by repeat' (first | exact Below.refl _ _ | refine Below.alloc ?_ ?_ _ | refine Below.setCell ?_ ?_ _ | refine Below.drew ?_ | (apply below_step; assumption) | (simp; done) | (simp; omega) | omega))
  have HW3 := Lib.hid (NodeO.framed _ _ _ _ _ HWO.out (Agree.of_below hY3 hwlt))
  have HWL := Lib.hid hwlt
  have BW3 : BlockIs (w3.alloc (.cells #[.int .i64 r.id, .int .i64 r.pool, .int .i64 r.cap.c, .int .i64 r.cap.m, .int .i64 r.cap.p, .slice W1 r.labs.length y1, .slice W2 r.taints.length y2, .bool r.cordon] 35)) w3.heap.size 35 #[.int .i64 r.id, .int .i64 r.pool, .int .i64 r.cap.c, .int .i64 r.cap.m, .int .i64 r.cap.p, .slice W1 r.labs.length y1, .slice W2 r.taints.length y2, .bool r.cordon] := BlockIs.new _ _ _
  have hC3' := below_of hC3 hY3
  have hz3 : w3.heap.size < (w3.alloc (.cells #[.int .i64 r.id, .int .i64 r.pool, .int .i64 r.cap.c, .int .i64 r.cap.m, .int .i64 r.cap.p, .slice W1 r.labs.length y1, .slice W2 r.taints.length y2, .bool r.cordon] 35)).heap.size := by simp
  have gc0 := B3.cell 0
  have gc1 := B3.cell 1
  have gc2 := B3.cell 2
  have gc3 := B3.cell 3
  have gc4 := B3.cell 4
  have gc5 := B3.cell 5
  have gc6 := B3.cell 6
  have gc7 := B3.cell 7
  have gc8 := B3.cell 8
  have gc9 := B3.cell 9
  have gc10 := B3.cell 10
  have gc11 := B3.cell 11
  simp at gc0 gc1 gc2 gc3 gc4 gc5 gc6 gc7 gc8 gc9 gc10 gc11
  clear hb3 HN2 hndw hlw n1 n2 hwlt HWO
  go_wp2_with fail
  clear gc0 gc1 gc2 gc3 gc4 gc5 gc6 gc7 gc8 gc9 gc10 gc11
  generalize w3.alloc (.cells #[.int .i64 r.id, .int .i64 r.pool, .int .i64 r.cap.c, .int .i64 r.cap.m, .int .i64 r.cap.p, .slice W1 r.labs.length y1, .slice W2 r.taints.length y2, .bool r.cordon] 35) = X3 at B3 hY3 HW3 BW3 hC3' hz3 ⊢
  have HB3 := Lib.hid B3
  have HBW3 := Lib.hid BW3
  clear B3 BW3
  refine (TO.out _ (H1.out.below hC3') (H2.out.below hC3')).mono ?_
  rintro e w4 ⟨g1, g2, rfl, k1, k2, k3, bl, it, hb4⟩
  have hC4 := below_of hC3' hb4
  obtain ⟨hN4, hnd4⟩ := poolR_of bl it L.out.1 L.out.2
  have HB4 := Lib.hid (HB3.out.below hb4 HB3.out.lt)
  have HBW4 := Lib.hid (HBW3.out.below hb4 HBW3.out.lt)
  have HN4 := Lib.hid hN4
  have HND := Lib.hid hnd4
  have HLO := Lib.hid (show ∀ b ∈ [g1, g2], X3.heap.size ≤ b from fun b hb => by simp at hb; rcases hb with rfl | rfl <;> assumption)
  have HW4 := Lib.hid (NodeO.framed _ _ _ _ _ HW3.out (Agree.of_below hb4 HW3.out.lt))
  have hz4 := hb4.size
  clear hN4 hnd4 hb4 bl it k1 k2 k3
  go_wp2_with fail
  have hX4 : Below w4.heap.size w4 (w4.alloc (.cells #[.int .i64 p.id, .int .i64 p.min, .int .i64 p.max, .int .i64 p.prio, .int .i64 p.shape.id, .int .i64 p.shape.pool, .int .i64 p.shape.cap.c, .int .i64 p.shape.cap.m, .int .i64 p.shape.cap.p, .slice (some ⟨g1, 0, none⟩) p.shape.labs.length p.shape.labs.length, .slice (some ⟨g2, 0, none⟩) p.shape.taints.length p.shape.taints.length, .bool p.shape.cordon] 37)) := (by repeat' (first | exact Below.refl _ _ | refine Below.alloc ?_ ?_ _ | refine Below.setCell ?_ ?_ _ | refine Below.drew ?_ | (apply below_step; assumption) | (simp; done) | (simp; omega) | omega))
  have hCX4 := below_of hC4 hX4
  obtain ⟨_, _, e, s1, s2, -, -⟩ := HN4.out.r
  simp at e
  obtain ⟨rfl, rfl⟩ := e
  refine (IO.out _ _ _ (HG.out.below hCX4 (Nat.le_refl _)) (s1.below hX4) (s2.below hX4)).mono ?_
  clear s1 s2
  rintro e w5 ⟨ds, bg, rfl, hG5, hndg, hlg, hb5⟩
  have hD5 := below_of hX4 hb5
  have hC5 := below_of hC4 hD5
  have hglt := hG5.lt
  have HGO := Lib.hid hG5
  obtain ⟨_, _, rfl, n1, n2, -⟩ := hG5
  obtain ⟨G1, z1, rfl, -⟩ := own_form n1
  obtain ⟨G2, z2, rfl, -⟩ := own_form n2
  have hY5 : Below w5.heap.size w5 (w5.alloc (.cells #[.int .i64 r.id, .int .i64 r.pool, .int .i64 r.cap.c, .int .i64 r.cap.m, .int .i64 r.cap.p, .slice G1 r.labs.length z1, .slice G2 r.taints.length z2, .bool r.cordon] 35)) := (by repeat' (first | exact Below.refl _ _ | refine Below.alloc ?_ ?_ _ | refine Below.setCell ?_ ?_ _ | refine Below.drew ?_ | (apply below_step; assumption) | (simp; done) | (simp; omega) | omega))
  have hD5' := below_of hD5 hY5
  have hC5' := below_of hC5 hY5
  have HB5 := Lib.hid (HB4.out.below hD5' HB4.out.lt)
  have HBW5 := Lib.hid (HBW4.out.below hD5' HBW4.out.lt)
  have HX5 := Lib.hid (((BlockIs.new w4 37 #[.int .i64 p.id, .int .i64 p.min, .int .i64 p.max, .int .i64 p.prio, .int .i64 p.shape.id, .int .i64 p.shape.pool, .int .i64 p.shape.cap.c, .int .i64 p.shape.cap.m, .int .i64 p.shape.cap.p, .slice (some ⟨g1, 0, none⟩) p.shape.labs.length p.shape.labs.length, .slice (some ⟨g2, 0, none⟩) p.shape.taints.length p.shape.taints.length, .bool p.shape.cordon]).below hb5 (by simp)).alloc (.cells #[.int .i64 r.id, .int .i64 r.pool, .int .i64 r.cap.c, .int .i64 r.cap.m, .int .i64 r.cap.p, .slice G1 r.labs.length z1, .slice G2 r.taints.length z2, .bool r.cordon] 35))
  have HG5 : BlockIs (w5.alloc (.cells #[.int .i64 r.id, .int .i64 r.pool, .int .i64 r.cap.c, .int .i64 r.cap.m, .int .i64 r.cap.p, .slice G1 r.labs.length z1, .slice G2 r.taints.length z2, .bool r.cordon] 35)) w5.heap.size 35 #[.int .i64 r.id, .int .i64 r.pool, .int .i64 r.cap.c, .int .i64 r.cap.m, .int .i64 r.cap.p, .slice G1 r.labs.length z1, .slice G2 r.taints.length z2, .bool r.cordon] := BlockIs.new _ _ _
  have HN5 := Lib.hid (NodeO.framed _ _ _ _ _ HN4.out (Agree.of_below hD5' HN4.out.lt))
  have HW5 := Lib.hid (NodeO.framed _ _ _ _ _ HW4.out (Agree.of_below hD5' HW4.out.lt))
  have HR5 := Lib.hid (NodeO.framed _ _ _ _ _ HGO.out (Agree.of_below hY5 hglt))
  have HGL := Lib.hid (show ∀ b ∈ bg, w4.heap.size < b ∧ b < w5.heap.size from fun b hb => ⟨by have := hlg b hb; simp at this; omega, hglt b hb⟩)
  have HGN := Lib.hid hndg
  have HBL := Lib.hid (fun b (hb : b ∈ [g1, g2]) => HN4.out.lt b hb)
  have hz5 := hD5.size
  have hz5' : w5.heap.size < (w5.alloc (.cells #[.int .i64 r.id, .int .i64 r.pool, .int .i64 r.cap.c, .int .i64 r.cap.m, .int .i64 r.cap.p, .slice G1 r.labs.length z1, .slice G2 r.taints.length z2, .bool r.cordon] 35)).heap.size := by simp
  have hz45 : w4.heap.size < w5.heap.size := by have := hb5.size; simp at this; omega
  have q0 := HBW5.out.cell 0
  have q1 := HBW5.out.cell 1
  have q2 := HBW5.out.cell 2
  have q3 := HBW5.out.cell 3
  have q4 := HBW5.out.cell 4
  have q5 := HBW5.out.cell 5
  have q6 := HBW5.out.cell 6
  have q7 := HBW5.out.cell 7
  simp at q0 q1 q2 q3 q4 q5 q6 q7
  clear hb5 HB4 HBW4 HN4 HW4 hX4 hCX4 hglt hlg HGO n1 n2 hndg
  go_wp2_with fail
  clear q0 q1 q2 q3 q4 q5 q6 q7
  generalize w5.alloc (.cells #[.int .i64 r.id, .int .i64 r.pool, .int .i64 r.cap.c, .int .i64 r.cap.m, .int .i64 r.cap.p, .slice G1 r.labs.length z1, .slice G2 r.taints.length z2, .bool r.cordon] 35) = X5 at hY5 hD5' hC5' HB5 HBW5 HX5 HG5 HN5 HW5 HR5 hz5' ⊢
  have HBG5 := Lib.hid HG5
  clear HG5
  refine (eqNode_r r _ _ _ HR5.out.r HW5.out.r).mono ?_
  rintro e w6 ⟨rfl, hb6⟩
  have hC6 := below_of hC5' hb6
  have B6 := HB5.out.below hb6 HB5.out.lt
  have X6 := HX5.out.below hb6 HX5.out.lt
  have HBW6 := Lib.hid (HBW5.out.below hb6 HBW5.out.lt)
  have HBG6 := Lib.hid (HBG5.out.below hb6 HBG5.out.lt)
  have HN6 := Lib.hid (NodeO.framed _ _ _ _ _ HN5.out (Agree.of_below hb6 HN5.out.lt))
  have HW6 := Lib.hid (NodeO.framed _ _ _ _ _ HW5.out (Agree.of_below hb6 HW5.out.lt))
  have HR6 := Lib.hid (NodeO.framed _ _ _ _ _ HR5.out (Agree.of_below hb6 HR5.out.lt))
  have hz6 := hb6.size
  have HK := Lib.hid (show ∀ w', Below w6.heap.size w6 w' → (fun w' => Below w6.heap.size w6 w' ∧ (∀ o, w'.cell? ⟨w.heap.size, o, none⟩ = (#[.int .i64 p.id, .int .i64 p.min, .int .i64 p.max, .int .i64 p.prio, .int .i64 p.shape.id, .int .i64 p.shape.pool, .int .i64 p.shape.cap.c, .int .i64 p.shape.cap.m, .int .i64 p.shape.cap.p, v1, v2, .bool p.shape.cordon] : Array Value)[o]?) ∧ (∀ o, w'.cell? ⟨w4.heap.size, o, none⟩ = (#[.int .i64 p.id, .int .i64 p.min, .int .i64 p.max, .int .i64 p.prio, .int .i64 p.shape.id, .int .i64 p.shape.pool, .int .i64 p.shape.cap.c, .int .i64 p.shape.cap.m, .int .i64 p.shape.cap.p, .slice (some ⟨g1, 0, none⟩) p.shape.labs.length p.shape.labs.length, .slice (some ⟨g2, 0, none⟩) p.shape.taints.length p.shape.taints.length, .bool p.shape.cordon] : Array Value)[o]?)) w' from fun w' hb => ⟨hb, (B6.below hb B6.lt).cell, (X6.below hb X6.lt).cell⟩)
  have HB6 := Lib.hid B6
  have HX6 := Lib.hid X6
  obtain ⟨_, _, e, s1, s2, -, -⟩ := HN6.out.r
  simp at e
  obtain ⟨rfl, rfl⟩ := e
  have HS1 := Lib.hid (And.intro s1 s2)
  clear s1 s2 hb6 HB5 HX5 HN5 HW5 HR5 HBW5 HBG5 B6 X6
  go_wp2_with fail
  refine wp_region_held_drew (S := (fun w' => Below w6.heap.size w6 w' ∧ (∀ o, w'.cell? ⟨w.heap.size, o, none⟩ = (#[.int .i64 p.id, .int .i64 p.min, .int .i64 p.max, .int .i64 p.prio, .int .i64 p.shape.id, .int .i64 p.shape.pool, .int .i64 p.shape.cap.c, .int .i64 p.shape.cap.m, .int .i64 p.shape.cap.p, v1, v2, .bool p.shape.cordon] : Array Value)[o]?) ∧ (∀ o, w'.cell? ⟨w4.heap.size, o, none⟩ = (#[.int .i64 p.id, .int .i64 p.min, .int .i64 p.max, .int .i64 p.prio, .int .i64 p.shape.id, .int .i64 p.shape.pool, .int .i64 p.shape.cap.c, .int .i64 p.shape.cap.m, .int .i64 p.shape.cap.p, .slice (some ⟨g1, 0, none⟩) p.shape.labs.length p.shape.labs.length, .slice (some ⟨g2, 0, none⟩) p.shape.taints.length p.shape.taints.length, .bool p.shape.cordon] : Array Value)[o]?))) (by kernel_rfl) (by (try dsimp only); exact HK.out _ (by repeat' (first | exact Below.refl _ _ | refine Below.alloc ?_ ?_ _ | refine Below.setCell ?_ ?_ _ | refine Below.drew ?_ | (apply below_step; assumption) | (simp; done) | (simp; omega) | omega))) (fun hHeld => ?_)
  refine hTake (i := 0) (oi := ?a2) (v := ?f2) (d := ?g2) ?b2 ?c2 (by kernel_rfl) ?d2 ?e2 ?h2 (by assumption) ?_; (case b2 => simp only [rhN]; try rfl); (case c2 => (try dsimp only); rfl); (case e2 => rfl); (case d2 => exact fun _ _ _ h => h); (case h2 => intro w hSw; (try dsimp only at hSw); go_simp <;> with_reducible rfl); simp only [Act.put, rhA, rhS, rhT]
  refine hTake (i := 1) (oi := ?a4) (v := ?f4) (d := ?g4) ?b4 ?c4 (by kernel_rfl) ?d4 ?e4 ?h4 (by assumption) ?_; (case b4 => simp only [rhN, rhM]; try rfl); (case c4 => (try dsimp only); rfl); (case e4 => rfl); (case d4 => exact fun _ _ _ h => h); (case h4 => intro w hSw; (try dsimp only at hSw); go_simp <;> with_reducible rfl); simp only [Act.put, rhA, rhS, rhT]
  refine hCall (i := 2) (o := ?a5) ?b5 (by kernel_rfl) ?c5 (fun K hK => ?d5)
  case b5 => simp only [rhN, rhM]; try rfl
  case c5 => rfl
  go_simp
  refine (TO.out _ (H1.out.below (below_of hC6 (by repeat' (first | exact Below.refl _ _ | refine Below.alloc ?_ ?_ _ | refine Below.setCell ?_ ?_ _ | refine Below.drew ?_ | (apply below_step; assumption) | (simp; done) | (simp; omega) | omega)))) (H2.out.below (below_of hC6 (by repeat' (first | exact Below.refl _ _ | refine Below.alloc ?_ ?_ _ | refine Below.setCell ?_ ?_ _ | refine Below.drew ?_ | (apply below_step; assumption) | (simp; done) | (simp; omega) | omega))))).mono ?_
  rintro e w7 ⟨j1, j2, rfl, k1, k2, k3, bl, it, hb7⟩
  have hz7 := hb7.size
  (try simp at hz7)
  have hR7 := (poolR_of bl it L.out.1 L.out.2).1
  obtain ⟨_, _, e, s1, s2, -, -⟩ := hR7.r
  simp at e
  obtain ⟨rfl, rfl⟩ := e
  have HS7 := Lib.hid (And.intro s1 s2)
  clear s1 s2 bl it k1 k2 k3 hR7
  go_wp2_with fail
  refine hK.out _ _ (by (try dsimp only); exact HK.out _ (by repeat' (first | exact Below.refl _ _ | refine Below.alloc ?_ ?_ _ | refine Below.setCell ?_ ?_ _ | refine Below.drew ?_ | (apply below_step; assumption) | (simp; done) | (simp; omega) | omega))) (fun hHeld => ?_)
  clear hK K
  try simp only [Act.put, rhA, rhS, rhT]
  refine hCall (i := 3) (o := ?a6) ?b6 (by kernel_rfl) ?c6 (fun K hK => ?d6)
  case b6 => simp only [rhN, rhM]; try rfl
  case c6 => rfl
  go_simp
  refine (EQ.out _ _ _ _ _ (HS1.out.1.below (by repeat' (first | exact Below.refl _ _ | refine Below.alloc ?_ ?_ _ | refine Below.setCell ?_ ?_ _ | refine Below.drew ?_ | (apply below_step; assumption) | (simp; done) | (simp; omega) | omega))) (HS1.out.2.below (by repeat' (first | exact Below.refl _ _ | refine Below.alloc ?_ ?_ _ | refine Below.setCell ?_ ?_ _ | refine Below.drew ?_ | (apply below_step; assumption) | (simp; done) | (simp; omega) | omega))) HS7.out.1 HS7.out.2).mono ?_
  rintro e w8 ⟨rfl, hb8⟩
  have hz8 := hb8.size
  (try simp at hz8)
  go_wp2_with fail
  refine hK.out _ _ (by (try dsimp only); exact HK.out _ (by repeat' (first | exact Below.refl _ _ | refine Below.alloc ?_ ?_ _ | refine Below.setCell ?_ ?_ _ | refine Below.drew ?_ | (apply below_step; assumption) | (simp; done) | (simp; omega) | omega))) (fun hHeld => ?_)
  clear hK K
  try simp only [Act.put, rhA, rhS, rhT]
  refine hTake (i := 4) (oi := ?a8) (v := ?f8) (d := ?g8) ?b8 ?c8 (by kernel_rfl) ?d8 ?e8 ?h8 (by assumption) ?_; (case b8 => simp only [rhN, rhM]; try rfl); (case c8 => (try dsimp only); rfl); (case e8 => rfl); (case d8 => exact fun _ _ _ h => h); (case h8 => intro w hSw; (try dsimp only at hSw); go_simp <;> with_reducible rfl); simp only [Act.put, rhA, rhS, rhT]
  refine wpAnyH_done (by kernel_rfl) ?_ _
  have hD8 : Below w6.heap.size w6 w8 := (by repeat' (first | exact Below.refl _ _ | refine Below.alloc ?_ ?_ _ | refine Below.setCell ?_ ?_ _ | refine Below.drew ?_ | (apply below_step; assumption) | (simp; done) | (simp; omega) | omega))
  have hC8 := below_of hC6 hD8
  have B8 := HB6.out.below hD8 HB6.out.lt
  have X8 := HX6.out.below hD8 HX6.out.lt
  have HBW8 := Lib.hid (HBW6.out.below hD8 HBW6.out.lt)
  have HBG8 := Lib.hid (HBG6.out.below hD8 HBG6.out.lt)
  have HN8 := Lib.hid (NodeO.framed _ _ _ _ _ HN6.out (Agree.of_below hD8 HN6.out.lt))
  have HW8 := Lib.hid (NodeO.framed _ _ _ _ _ HW6.out (Agree.of_below hD8 HW6.out.lt))
  have HR8 := Lib.hid (NodeO.framed _ _ _ _ _ HR6.out (Agree.of_below hD8 HR6.out.lt))
  have q0 := X8.cell 0
  have q1 := X8.cell 1
  have q2 := X8.cell 2
  have q3 := X8.cell 3
  have q4 := X8.cell 4
  have q5 := X8.cell 5
  have q6 := X8.cell 6
  have q7 := X8.cell 7
  have q8 := X8.cell 8
  have q9 := X8.cell 9
  have q10 := X8.cell 10
  have q11 := X8.cell 11
  simp at q0 q1 q2 q3 q4 q5 q6 q7 q8 q9 q10 q11
  have HB8 := Lib.hid B8
  clear hb7 hb8 HK HB6 HX6 HN6 HW6 HR6 HBW6 HBG6 hHeld hD8 B8 X8 hz7 hz8 HS1 HS7
  go_wp2_with fail
  refine (markPool_any p _ _ [g1, g2] 1 _ HN8.out HND.out (by omega) (by omega)).mono ?_
  rintro e w9 ⟨rfl, hT9⟩
  have hX3z := hY3.size
  have hCw : ∀ b ∈ [g1, g2], w.heap.size ≤ b := fun b hb => Nat.le_trans hC3'.size (HLO.out b hb)
  have hC9 : Below w.heap.size w w9 := hC8.trans (hT9.below hC8.size hCw)
  have B9 := HB8.out.turn hT9 (fun hb => by have := HLO.out _ hb; have := HB3.out.lt; omega)
  have BW9 := HBW8.out.turn hT9 (fun hb => by have := HLO.out _ hb; omega)
  have BG9 := HBG8.out.turn hT9 (fun hb => by have := HBL.out _ hb; omega)
  have HW9 := Lib.hid (NodeO.framed _ _ _ _ _ HW8.out (hT9.agree (fun b hb => ⟨HW8.out.lt b hb, fun hx => by have := HLO.out b hx; have := HWL.out b hb; omega⟩)))
  have HR9 := Lib.hid (NodeO.framed _ _ _ _ _ HR8.out (hT9.agree (fun b hb => ⟨HR8.out.lt b hb, fun hx => by have := HBL.out b hx; have := HGL.out b hb; omega⟩)))
  have hm1 : decide (1 + 2 * (p.shape.labs.length : Int) + (p.shape.taints.length : Int) < 0) = false := by simp; omega
  clear q0 q1 q2 q3 q4 q5 q6 q7 q8 q9 q10 q11
  have p0 := BG9.cell 0
  have p1 := BG9.cell 1
  have p2 := BG9.cell 2
  have p3 := BG9.cell 3
  have p4 := BG9.cell 4
  have p5 := BG9.cell 5
  have p6 := BG9.cell 6
  have p7 := BG9.cell 7
  simp at p0 p1 p2 p3 p4 p5 p6 p7
  have q0 := BW9.cell 0
  have q1 := BW9.cell 1
  have q2 := BW9.cell 2
  have q3 := BW9.cell 3
  have q4 := BW9.cell 4
  have q5 := BW9.cell 5
  have q6 := BW9.cell 6
  have q7 := BW9.cell 7
  simp at q0 q1 q2 q3 q4 q5 q6 q7
  have HB9 := Lib.hid B9
  have HBW9 := Lib.hid BW9
  have HBG9 := Lib.hid BG9
  clear hT9 B9 BW9 BG9 HW8 HR8 HN8 HB8 HBW8 HBG8
  go_wp2_with fail
  refine (eqNode_r r _ _ _ HR9.out.r HW9.out.r).mono ?_
  rintro e w10 ⟨rfl, hb10⟩
  have hC10 := below_of hC9 hb10
  have HB10 := Lib.hid (HB9.out.below hb10 HB9.out.lt)
  have HBW10 := Lib.hid (HBW9.out.below hb10 HBW9.out.lt)
  have BG10 := HBG9.out.below hb10 HBG9.out.lt
  have HBG10 := Lib.hid BG10
  have HW10 := Lib.hid (NodeO.framed _ _ _ _ _ HW9.out (Agree.of_below hb10 HW9.out.lt))
  have HR10 := Lib.hid (NodeO.framed _ _ _ _ _ HR9.out (Agree.of_below hb10 HR9.out.lt))
  clear p0 p1 p2 p3 p4 p5 p6 p7
  have p0 := BG10.cell 0
  have p1 := BG10.cell 1
  have p2 := BG10.cell 2
  have p3 := BG10.cell 3
  have p4 := BG10.cell 4
  have p5 := BG10.cell 5
  have p6 := BG10.cell 6
  have p7 := BG10.cell 7
  simp at p0 p1 p2 p3 p4 p5 p6 p7
  clear hb10 HW9 HR9 HB9 HBW9 HBG9 BG10 hm1 q0 q1 q2 q3 q4 q5 q6 q7
  go_wp2_with fail
  have HM := Lib.hid (show r.labs.length ≤ 1048576 ∧ r.taints.length ≤ 1048576 by obtain ⟨_, _, _, _, _, _, a, b⟩ := HR10.out; exact ⟨a, b⟩)
  refine (markNode_any r _ bg 1 _ HR10.out HGN.out (by omega) (by omega)).mono ?_
  rintro e w11 ⟨rfl, hM11, hT11⟩
  have hgw : ∀ b ∈ bg, w.heap.size ≤ b := fun b hb => by have := HGL.out b hb; have := hC4.size; omega
  have hC11 : Below w.heap.size w w11 := hC10.trans (hT11.below hC10.size hgw)
  have B11 := HB10.out.turn hT11 (fun hb => by have := HGL.out _ hb; have := HB3.out.lt; omega)
  have BW11 := HBW10.out.turn hT11 (fun hb => by have := HGL.out _ hb; omega)
  have BG11 := HBG10.out.turn hT11 (fun hb => by have := HGL.out _ hb; omega)
  have HW11 := Lib.hid (NodeO.framed _ _ _ _ _ HW10.out (hT11.agree (fun b hb => ⟨HW10.out.lt b hb, fun hx => by have := HGL.out b hx; have := HWL.out b hb; omega⟩)))
  have HM11 := Lib.hid hM11
  have HHE := Lib.hid (fun w1 (h : NodeR w1 (inNode 1 r) [.int .i64 r.id, .int .i64 r.pool, .int .i64 r.cap.c, .int .i64 r.cap.m, .int .i64 r.cap.p, .slice G1 r.labs.length z1, .slice G2 r.taints.length z2, .bool r.cordon]) => heldNode_any r _ 1 w1 h HM.out.1 HM.out.2 (by omega) (by omega))
  have hn11 : ((1 + 2 * (r.labs.length : Int) + (r.taints.length : Int)) != (1 + 2 * (r.labs.length : Int) + (r.taints.length : Int))) = false := by simp
  have hm11 : decide (1 + 2 * (r.labs.length : Int) + (r.taints.length : Int) < 0) = false := by simp; omega
  have HB11 := Lib.hid B11
  have HBW11 := Lib.hid BW11
  have HBG11 := Lib.hid BG11
  clear p0 p1 p2 p3 p4 p5 p6 p7
  have p0 := BG11.cell 0
  have p1 := BG11.cell 1
  have p2 := BG11.cell 2
  have p3 := BG11.cell 3
  have p4 := BG11.cell 4
  have p5 := BG11.cell 5
  have p6 := BG11.cell 6
  have p7 := BG11.cell 7
  simp at p0 p1 p2 p3 p4 p5 p6 p7
  clear hT11 B11 BW11 BG11 hM11 HW10 HR10 HB10 HBW10 HBG10 hgw
  generalize (1 + 2 * (r.labs.length : Int) + (r.taints.length : Int)) = sz at hn11 hm11 HHE ⊢
  go_wp2_with fail
  refine (HHE.out _ HM11.out.r).mono ?_
  rintro e w12 ⟨rfl, hb12⟩
  have hC12 := below_of hC11 hb12
  have B12 := HB11.out.below hb12 HB11.out.lt
  have HBW12 := Lib.hid (HBW11.out.below hb12 HBW11.out.lt)
  have HBG12 := Lib.hid (HBG11.out.below hb12 HBG11.out.lt)
  have HW12 := Lib.hid (NodeO.framed _ _ _ _ _ HW11.out (Agree.of_below hb12 HW11.out.lt))
  have HM12 := Lib.hid (NodeO.framed _ _ _ _ _ HM11.out (Agree.of_below hb12 HM11.out.lt))
  have bc0 := B12.cell 0
  have bc1 := B12.cell 1
  have bc2 := B12.cell 2
  have bc3 := B12.cell 3
  have bc4 := B12.cell 4
  have bc5 := B12.cell 5
  have bc6 := B12.cell 6
  have bc7 := B12.cell 7
  have bc8 := B12.cell 8
  have bc9 := B12.cell 9
  have bc10 := B12.cell 10
  have bc11 := B12.cell 11
  simp at bc0 bc1 bc2 bc3 bc4 bc5 bc6 bc7 bc8 bc9 bc10 bc11
  clear hb12 B12 HW11 HM11 HB11 HBW11 HBG11 p0 p1 p2 p3 p4 p5 p6 p7
  go_wp2_with fail
  refine (TO.out _ (H1.out.below hC12) (H2.out.below hC12)).mono ?_
  rintro e w13 ⟨j1, j2, rfl, k1, k2, k3, bl, it, hb13⟩
  have hC13 := below_of hC12 hb13
  obtain ⟨_, _, e, s1, s2, -, -⟩ := (poolR_of bl it L.out.1 L.out.2).1.r
  simp at e
  obtain ⟨rfl, rfl⟩ := e
  have HS13 := Lib.hid (And.intro s1 s2)
  have HBW13 := Lib.hid (HBW12.out.below hb13 HBW12.out.lt)
  have HBG13 := Lib.hid (HBG12.out.below hb13 HBG12.out.lt)
  have HW13 := Lib.hid (NodeO.framed _ _ _ _ _ HW12.out (Agree.of_below hb13 HW12.out.lt))
  have HM13 := Lib.hid (NodeO.framed _ _ _ _ _ HM12.out (Agree.of_below hb13 HM12.out.lt))
  clear s1 s2 bl it k1 k2 k3 hb13 bc0 bc1 bc2 bc3 bc4 bc5 bc6 bc7 bc8 bc9 bc10 bc11 HW12 HM12 HBW12 HBG12
  go_wp2_with fail
  refine (IO.out _ _ _ (HG.out.below hC13 (Nat.le_refl _)) HS13.out.1 HS13.out.2).mono ?_
  rintro e w14 ⟨ds, bh, rfl, hH14, hndh, hlh, hb14⟩
  have hC14 := below_of hC13 hb14
  have hhlt := hH14.lt
  have HHO := Lib.hid hH14
  obtain ⟨_, _, rfl, n1, n2, -⟩ := hH14
  obtain ⟨K1, u1, rfl, -⟩ := own_form n1
  obtain ⟨K2, u2, rfl, -⟩ := own_form n2
  have hY14 : Below w14.heap.size w14 (w14.alloc (.cells #[.int .i64 r.id, .int .i64 r.pool, .int .i64 r.cap.c, .int .i64 r.cap.m, .int .i64 r.cap.p, .slice K1 r.labs.length u1, .slice K2 r.taints.length u2, .bool r.cordon] 35)) := (by repeat' (first | exact Below.refl _ _ | refine Below.alloc ?_ ?_ _ | refine Below.setCell ?_ ?_ _ | refine Below.drew ?_ | (apply below_step; assumption) | (simp; done) | (simp; omega) | omega))
  have hD14 := below_of hb14 hY14
  have hC14' := below_of hC14 hY14
  have HBW14 := Lib.hid (HBW13.out.below hD14 HBW13.out.lt)
  have HBG14 := Lib.hid (HBG13.out.below hD14 HBG13.out.lt)
  have HW14 := Lib.hid (NodeO.framed _ _ _ _ _ HW13.out (Agree.of_below hD14 HW13.out.lt))
  have HM14 := Lib.hid (NodeO.framed _ _ _ _ _ HM13.out (Agree.of_below hD14 HM13.out.lt))
  have HH14 := Lib.hid (NodeO.framed _ _ _ _ _ HHO.out (Agree.of_below hY14 hhlt))
  have hz14 : w14.heap.size < (w14.alloc (.cells #[.int .i64 r.id, .int .i64 r.pool, .int .i64 r.cap.c, .int .i64 r.cap.m, .int .i64 r.cap.p, .slice K1 r.labs.length u1, .slice K2 r.taints.length u2, .bool r.cordon] 35)).heap.size := by simp
  have q0 := HBW14.out.cell 0
  have q1 := HBW14.out.cell 1
  have q2 := HBW14.out.cell 2
  have q3 := HBW14.out.cell 3
  have q4 := HBW14.out.cell 4
  have q5 := HBW14.out.cell 5
  have q6 := HBW14.out.cell 6
  have q7 := HBW14.out.cell 7
  simp at q0 q1 q2 q3 q4 q5 q6 q7
  clear hb14 hndh hlh hhlt HHO n1 n2 HW13 HM13 HS13 HBW13 HBG13
  go_wp2_with fail
  clear q0 q1 q2 q3 q4 q5 q6 q7
  generalize w14.alloc (.cells #[.int .i64 r.id, .int .i64 r.pool, .int .i64 r.cap.c, .int .i64 r.cap.m, .int .i64 r.cap.p, .slice K1 r.labs.length u1, .slice K2 r.taints.length u2, .bool r.cordon] 35) = X14 at hY14 hD14 hC14' HBW14 HBG14 HW14 HM14 HH14 hz14 ⊢
  refine (eqNode_r r _ _ _ HH14.out.r HW14.out.r).mono ?_
  rintro e w15 ⟨rfl, hb15⟩
  have hC15 := below_of hC14' hb15
  have BG15 := HBG14.out.below hb15 HBG14.out.lt
  have HM15 := Lib.hid (NodeO.framed _ _ _ _ _ HM14.out (Agree.of_below hb15 HM14.out.lt))
  have p0 := BG15.cell 0
  have p1 := BG15.cell 1
  have p2 := BG15.cell 2
  have p3 := BG15.cell 3
  have p4 := BG15.cell 4
  have p5 := BG15.cell 5
  have p6 := BG15.cell 6
  have p7 := BG15.cell 7
  simp at p0 p1 p2 p3 p4 p5 p6 p7
  have pl := BG15.lt
  clear hb15 HW14 HM14 HH14 HBW14 HBG14 BG15
  go_wp2_with fail
  refine (HHE.out _ HM15.out.r).mono ?_
  rintro e w16 ⟨rfl, hb16⟩
  have hC16 := below_of hC15 hb16
  clear hb16
  go_wp2_with fail
  go_ret
  exact ⟨rfl, hC16⟩

theorem rowVars : ∀ n ∈ Rows.fnExactPoolNodeSpec.vars, ∃ g t ms, Tryd.prog.globalNamed n = some g ∧ (Tryd.prog.globals[g]?).map (·.type) = some t ∧ Tryd.prog.underlying t = some (.interface ms) := errVars
set_option maxRecDepth 100000 in
theorem contract (H : Type) (enc : TypeId × Value → H) (W : World) (base : Nat) (args : Array Value) (ds gs : List (DataW H)) (before : List MemPlace)
    (hval : ∀ (j : Nat) t v, Tryd.f5.params[j]? = some t → args[j]? = some v → Value.okWide Tryd.prog W .any base t v)
    (hW : DataW.Whole enc Tryd.prog Tryd.f5.params.toList Rows.fnExactPoolNodeSpec.vars false W args.toList ds gs before) (hL : laidMetH Tryd.prog Rows.fnExactPoolNodeRow.laid W) :
    Calls Tryd.prog 5 args W fun e W' => ∃ v, e = .returned v ∧ Rows.fnExactPoolNodeSpec.post enc Tryd.prog Tryd.f5 false true false false W args v W' := by
  have hW' := hW
  obtain ⟨p, q, hA0, hV, rfl, hfz, hnd⟩ := hW
  have hA : DataW.TrodAll enc Tryd.prog W 0 (fun _ => true) true Tryd.f5.params.toList args.toList ds p := hA0
  rw [Tryd.params5] at hA hval
  obtain ⟨v0, vs0, d0, ds0, p0, q0, hargs, rfl, rfl, h0, r0⟩ := trodAll_cons hA
  obtain ⟨v1, vs1, d1, ds1, p1, q1, rfl, rfl, rfl, h1, r1⟩ := trodAll_cons r0
  obtain ⟨rfl, rfl, rfl⟩ := trodAll_nil r1
  obtain rfl : args = #[v0, v1] := by cases args; simp_all
  rw [MakeChecks.laidMetH_plain _ _ _ (by kernel_rfl)] at hL
  obtain ⟨a0, x0, y0, rfl, sl0, si0, ml0, mi0⟩ := open_pool (hval 0 _ v0 rfl rfl) h0
  obtain ⟨a1, rfl, rfl, rfl, wn1⟩ := open_int Tryd.underlying3 (hval 1 _ v1 rfl rfl) h1
  obtain ⟨gg, tt, cs, fuel, d, pp, rfl, _⟩ := trodVars_one hV
  obtain ⟨x, hg⟩ := errAt_of_laid hL
  have fin : Calls Tryd.prog 5 #[.agg #[.int .i64 a0.id, .int .i64 a0.min, .int .i64 a0.max, .int .i64 a0.prio, .int .i64 a0.shape.id, .int .i64 a0.shape.pool, .int .i64 a0.shape.cap.c, .int .i64 a0.shape.cap.m, .int .i64 a0.shape.cap.p, x0, y0, .bool a0.shape.cordon], .int .i64 a1] W fun e w' => e = .returned (.bool true) ∧ Below W.heap.size W w' := by
    by_cases hs : a0.shape.labs.length + a0.shape.taints.length ≤ 1048576
    · exact walk a0 x0 y0 a1 W x hg sl0 si0 hs
    · exact walk_long a0 x0 y0 a1 W sl0 si0 ml0 mi0 (by omega)
  refine fin.mono fun e W' ⟨he, hb⟩ => ?_
  subst he
  exact ⟨_, rfl, law_post Tryd.laidOut (by rw [Tryd.params5]; intro t ht; have k0 : Tryd.prog.readableRec 29 = true ∧ 29 < Tryd.prog.types.size := ⟨by kernel_rfl, of_decide_eq_true (by kernel_rfl)⟩; have k1 : Tryd.prog.readableRec 3 = true ∧ 3 < Tryd.prog.types.size := ⟨by kernel_rfl, of_decide_eq_true (by kernel_rfl)⟩; simp at ht; rcases ht with rfl | rfl; all_goals (first | with_reducible exact k0 | with_reducible exact k1)) rowVars (tb := 4) rfl Tryd.underlying4 hW' rfl hb⟩

theorem door_met (os : Os) (args : Array Value) : laidMet Tryd.prog Rows.fnExactPoolNodeRow.laid ((World.doorLaid Tryd.prog 400 os).forCall (fun _ _ => 0) ⟨#[], args, []⟩).memory :=
  laidMet_of_run' 8 (by kernel_rfl) (by kernel_rfl)
set_option maxRecDepth 100000 in
theorem lifted (os : Os) (started : os.Started) (H : Type) (enc : TypeId × Value → H) (F : Stop.Interp) :
    ReturnsInHanded {} Tryd.checked os 5 .any ((OpenSpec.ofChange Rows.fnExactPoolNodeSpec).preRow enc Tryd.prog Tryd.f5 Rows.fnExactPoolNodeRow.domain false Rows.fnExactPoolNodeRow.laid) (((OpenSpec.ofChange Rows.fnExactPoolNodeSpec).at F).post enc Tryd.prog Tryd.f5 false true false false) := by
  refine returnsInHanded_of_row (C := Tryd.checked) (s := OpenSpec.ofChange Rows.fnExactPoolNodeSpec) Tryd.own started (by kernel_rfl) Tryd.func5
    (witness_row_atRef (enc := enc) (C := Tryd.checked) false (World.doorLaid Tryd.prog 400 os) #[.agg #[.int .i64 0, .int .i64 0, .int .i64 0, .int .i64 0, .int .i64 0, .int .i64 0, .int .i64 0, .int .i64 0, .int .i64 0, .slice none 0 0, .slice none 0 0, .bool false], .int .i64 0] rfl (by kernel_rfl) (by kernel_rfl) (by kernel_rfl)
      (OpenSpec.preRow_of_B rfl 8 (by kernel_rfl) (by kernel_rfl) (door_met os _))) ?_
  intro W base args ds gs before hval hW _ _ _ hL _ _
  exact contract H enc W base args ds gs before hval hW hL

theorem jIn : (Rows.fnExactPoolNodeRow.inPlace == Tryd.prog.inPlace 5) = true := by kernel_rfl
theorem jUn : (Rows.fnExactPoolNodeRow.unfollowed == Tryd.prog.unfollowed 5) = true := by kernel_rfl
theorem jRe : (Rows.fnExactPoolNodeRow.recurses == Tryd.prog.recurses 5) = true := by kernel_rfl
theorem jNa : (Rows.fnExactPoolNodeRow.named == Tryd.prog.varsNamed 5) = true := by kernel_rfl
theorem joined : joinedFacts Tryd.prog 5 Tryd.f5 (OpenSpec.ofChange Rows.fnExactPoolNodeSpec).bare Rows.fnExactPoolNodeRow = true :=
  joined_mk (by kernel_rfl) Tryd.laidOut pRowed (by kernel_rfl) (by kernel_rfl) rfl pStops rfl pKnobs jIn jUn jRe jNa (by kernel_rfl) (by kernel_rfl) (by kernel_rfl) (by kernel_rfl) (by kernel_rfl) (by kernel_rfl) (by kernel_rfl) (by kernel_rfl) (by kernel_rfl) pKeys (by kernel_rfl) pHeard pEnter pLifts pMake (by kernel_rfl) (by kernel_rfl) (by kernel_rfl) (by kernel_rfl)
theorem said : Rows.FnExactPoolNodeSaid :=
  OpenClaim.holds_of_cond 5 Tryd.f5 rfl rfl rfl rfl rfl rfl rfl ⟨rfl, rfl, rfl, rfl, rfl⟩ rfl rfl rfl rfl rfl (by kernel_rfl) Tryd.func5 joined
    (of_decide_eq_true (by kernel_rfl)) (by unfold Func.isWrapper; first | (rw [if_pos (by decide +kernel)]; kernel_rfl) | (rw [if_neg (by decide +kernel)]; exact ⟨rfl, rfl⟩))
    (fun os started H enc _ F => by rw [OpenClaim.pre_eq_preRow]; exact lifted os started H enc F)

theorem plain (f : FuncId) (fn : Func) (hf : Tryd.pinned.checked.prog.funcNamed "loop.example/g00718/laws.FnExactPoolNode" = some f) (hfn : Tryd.pinned.checked.prog.funcs[f]? = some fn) :
    true = Tryd.pinned.checked.prog.looks [] ∧ ∀ (j : Nat) t, fn.params[j]? = some t → Tryd.pinned.checked.prog.wantsStandIn t = false := by
  obtain rfl : f = 5 := Option.some.inj ((show Tryd.prog.funcNamed "loop.example/g00718/laws.FnExactPoolNode" = some 5 by kernel_rfl).symm.trans hf) |>.symm
  obtain rfl : fn = Tryd.f5 := (Option.some.inj (Tryd.func5.symm.trans hfn)).symm
  refine ⟨by kernel_rfl, fun j t ht => ?_⟩
  rw [Tryd.params5] at ht
  have hm := Array.mem_of_getElem? ht
  have k0 : Tryd.pinned.checked.prog.wantsStandIn 29 = false := (show Tryd.prog.wantsStandIn 29 = false by kernel_rfl)
  have k1 : Tryd.pinned.checked.prog.wantsStandIn 3 = false := (show Tryd.prog.wantsStandIn 3 = false by kernel_rfl)
  simp at hm
  rcases hm with rfl | rfl
  all_goals (first | with_reducible exact k0 | with_reducible exact k1)

/-- The card. -/
theorem card : Rows.FnExactPoolNodeCardSaid :=
  Claim7.holds_tied_plain_at .later [] _ _ _ _ said (fun _ h => by cases h) (by kernel_rfl) (fun _ h => by cases h) fnExactPoolNode_row_tie rfl ⟨rfl, rfl⟩ (by kernel_rfl) rfl plain (by kernel_rfl)
end Go.Proofs.YtocfgejceoenmaaDoor.fnExactPoolNode
