/- FnExactCanHost answers true at every node and task: CanHost and its model agree, and node and task are left as they were. Tied to impl.errRange's text. -/
import Derived.Test.YtmkpajjnjgnmkaaDoorMg02
namespace Go.Proofs.YtmkpajjnjgnmkaaDoor.fnExactCanHost
open Go.ChangeShapes Go.WideShapes Go.ChangeAt Go.RowKit Go.Joins

def left1 (n : NV) : Int := szTV 1048576 n.labs.length n.taints.length
set_option maxHeartbeats 1600000 in
theorem walk_long1 (n : NV) (u1 u2 tv : Value) (w : World) (k1 : LabSl w u1 n.labs) (k2 : IntSl w u2 n.taints) (m1 : n.labs.length ≤ maxLen) (m2 : n.taints.length ≤ maxLen) (h : 1048576 < n.labs.length + n.taints.length)
    (c0 c1 c2 c3 c4 c5 c6 : Value) (htv : tv = .agg #[c0, c1, c2, c3, c4, c5, c6]) :
    Calls Tryd.prog 3 #[.agg #[.int .i64 n.id, .int .i64 n.pool, .int .i64 n.cap.c, .int .i64 n.cap.m, .int .i64 n.cap.p, u1, u2, .bool n.cordon], tv] w fun e w' => e = .returned (.bool true) ∧ Below w.heap.size w w' := by
  subst htv
  obtain ⟨A1, d1, rfl, _⟩ := k1.form
  obtain ⟨A2, d2, rfl, _⟩ := k2.form
  have HSZ := Lib.hid (show szTV 1048576 n.labs.length n.taints.length = -1 by
    unfold szTV szLeft
    split
    · rw [if_neg (by omega)]
    · rfl)
  have M := Lib.hid (And.intro m1 m2)
  clear k1 k2 m1 m2 h
  go_enter Tryd.func3, Tryd.ntmps3
  go_wp2_with fail
  refine (szNode_any _ _ _ _ _ _ A1 A2 _ d1 _ d2 1048576 _ (by omega) (by omega) M.out.1 M.out.2).mono ?_
  rintro e w1 ⟨rfl, hb1⟩
  rw [HSZ.out]
  have hz1 := hb1.size
  simp at hz1
  go_wp2_with fail
  go_ret
  exact ⟨rfl, (by repeat' (first | exact Below.refl _ _ | refine Below.alloc ?_ ?_ _ | refine Below.setCell ?_ ?_ _ | refine Below.drew ?_ | (apply below_step; assumption) | (simp; done) | (simp; omega) | omega))⟩

set_option maxHeartbeats 1600000 in
theorem walk_long2 (n : NV) (t : TV) (u1 u2 v1 v2 : Value) (w : World) (k1 : LabSl w u1 n.labs) (k2 : IntSl w u2 n.taints) (h1 : LabSl w v1 t.want) (h2 : IntSl w v2 t.tols)
    (m1 : t.want.length ≤ maxLen) (m2 : t.tols.length ≤ maxLen) (h : n.labs.length + n.taints.length ≤ 1048576) (hh : 1048576 < n.labs.length + n.taints.length + t.want.length + t.tols.length) :
    Calls Tryd.prog 3 #[.agg #[.int .i64 n.id, .int .i64 n.pool, .int .i64 n.cap.c, .int .i64 n.cap.m, .int .i64 n.cap.p, u1, u2, .bool n.cordon], .agg #[.int .i64 t.id, .int .i64 t.prio, .int .i64 t.need.c, .int .i64 t.need.m, .int .i64 t.need.p, v1, v2]] w fun e w' => e = .returned (.bool true) ∧ Below w.heap.size w w' := by
  obtain ⟨A1, d1, e1, _⟩ := k1.form
  obtain ⟨A2, d2, e2, _⟩ := k2.form
  obtain ⟨A3, d3, e3, _⟩ := h1.form
  obtain ⟨A4, d4, e4, _⟩ := h2.form
  have hz : ∃ z : Int, z = 1048576 - n.labs.length - n.taints.length ∧ 0 ≤ z ∧ z ≤ 1048576 ∧ szTV z t.want.length t.tols.length = -1 := by
    refine ⟨_, rfl, by omega, by omega, ?_⟩
    unfold szTV szLeft
    split
    · rw [if_neg (by omega)]
    · rfl
  obtain ⟨z, hz, hz0, hz1, hzz⟩ := hz
  have hn := fun w => szNode_any (.int .i64 n.id) (.int .i64 n.pool) (.int .i64 n.cap.c) (.int .i64 n.cap.m) (.int .i64 n.cap.p) (.bool n.cordon) A1 A2 n.labs.length d1 n.taints.length d2 1048576 w (by omega) (by omega) (by unfold maxLen; omega) (by unfold maxLen; omega)
  have ht := fun w => szTask_any (.int .i64 t.id) (.int .i64 t.prio) (.int .i64 t.need.c) (.int .i64 t.need.m) (.int .i64 t.need.p) A3 A4 t.want.length d3 t.tols.length d4 z w hz0 hz1 m1 m2
  rw [show szTV 1048576 n.labs.length n.taints.length = z by unfold szTV szLeft; rw [if_pos (by omega), if_pos (by omega), hz], ← e1, ← e2] at hn
  rw [hzz, ← e3, ← e4] at ht
  have HN := Lib.hid hn
  have HT := Lib.hid ht
  clear hn ht hz hzz k1 k2 h1 h2 m1 m2 h hh e1 e2 e3 e4
  go_enter Tryd.func3, Tryd.ntmps3
  go_wp2_with fail
  refine (HN.out _).mono ?_
  rintro e w1 ⟨rfl, hb1⟩
  have hz1 := hb1.size
  simp at hz1
  obtain ⟨hc1, hf1⟩ := bcell hb1
  go_wp2_with fail
  refine (HT.out _).mono ?_
  rintro e w2 ⟨rfl, hb2⟩
  have hz2 := hb2.size
  go_wp2_with fail
  go_ret
  exact ⟨rfl, (by repeat' (first | exact Below.refl _ _ | refine Below.alloc ?_ ?_ _ | refine Below.setCell ?_ ?_ _ | refine Below.drew ?_ | (apply below_step; assumption) | (simp; done) | (simp; omega) | omega))⟩

set_option maxHeartbeats 3200000 in
theorem walk (n : NV) (t : TV) (u1 u2 v1 v2 : Value) (w : World) (x : Addr) (hg : ErrAt x w) (k1 : LabSl w u1 n.labs) (k2 : IntSl w u2 n.taints) (h1 : LabSl w v1 t.want) (h2 : IntSl w v2 t.tols)
    (h : n.labs.length + n.taints.length + t.want.length + t.tols.length ≤ 1048576) :
    Calls Tryd.prog 3 #[.agg #[.int .i64 n.id, .int .i64 n.pool, .int .i64 n.cap.c, .int .i64 n.cap.m, .int .i64 n.cap.p, u1, u2, .bool n.cordon], .agg #[.int .i64 t.id, .int .i64 t.prio, .int .i64 t.need.c, .int .i64 t.need.m, .int .i64 t.need.p, v1, v2]] w fun e w' => e = .returned (.bool true) ∧ Below w.heap.size w w' := by
  obtain ⟨A1, d1, e1, _⟩ := k1.form
  obtain ⟨A2, d2, e2, _⟩ := k2.form
  obtain ⟨A3, d3, e3, _⟩ := h1.form
  obtain ⟨A4, d4, e4, _⟩ := h2.form
  have hz : ∃ z : Int, z = 1048576 - n.labs.length - n.taints.length ∧ 0 ≤ z ∧ z ≤ 1048576 ∧ ∃ y : Int, 0 ≤ y ∧ szTV z t.want.length t.tols.length = y := by
    refine ⟨_, rfl, by omega, by omega, _, ?_, rfl⟩
    unfold szTV szLeft
    rw [if_pos (by omega), if_pos (by omega)]; omega
  obtain ⟨z, hz, hz0, hz1, y, hy, hzz⟩ := hz
  have hn := fun w => szNode_any (.int .i64 n.id) (.int .i64 n.pool) (.int .i64 n.cap.c) (.int .i64 n.cap.m) (.int .i64 n.cap.p) (.bool n.cordon) A1 A2 n.labs.length d1 n.taints.length d2 1048576 w (by omega) (by omega) (by unfold maxLen; omega) (by unfold maxLen; omega)
  have ht := fun w => szTask_any (.int .i64 t.id) (.int .i64 t.prio) (.int .i64 t.need.c) (.int .i64 t.need.m) (.int .i64 t.need.p) A3 A4 t.want.length d3 t.tols.length d4 z w hz0 hz1 (by unfold maxLen; omega) (by unfold maxLen; omega)
  rw [show szTV 1048576 n.labs.length n.taints.length = z by unfold szTV szLeft; rw [if_pos (by omega), if_pos (by omega), hz], ← e1, ← e2] at hn
  rw [hzz, ← e3, ← e4] at ht
  have M1 := Lib.hid (show n.labs.length ≤ 1048576 by omega)
  have M2 := Lib.hid (show n.taints.length ≤ 1048576 by omega)
  have L1 := Lib.hid (show t.want.length ≤ 1048576 by omega)
  have L2 := Lib.hid (show t.tols.length ≤ 1048576 by omega)
  have tn := fun w a b => toNode_sl n u1 u2 w a b M1.out M2.out
  have tt := fun w a b => toTask_sl t v1 v2 w a b L1.out L2.out
  have so := fun a b c d w h1 h2 h3 h4 => sCanHost_any n t a b c d w h1 h2 h3 h4 M1.out M2.out L1.out L2.out
  have io := fun a b c d w x hg h1 h2 h3 h4 => CanHost_any n t a b c d w x hg h1 h2 h3 h4 M1.out M2.out L1.out L2.out
  generalize canHost n t = ok at so io
  have hne : (ok != ok) = false := by simp
  have HN := Lib.hid hn
  have HT := Lib.hid ht
  have TN := Lib.hid tn
  have TT := Lib.hid tt
  have SO := Lib.hid so
  have IO := Lib.hid io
  have HG := Lib.hid hg
  have K1 := Lib.hid k1
  have K2 := Lib.hid k2
  have H1 := Lib.hid h1
  have H2 := Lib.hid h2
  clear hn ht tn tt so io hg hz hzz k1 k2 h1 h2 h e1 e2 e3 e4
  go_enter Tryd.func3, Tryd.ntmps3
  go_wp2_with fail
  refine (HN.out _).mono ?_
  rintro e w1 ⟨rfl, hb1⟩
  have hz1' := hb1.size
  simp at hz1'
  obtain ⟨hc1, hf1⟩ := bcell hb1
  have BN1 := Lib.hid (((BlockIs.new w 27 #[.int .i64 n.id, .int .i64 n.pool, .int .i64 n.cap.c, .int .i64 n.cap.m, .int .i64 n.cap.p, u1, u2, .bool n.cordon]).alloc (.cells #[.int .i64 t.id, .int .i64 t.prio, .int .i64 t.need.c, .int .i64 t.need.m, .int .i64 t.need.p, v1, v2] 29)).below hb1 (by simp; omega))
  have BT1 := Lib.hid ((BlockIs.new' (w := w.alloc (.cells #[.int .i64 n.id, .int .i64 n.pool, .int .i64 n.cap.c, .int .i64 n.cap.m, .int .i64 n.cap.p, u1, u2, .bool n.cordon] 27)) (g := w.heap.size + 1) (t := 29) (cs := #[.int .i64 t.id, .int .i64 t.prio, .int .i64 t.need.c, .int .i64 t.need.m, .int .i64 t.need.p, v1, v2]) (by simp)).below hb1 (by simp))
  have G1 := Lib.hid (((HG.out.alloc (.cells #[.int .i64 n.id, .int .i64 n.pool, .int .i64 n.cap.c, .int .i64 n.cap.m, .int .i64 n.cap.p, u1, u2, .bool n.cordon] 27)).alloc (.cells #[.int .i64 t.id, .int .i64 t.prio, .int .i64 t.need.c, .int .i64 t.need.m, .int .i64 t.need.p, v1, v2] 29)).below hb1 (Nat.le_refl _))
  have hC1 : Below w.heap.size w w1 := (by repeat' (first | exact Below.refl _ _ | refine Below.alloc ?_ ?_ _ | refine Below.setCell ?_ ?_ _ | refine Below.drew ?_ | (apply below_step; assumption) | (simp; done) | (simp; omega) | omega))
  go_wp2_with fail
  refine (HT.out _).mono ?_
  rintro e w2 ⟨rfl, hb2⟩
  have hC2 : Below w.heap.size w w2 := below_of hC1 hb2
  have BN2 := BN1.out.below hb2 BN1.out.lt
  have BT2 := BT1.out.below hb2 BT1.out.lt
  have HK := Lib.hid (show ∀ w', Below w2.heap.size w2 w' → Below w2.heap.size w2 w' ∧ (∀ o, w'.cell? ⟨w.heap.size, o, none⟩ = (#[.int .i64 n.id, .int .i64 n.pool, .int .i64 n.cap.c, .int .i64 n.cap.m, .int .i64 n.cap.p, u1, u2, .bool n.cordon] : Array Value)[o]?) ∧ (∀ o, w'.cell? ⟨w.heap.size + 1, o, none⟩ = (#[.int .i64 t.id, .int .i64 t.prio, .int .i64 t.need.c, .int .i64 t.need.m, .int .i64 t.need.p, v1, v2] : Array Value)[o]?) from
    fun w' hb => ⟨hb, (BN2.below hb BN2.lt).cell, (BT2.below hb BT2.lt).cell⟩)
  have G2 := Lib.hid (G1.out.below hb2 (Nat.le_refl _))
  have cN := BN2.cell
  have cT := BT2.cell
  have BB := Lib.hid (And.intro BN2 BT2)
  clear BN1 BT1 BN2 BT2 hb1 hc1 hf1 hz1' G1 hC1 hb2
  go_upto_region 8 with fail
  go_cut [6] (fun s6 wx => s6 = .bool ok ∧ Below w2.heap.size w2 wx)
  case first =>
    go_region_held3 (fun w' => Below w2.heap.size w2 w' ∧ (∀ o, w'.cell? ⟨w.heap.size, o, none⟩ = (#[.int .i64 n.id, .int .i64 n.pool, .int .i64 n.cap.c, .int .i64 n.cap.m, .int .i64 n.cap.p, u1, u2, .bool n.cordon] : Array Value)[o]?) ∧ (∀ o, w'.cell? ⟨w.heap.size + 1, o, none⟩ = (#[.int .i64 t.id, .int .i64 t.prio, .int .i64 t.need.c, .int .i64 t.need.m, .int .i64 t.need.p, v1, v2] : Array Value)[o]?))
      (exact HK.out _ (by repeat' (first | exact Below.refl _ _ | refine Below.alloc ?_ ?_ _ | refine Below.setCell ?_ ?_ _ | refine Below.drew ?_ | (apply below_step; assumption) | (simp; done) | (simp; omega) | omega)))
      (first
        | (go_at_call 7; refine (TN.out _ (K1.out.below (below_of hC2 (by repeat' (first | exact Below.refl _ _ | refine Below.alloc ?_ ?_ _ | refine Below.setCell ?_ ?_ _ | refine Below.drew ?_ | (apply below_step; assumption) | (simp; done) | (simp; omega) | omega)))) (K2.out.below (below_of hC2 (by repeat' (first | exact Below.refl _ _ | refine Below.alloc ?_ ?_ _ | refine Below.setCell ?_ ?_ _ | refine Below.drew ?_ | (apply below_step; assumption) | (simp; done) | (simp; omega) | omega))))).mono ?_; rintro e w3 ⟨a1, a2, rfl, p1, p2, hb3⟩; have hz3 := hb3.size; try simp at hz3)
        | (go_at_call 8; refine (TT.out _ (H1.out.below (below_of hC2 (by repeat' (first | exact Below.refl _ _ | refine Below.alloc ?_ ?_ _ | refine Below.setCell ?_ ?_ _ | refine Below.drew ?_ | (apply below_step; assumption) | (simp; done) | (simp; omega) | omega)))) (H2.out.below (below_of hC2 (by repeat' (first | exact Below.refl _ _ | refine Below.alloc ?_ ?_ _ | refine Below.setCell ?_ ?_ _ | refine Below.drew ?_ | (apply below_step; assumption) | (simp; done) | (simp; omega) | omega))))).mono ?_; rintro e w4 ⟨b1, b2, rfl, q1, q2, hb4⟩; have hz4 := hb4.size; try simp at hz4)
        | (go_at_call 6; refine (SO.out _ _ _ _ _ (p1.below (by repeat' (first | exact Below.refl _ _ | refine Below.alloc ?_ ?_ _ | refine Below.setCell ?_ ?_ _ | refine Below.drew ?_ | (apply below_step; assumption) | (simp; done) | (simp; omega) | omega))) (p2.below (by repeat' (first | exact Below.refl _ _ | refine Below.alloc ?_ ?_ _ | refine Below.setCell ?_ ?_ _ | refine Below.drew ?_ | (apply below_step; assumption) | (simp; done) | (simp; omega) | omega))) (q1.below (by repeat' (first | exact Below.refl _ _ | refine Below.alloc ?_ ?_ _ | refine Below.setCell ?_ ?_ _ | refine Below.drew ?_ | (apply below_step; assumption) | (simp; done) | (simp; omega) | omega))) (q2.below (by repeat' (first | exact Below.refl _ _ | refine Below.alloc ?_ ?_ _ | refine Below.setCell ?_ ?_ _ | refine Below.drew ?_ | (apply below_step; assumption) | (simp; done) | (simp; omega) | omega)))).mono ?_; rintro e w5 ⟨rfl, hb5⟩; have hz5 := hb5.size; try simp at hz5))
    all_goals
      go_wp2_with fail
      go_meet
      exact ⟨rfl, (by repeat' (first | exact Below.refl _ _ | refine Below.alloc ?_ ?_ _ | refine Below.setCell ?_ ?_ _ | refine Below.drew ?_ | (apply below_step; assumption) | (simp; done) | (simp; omega) | omega))⟩
  case rest =>
    obtain ⟨rfl, hB3⟩ := hcut
    have hC3 := below_of hC2 hB3
    have BN3 := BB.out.1.below hB3 BB.out.1.lt
    have BT3 := BB.out.2.below hB3 BB.out.2.lt
    have G3 := Lib.hid (G2.out.below hB3 (Nat.le_refl _))
    have cN3 := BN3.cell
    have B3 := Lib.hid (And.intro BN3 BT3)
    clear BN3 BT3 cN cT HK BB G2 hB3 hC2
    go_wp2_with fail
    refine (TN.out _ (K1.out.below hC3) (K2.out.below hC3)).mono ?_
    rintro e w4 ⟨a1, a2, rfl, p1, p2, hb4⟩
    obtain ⟨A5, d5, rfl, _⟩ := p1.form
    obtain ⟨A6, d6, rfl, _⟩ := p2.form
    have hC4 := below_of hC3 hb4
    have BN4 := B3.out.1.below hb4 B3.out.1.lt
    have BT4 := B3.out.2.below hb4 B3.out.2.lt
    have G4 := Lib.hid (G3.out.below hb4 (Nat.le_refl _))
    have cT4 := BT4.cell
    have lT4 := BT4.lt
    have B4 := Lib.hid (And.intro BN4 BT4)
    have P1 := Lib.hid p1
    have P2 := Lib.hid p2
    clear BN4 BT4 cN3 p1 p2 B3 G3 hb4 hC3
    go_wp2_with fail
    have hA4 : Below w4.heap.size w4 (w4.alloc (.cells #[.int .i64 n.id, .int .i64 n.pool, .int .i64 n.cap.c, .int .i64 n.cap.m, .int .i64 n.cap.p, .slice A5 n.labs.length d5, .slice A6 n.taints.length d6, .bool n.cordon] 36)) := (by repeat' (first | exact Below.refl _ _ | refine Below.alloc ?_ ?_ _ | refine Below.setCell ?_ ?_ _ | refine Below.drew ?_ | (apply below_step; assumption) | (simp; done) | (simp; omega) | omega))
    have hC4' := below_of hC4 hA4
    refine (TT.out _ (H1.out.below hC4') (H2.out.below hC4')).mono ?_
    rintro e w5 ⟨b1, b2, rfl, q1, q2, hb5⟩
    obtain ⟨A7, d7, rfl, _⟩ := q1.form
    obtain ⟨A8, d8, rfl, _⟩ := q2.form
    have hD5 := below_of hA4 hb5
    have hC5 := below_of hC4 hD5
    have X0 := (BlockIs.new w4 36 #[.int .i64 n.id, .int .i64 n.pool, .int .i64 n.cap.c, .int .i64 n.cap.m, .int .i64 n.cap.p, .slice A5 n.labs.length d5, .slice A6 n.taints.length d6, .bool n.cordon]).below hb5 (by simp)
    have BN5 := B4.out.1.below hD5 B4.out.1.lt
    have BT5 := B4.out.2.below hD5 B4.out.2.lt
    have G5 := Lib.hid (G4.out.below hD5 (Nat.le_refl _))
    have c05 := X0.cell
    have l05 := X0.lt
    have B5 := Lib.hid (And.intro X0 (And.intro BN5 BT5))
    have R1 := Lib.hid (P1.out.below hD5)
    have R2 := Lib.hid (P2.out.below hD5)
    have Q1 := Lib.hid q1
    have Q2 := Lib.hid q2
    clear X0 BN5 BT5 cT4 q1 q2 P1 P2 B4 G4 hb5 hC4 hC4' hA4 hD5
    go_wp2_with fail
    have hA5 : Below w5.heap.size w5 (w5.alloc (.cells #[.int .i64 t.id, .int .i64 t.prio, .int .i64 t.need.c, .int .i64 t.need.m, .int .i64 t.need.p, .slice A7 t.want.length d7, .slice A8 t.tols.length d8] 39)) := (by repeat' (first | exact Below.refl _ _ | refine Below.alloc ?_ ?_ _ | refine Below.setCell ?_ ?_ _ | refine Below.drew ?_ | (apply below_step; assumption) | (simp; done) | (simp; omega) | omega))
    refine (IO.out _ _ _ _ _ x (G5.out.alloc _) (R1.out.below hA5) (R2.out.below hA5) (Q1.out.below hA5) (Q2.out.below hA5)).mono ?_
    rintro e w6 ⟨rfl, hb6⟩
    have hD6 := below_of hA5 hb6
    have hC6 := below_of hC5 hD6
    have X1 := (BlockIs.new w5 39 #[.int .i64 t.id, .int .i64 t.prio, .int .i64 t.need.c, .int .i64 t.need.m, .int .i64 t.need.p, .slice A7 t.want.length d7, .slice A8 t.tols.length d8]).below hb6 (by simp)
    have X0 := B5.out.1.below hD6 B5.out.1.lt
    have BN6 := B5.out.2.1.below hD6 B5.out.2.1.lt
    have BT6 := B5.out.2.2.below hD6 B5.out.2.2.lt
    have R16 := Lib.hid (R1.out.below hD6)
    have R26 := Lib.hid (R2.out.below hD6)
    have Q16 := Lib.hid (Q1.out.below hD6)
    have Q26 := Lib.hid (Q2.out.below hD6)
    have cX0 := X0.cell
    have cN := BN6.cell
    have HK := Lib.hid (show ∀ w', Below w6.heap.size w6 w' → Below w6.heap.size w6 w' ∧ (∀ o, w'.cell? ⟨w.heap.size, o, none⟩ = (#[.int .i64 n.id, .int .i64 n.pool, .int .i64 n.cap.c, .int .i64 n.cap.m, .int .i64 n.cap.p, u1, u2, .bool n.cordon] : Array Value)[o]?) ∧ (∀ o, w'.cell? ⟨w4.heap.size, o, none⟩ = (#[.int .i64 n.id, .int .i64 n.pool, .int .i64 n.cap.c, .int .i64 n.cap.m, .int .i64 n.cap.p, .slice A5 n.labs.length d5, .slice A6 n.taints.length d6, .bool n.cordon] : Array Value)[o]?) from
      fun w' hb => ⟨hb, (BN6.below hb BN6.lt).cell, (X0.below hb X0.lt).cell⟩)
    have B6 := Lib.hid (And.intro X1 BT6)
    clear X0 X1 BN6 BT6 c05 B5 R1 R2 Q1 Q2 G5 hb6 hA5 hD6 hC5
    go_upto_region 14 with fail
    go_cut [39] (fun s39 wx => s39 = .bool false ∧ Below w6.heap.size w6 wx)
    case first =>
      go_region_held3 (fun w' => Below w6.heap.size w6 w' ∧ (∀ o, w'.cell? ⟨w.heap.size, o, none⟩ = (#[.int .i64 n.id, .int .i64 n.pool, .int .i64 n.cap.c, .int .i64 n.cap.m, .int .i64 n.cap.p, u1, u2, .bool n.cordon] : Array Value)[o]?) ∧ (∀ o, w'.cell? ⟨w4.heap.size, o, none⟩ = (#[.int .i64 n.id, .int .i64 n.pool, .int .i64 n.cap.c, .int .i64 n.cap.m, .int .i64 n.cap.p, .slice A5 n.labs.length d5, .slice A6 n.taints.length d6, .bool n.cordon] : Array Value)[o]?))
        (exact HK.out _ (by repeat' (first | exact Below.refl _ _ | refine Below.alloc ?_ ?_ _ | refine Below.setCell ?_ ?_ _ | refine Below.drew ?_ | (apply below_step; assumption) | (simp; done) | (simp; omega) | omega)))
        (first
          | (go_at_call 7; refine (TN.out _ (K1.out.below (below_of hC6 (by repeat' (first | exact Below.refl _ _ | refine Below.alloc ?_ ?_ _ | refine Below.setCell ?_ ?_ _ | refine Below.drew ?_ | (apply below_step; assumption) | (simp; done) | (simp; omega) | omega)))) (K2.out.below (below_of hC6 (by repeat' (first | exact Below.refl _ _ | refine Below.alloc ?_ ?_ _ | refine Below.setCell ?_ ?_ _ | refine Below.drew ?_ | (apply below_step; assumption) | (simp; done) | (simp; omega) | omega))))).mono ?_; rintro e w7 ⟨j1, j2, rfl, p1, p2, hb7⟩; have hz7 := hb7.size; try simp at hz7)
          | (go_at_call 10; refine (eqNode_same n _ _ _ _ _ (R16.out.below (by repeat' (first | exact Below.refl _ _ | refine Below.alloc ?_ ?_ _ | refine Below.setCell ?_ ?_ _ | refine Below.drew ?_ | (apply below_step; assumption) | (simp; done) | (simp; omega) | omega))) (R26.out.below (by repeat' (first | exact Below.refl _ _ | refine Below.alloc ?_ ?_ _ | refine Below.setCell ?_ ?_ _ | refine Below.drew ?_ | (apply below_step; assumption) | (simp; done) | (simp; omega) | omega))) (p1.below (by repeat' (first | exact Below.refl _ _ | refine Below.alloc ?_ ?_ _ | refine Below.setCell ?_ ?_ _ | refine Below.drew ?_ | (apply below_step; assumption) | (simp; done) | (simp; omega) | omega))) (p2.below (by repeat' (first | exact Below.refl _ _ | refine Below.alloc ?_ ?_ _ | refine Below.setCell ?_ ?_ _ | refine Below.drew ?_ | (apply below_step; assumption) | (simp; done) | (simp; omega) | omega))) M1.out M2.out).mono ?_; rintro e w8 ⟨rfl, hb8⟩; have hz8 := hb8.size; try simp at hz8))
      all_goals
        go_wp2_with fail
        go_meet
        exact ⟨rfl, (by repeat' (first | exact Below.refl _ _ | refine Below.alloc ?_ ?_ _ | refine Below.setCell ?_ ?_ _ | refine Below.drew ?_ | (apply below_step; assumption) | (simp; done) | (simp; omega) | omega))⟩
    case rest =>
      obtain ⟨rfl, hB7⟩ := hcut
      have hC7 := below_of hC6 hB7
      have X1 := B6.out.1.below hB7 B6.out.1.lt
      have BT7 := B6.out.2.below hB7 B6.out.2.lt
      have Q17 := Lib.hid (Q16.out.below hB7)
      have Q27 := Lib.hid (Q26.out.below hB7)
      have cX1 := X1.cell
      have cT := BT7.cell
      have HK2 := Lib.hid (show ∀ w', Below wc.heap.size wc w' → Below wc.heap.size wc w' ∧ (∀ o, w'.cell? ⟨w.heap.size + 1, o, none⟩ = (#[.int .i64 t.id, .int .i64 t.prio, .int .i64 t.need.c, .int .i64 t.need.m, .int .i64 t.need.p, v1, v2] : Array Value)[o]?) ∧ (∀ o, w'.cell? ⟨w5.heap.size, o, none⟩ = (#[.int .i64 t.id, .int .i64 t.prio, .int .i64 t.need.c, .int .i64 t.need.m, .int .i64 t.need.p, .slice A7 t.want.length d7, .slice A8 t.tols.length d8] : Array Value)[o]?) from
        fun w' hb => ⟨hb, (BT7.below hb BT7.lt).cell, (X1.below hb X1.lt).cell⟩)
      clear X1 BT7 B6 HK cX0 cN Q16 Q26 R16 R26 hB7 hC6
      go_upto_region 16 with fail
      go_region_held3 (fun w' => Below wc.heap.size wc w' ∧ (∀ o, w'.cell? ⟨w.heap.size + 1, o, none⟩ = (#[.int .i64 t.id, .int .i64 t.prio, .int .i64 t.need.c, .int .i64 t.need.m, .int .i64 t.need.p, v1, v2] : Array Value)[o]?) ∧ (∀ o, w'.cell? ⟨w5.heap.size, o, none⟩ = (#[.int .i64 t.id, .int .i64 t.prio, .int .i64 t.need.c, .int .i64 t.need.m, .int .i64 t.need.p, .slice A7 t.want.length d7, .slice A8 t.tols.length d8] : Array Value)[o]?))
        (exact HK2.out _ (by repeat' (first | exact Below.refl _ _ | refine Below.alloc ?_ ?_ _ | refine Below.setCell ?_ ?_ _ | refine Below.drew ?_ | (apply below_step; assumption) | (simp; done) | (simp; omega) | omega)))
        (first
          | (go_at_call 8; refine (TT.out _ (H1.out.below (below_of hC7 (by repeat' (first | exact Below.refl _ _ | refine Below.alloc ?_ ?_ _ | refine Below.setCell ?_ ?_ _ | refine Below.drew ?_ | (apply below_step; assumption) | (simp; done) | (simp; omega) | omega)))) (H2.out.below (below_of hC7 (by repeat' (first | exact Below.refl _ _ | refine Below.alloc ?_ ?_ _ | refine Below.setCell ?_ ?_ _ | refine Below.drew ?_ | (apply below_step; assumption) | (simp; done) | (simp; omega) | omega))))).mono ?_; rintro e w8 ⟨j1, j2, rfl, p1, p2, hb8⟩; have hz8 := hb8.size; try simp at hz8)
          | (go_at_call 11; refine (eqTask_same t _ _ _ _ _ (Q17.out.below (by repeat' (first | exact Below.refl _ _ | refine Below.alloc ?_ ?_ _ | refine Below.setCell ?_ ?_ _ | refine Below.drew ?_ | (apply below_step; assumption) | (simp; done) | (simp; omega) | omega))) (Q27.out.below (by repeat' (first | exact Below.refl _ _ | refine Below.alloc ?_ ?_ _ | refine Below.setCell ?_ ?_ _ | refine Below.drew ?_ | (apply below_step; assumption) | (simp; done) | (simp; omega) | omega))) (p1.below (by repeat' (first | exact Below.refl _ _ | refine Below.alloc ?_ ?_ _ | refine Below.setCell ?_ ?_ _ | refine Below.drew ?_ | (apply below_step; assumption) | (simp; done) | (simp; omega) | omega))) (p2.below (by repeat' (first | exact Below.refl _ _ | refine Below.alloc ?_ ?_ _ | refine Below.setCell ?_ ?_ _ | refine Below.drew ?_ | (apply below_step; assumption) | (simp; done) | (simp; omega) | omega))) L1.out L2.out).mono ?_; rintro e w9 ⟨rfl, hb9⟩; have hz9 := hb9.size; try simp at hz9))
      all_goals
        go_wp2_with fail
        go_ret
        exact ⟨rfl, below_of hC7 (by repeat' (first | exact Below.refl _ _ | refine Below.alloc ?_ ?_ _ | refine Below.setCell ?_ ?_ _ | refine Below.drew ?_ | (apply below_step; assumption) | (simp; done) | (simp; omega) | omega))⟩

theorem rowVars : ∀ n ∈ Rows.fnExactCanHostSpec.vars, ∃ g t ms, Tryd.prog.globalNamed n = some g ∧ (Tryd.prog.globals[g]?).map (·.type) = some t ∧ Tryd.prog.underlying t = some (.interface ms) := errVars
set_option maxRecDepth 100000 in
theorem contract (H : Type) (enc : TypeId × Value → H) (W : World) (base : Nat) (args : Array Value) (ds gs : List (DataW H)) (before : List MemPlace)
    (hval : ∀ (j : Nat) t v, Tryd.f3.params[j]? = some t → args[j]? = some v → Value.okWide Tryd.prog W .any base t v)
    (hW : DataW.Whole enc Tryd.prog Tryd.f3.params.toList Rows.fnExactCanHostSpec.vars false W args.toList ds gs before) (hL : laidMetH Tryd.prog Rows.fnExactCanHostRow.laid W) :
    Calls Tryd.prog 3 args W fun e W' => ∃ v, e = .returned v ∧ Rows.fnExactCanHostSpec.post enc Tryd.prog Tryd.f3 false true false false W args v W' := by
  have hW' := hW
  obtain ⟨p, q, hA0, hV, rfl, hfz, hnd⟩ := hW
  have hA : DataW.TrodAll enc Tryd.prog W 0 (fun _ => true) true Tryd.f3.params.toList args.toList ds p := hA0
  rw [Tryd.params3] at hA hval
  obtain ⟨v0, vs0, d0, ds0, p0, q0, hargs, rfl, rfl, h0, r0⟩ := trodAll_cons hA
  obtain ⟨v1, vs1, d1, ds1, p1, q1, rfl, rfl, rfl, h1, r1⟩ := trodAll_cons r0
  obtain ⟨rfl, rfl, rfl⟩ := trodAll_nil r1
  obtain rfl : args = #[v0, v1] := by cases args; simp_all
  rw [MakeChecks.laidMetH_plain _ _ _ (by kernel_rfl)] at hL
  obtain ⟨a0, x0, y0, rfl, sl0, si0, ml0, mi0⟩ := open_node (hval 0 _ v0 rfl rfl) h0
  obtain ⟨a1, x1, y1, rfl, sl1, si1, ml1, mi1⟩ := open_task (hval 1 _ v1 rfl rfl) h1
  obtain ⟨gg, tt, cs, fuel, d, pp, rfl, _⟩ := trodVars_one hV
  obtain ⟨x, hg⟩ := errAt_of_laid hL
  have fin : Calls Tryd.prog 3 #[.agg #[.int .i64 a0.id, .int .i64 a0.pool, .int .i64 a0.cap.c, .int .i64 a0.cap.m, .int .i64 a0.cap.p, x0, y0, .bool a0.cordon], .agg #[.int .i64 a1.id, .int .i64 a1.prio, .int .i64 a1.need.c, .int .i64 a1.need.m, .int .i64 a1.need.p, x1, y1]] W fun e w' => e = .returned (.bool true) ∧ Below W.heap.size W w' := by
    by_cases hs : a0.labs.length + a0.taints.length ≤ 1048576
    · by_cases hs2 : a0.labs.length + a0.taints.length + a1.want.length + a1.tols.length ≤ 1048576
      · exact walk a0 a1 x0 y0 x1 y1 W x hg sl0 si0 sl1 si1 hs2
      · exact walk_long2 a0 a1 x0 y0 x1 y1 W sl0 si0 sl1 si1 ml1 mi1 hs (by omega)
    · exact walk_long1 a0 x0 y0 _ W sl0 si0 ml0 mi0 (by omega) _ _ _ _ _ _ _ rfl
  refine fin.mono fun e W' ⟨he, hb⟩ => ?_
  subst he
  exact ⟨_, rfl, law_post Tryd.laidOut (by rw [Tryd.params3]; intro t ht; have k0 : Tryd.prog.readableRec 27 = true ∧ 27 < Tryd.prog.types.size := ⟨by kernel_rfl, of_decide_eq_true (by kernel_rfl)⟩; have k1 : Tryd.prog.readableRec 29 = true ∧ 29 < Tryd.prog.types.size := ⟨by kernel_rfl, of_decide_eq_true (by kernel_rfl)⟩; simp at ht; rcases ht with rfl | rfl; all_goals (first | with_reducible exact k0 | with_reducible exact k1)) rowVars (tb := 4) rfl Tryd.underlying4 hW' rfl hb⟩

theorem door_met (os : Os) (args : Array Value) : laidMet Tryd.prog Rows.fnExactCanHostRow.laid ((World.doorLaid Tryd.prog 400 os).forCall (fun _ _ => 0) ⟨#[], args, []⟩).memory :=
  laidMet_of_run' 8 (by kernel_rfl) (by kernel_rfl)
set_option maxRecDepth 100000 in
theorem lifted (os : Os) (started : os.Started) (H : Type) (enc : TypeId × Value → H) (F : Stop.Interp) :
    ReturnsInHanded {} Tryd.checked os 3 .any ((OpenSpec.ofChange Rows.fnExactCanHostSpec).preRow enc Tryd.prog Tryd.f3 Rows.fnExactCanHostRow.domain false Rows.fnExactCanHostRow.laid) (((OpenSpec.ofChange Rows.fnExactCanHostSpec).at F).post enc Tryd.prog Tryd.f3 false true false false) := by
  refine returnsInHanded_of_row (C := Tryd.checked) (s := OpenSpec.ofChange Rows.fnExactCanHostSpec) Tryd.own started (by kernel_rfl) Tryd.func3
    (witness_row_atRef (enc := enc) (C := Tryd.checked) false (World.doorLaid Tryd.prog 400 os) #[.agg #[.int .i64 0, .int .i64 0, .int .i64 0, .int .i64 0, .int .i64 0, .slice none 0 0, .slice none 0 0, .bool false], .agg #[.int .i64 0, .int .i64 0, .int .i64 0, .int .i64 0, .int .i64 0, .slice none 0 0, .slice none 0 0]] rfl (by kernel_rfl) (by kernel_rfl) (by kernel_rfl)
      (OpenSpec.preRow_of_B rfl 8 (by kernel_rfl) (by kernel_rfl) (door_met os _))) ?_
  intro W base args ds gs before hval hW _ _ _ hL _ _
  exact contract H enc W base args ds gs before hval hW hL

theorem jIn : (Rows.fnExactCanHostRow.inPlace == Tryd.prog.inPlace 3) = true := by kernel_rfl
theorem jUn : (Rows.fnExactCanHostRow.unfollowed == Tryd.prog.unfollowed 3) = true := by kernel_rfl
theorem jRe : (Rows.fnExactCanHostRow.recurses == Tryd.prog.recurses 3) = true := by kernel_rfl
theorem jNa : (Rows.fnExactCanHostRow.named == Tryd.prog.varsNamed 3) = true := by kernel_rfl
theorem joined : joinedFacts Tryd.prog 3 Tryd.f3 (OpenSpec.ofChange Rows.fnExactCanHostSpec).bare Rows.fnExactCanHostRow = true :=
  joined_mk (by kernel_rfl) Tryd.laidOut pRowed (by kernel_rfl) (by kernel_rfl) rfl pStops rfl pKnobs jIn jUn jRe jNa (by kernel_rfl) (by kernel_rfl) (by kernel_rfl) (by kernel_rfl) (by kernel_rfl) (by kernel_rfl) (by kernel_rfl) (by kernel_rfl) (by kernel_rfl) pKeys (by kernel_rfl) pHeard pEnter pLifts pMake (by kernel_rfl) (by kernel_rfl) (by kernel_rfl) (by kernel_rfl)
theorem said : Rows.FnExactCanHostSaid :=
  OpenClaim.holds_of_cond 3 Tryd.f3 rfl rfl rfl rfl rfl rfl rfl ⟨rfl, rfl, rfl, rfl, rfl⟩ rfl rfl rfl rfl rfl (by kernel_rfl) Tryd.func3 joined
    (of_decide_eq_true (by kernel_rfl)) (by unfold Func.isWrapper; first | (rw [if_pos (by decide +kernel)]; kernel_rfl) | (rw [if_neg (by decide +kernel)]; exact ⟨rfl, rfl⟩))
    (fun os started H enc _ F => by rw [OpenClaim.pre_eq_preRow]; exact lifted os started H enc F)

theorem plain (f : FuncId) (fn : Func) (hf : Tryd.pinned.checked.prog.funcNamed "loop.example/g00718/laws.FnExactCanHost" = some f) (hfn : Tryd.pinned.checked.prog.funcs[f]? = some fn) :
    true = Tryd.pinned.checked.prog.looks [] ∧ ∀ (j : Nat) t, fn.params[j]? = some t → Tryd.pinned.checked.prog.wantsStandIn t = false := by
  obtain rfl : f = 3 := Option.some.inj ((show Tryd.prog.funcNamed "loop.example/g00718/laws.FnExactCanHost" = some 3 by kernel_rfl).symm.trans hf) |>.symm
  obtain rfl : fn = Tryd.f3 := (Option.some.inj (Tryd.func3.symm.trans hfn)).symm
  refine ⟨by kernel_rfl, fun j t ht => ?_⟩
  rw [Tryd.params3] at ht
  have hm := Array.mem_of_getElem? ht
  have k0 : Tryd.pinned.checked.prog.wantsStandIn 27 = false := (show Tryd.prog.wantsStandIn 27 = false by kernel_rfl)
  have k1 : Tryd.pinned.checked.prog.wantsStandIn 29 = false := (show Tryd.prog.wantsStandIn 29 = false by kernel_rfl)
  simp at hm
  rcases hm with rfl | rfl
  all_goals (first | with_reducible exact k0 | with_reducible exact k1)

theorem card : Rows.FnExactCanHostCardSaid :=
  Claim7.holds_tied_plain_at .later [] _ _ _ _ said (fun _ h => by cases h) (by kernel_rfl) (fun _ h => by cases h) fnExactCanHost_row_tie rfl ⟨rfl, rfl⟩ (by kernel_rfl) rfl plain (by kernel_rfl)
end Go.Proofs.YtmkpajjnjgnmkaaDoor.fnExactCanHost
