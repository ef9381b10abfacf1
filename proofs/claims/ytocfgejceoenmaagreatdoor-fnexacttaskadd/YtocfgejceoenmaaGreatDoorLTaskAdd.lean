/- FnExactTaskAdd answers true at every cluster and task: TaskAdd and its model agree, both are left as they were, and what is returned owns its memory. Tied to the text of impl.errRange. -/
import Derived.Test.YtocfgejceoenmaaGreatDoorCluRow
import Derived.Test.YtocfgejceoenmaaGreatDoorMgOp
import Derived.Test.YtocfgejceoenmaaGreatDoorMgMark
import Derived.Test.YtocfgejceoenmaaGreatDoorMarkN
namespace Go.Proofs.YtocfgejceoenmaaGreatDoor.fnExactTaskAdd
open Go.ChangeShapes Go.WideShapes Go.ChangeAt Go.RowKit Go.Joins

/-- In a box made since X stands a cluster that is owned. -/
def PutC (X : World) (r : CV) (s : Value) (wx : World) : Prop := ∃ g a0 a1 a2 bs, s = .pointer (some ⟨g, 0, none⟩) ∧ X.heap.size ≤ g ∧ BlockIs wx g 39 #[a0, a1, a2] ∧ CluO wx r a0 a1 a2 bs ∧ (∀ b ∈ bs, X.heap.size ≤ b ∧ b ≠ g) ∧ Below X.heap.size X wx
set_option maxHeartbeats 25600000 in
set_option maxRecDepth 20000 in
theorem walk (c : CV) (a0 a1 a2 : Value) (t : TV) (v1 v2 : Value) (w : World) (x : Addr) (hg : ErrAt x w) (hT : TypAt w) (hq : CluQ w c a0 a1 a2) (h1 : LabSl w v1 t.want) (h2 : IntSl w v2 t.tols) (ml : t.want.length ≤ maxLen) (mi : t.tols.length ≤ maxLen) :
    Calls Tryz.prog 3 #[.agg #[a0, a1, a2], .agg #[.int .i64 t.id, .int .i64 t.prio, .int .i64 t.need.c, .int .i64 t.need.m, .int .i64 t.need.p, v1, v2]] w fun e w' => e = .returned (.bool true) ∧ Below w.heap.size w w' := by
  have HQ := Lib.hid hq
  have HG := Lib.hid hg
  have HT := Lib.hid hT
  obtain ⟨h0, k1, k2, _⟩ := hq
  obtain ⟨D0, e0, rfl, _⟩ := h0.form
  obtain ⟨D1, e1, rfl, _⟩ := k1.form
  obtain ⟨D2, e2, rfl, _⟩ := k2.form
  have H1 := Lib.hid h1
  have H2 := Lib.hid h2
  obtain ⟨A1, c1, rfl, _⟩ := h1.form
  obtain ⟨A2, c2, rfl, _⟩ := h2.form
  have so := fun a0 a1 a2 cs w h k => sTaskAdd_any c a0 a1 a2 t cs w h k
  have io := fun a0 a1 a2 cs w hg hT h k => TaskAdd_any c a0 a1 a2 t cs w x hg hT h k
  generalize (taskAddG c t).1 = r at so io
  generalize (taskAddG c t).2 = n at so io
  have SO := Lib.hid so
  have IO := Lib.hid io
  have hnn : (n != n) = false := by simp
  have ML := Lib.hid (And.intro ml mi)
  clear h0 h1 h2 k1 k2 so io hg hT ml mi
  go_enter Tryz.func3, Tryz.ntmps3
  go_wp2_with fail
  have hX : Below w.heap.size w ((w.alloc (.cells #[.slice D0 c.tasks.length e0, .slice D1 c.nodes.length e1, .slice D2 c.binds.length e2] 26)).alloc (.cells #[.int .i64 t.id, .int .i64 t.prio, .int .i64 t.need.c, .int .i64 t.need.m, .int .i64 t.need.p, .slice A1 t.want.length c1, .slice A2 t.tols.length c2] 32)) := (by repeat' (first | exact Below.refl _ _ | refine Below.alloc ?_ ?_ _ | refine Below.setCell ?_ ?_ _ | refine Below.drew ?_ | (apply below_step; assumption) | (simp; done) | (simp; omega) | omega))
  refine (szCluster_any c _ _ _ 1048576 _ (HQ.out.below hX) (by omega) (by omega)).mono ?_
  rintro e w1 ⟨⟨yy, rfl, hy⟩, hb1⟩
  have hC1 := below_of hX hb1
  have hz1 := hb1.size
  simp at hz1
  have BC : BlockIs w1 w.heap.size 26 #[.slice D0 c.tasks.length e0, .slice D1 c.nodes.length e1, .slice D2 c.binds.length e2] := ((BlockIs.new w _ _).alloc _).below hb1 (by simp; omega)
  have BT : BlockIs w1 (w.heap.size + 1) 32 #[.int .i64 t.id, .int .i64 t.prio, .int .i64 t.need.c, .int .i64 t.need.m, .int .i64 t.need.p, .slice A1 t.want.length c1, .slice A2 t.tols.length c2] := (BlockIs.new' (by simp)).below hb1 (by simp)
  have HBC1 := Lib.hid BC
  have HBT1 := Lib.hid BT
  have g0 := BC.cell 0
  have g1 := BC.cell 1
  have g2 := BC.cell 2
  simp at g0 g1 g2
  have t0 := BT.cell 0
  have t1 := BT.cell 1
  have t2 := BT.cell 2
  have t3 := BT.cell 3
  have t4 := BT.cell 4
  have t5 := BT.cell 5
  have t6 := BT.cell 6
  simp at t0 t1 t2 t3 t4 t5 t6
  clear BC BT hb1 hX
  rcases hy with rfl | ⟨y0, y1, hs⟩
  · go_wp2_with fail
    go_ret
    exact ⟨rfl, hC1⟩
  have HC := Lib.hid (HQ.out.clu hs)
  have hyy : decide (yy < 0) = false := by simp; omega
  have hsz := fun w => szTask_any (.int .i64 t.id) (.int .i64 t.prio) (.int .i64 t.need.c) (.int .i64 t.need.m) (.int .i64 t.need.p) A1 A2 t.want.length c1 t.tols.length c2 yy w y0 y1 ML.out.1 ML.out.2
  generalize hyv : szTV yy t.want.length t.tols.length = y' at hsz
  have HY := Lib.hid (szTV_ok hyv)
  have HSZ := Lib.hid hsz
  clear hs HQ hsz hyv
  go_wp2_with fail
  refine (HSZ.out _).mono ?_
  rintro e X ⟨rfl, hbX⟩
  have hCX := below_of hC1 hbX
  have BC := HBC1.out.below hbX HBC1.out.lt
  have BT := HBT1.out.below hbX HBT1.out.lt
  have hXl : w.heap.size + 1 < X.heap.size := by have := hbX.size; omega
  clear g0 g1 g2 t0 t1 t2 t3 t4 t5 t6 hbX HBC1 HBT1
  rcases HY.out with rfl | hy2
  · go_wp2_with fail
    go_ret
    exact ⟨rfl, hCX⟩
  obtain ⟨s1, s2, s3, s4⟩ := hy2 y0
  have hyy' : decide (y' < 0) = false := by simp; omega
  have L := Lib.hid (show t.want.length ≤ 1048576 ∧ t.tols.length ≤ 1048576 from ⟨by omega, by omega⟩)
  have HBX := Lib.hid (And.intro BC BT)
  have HK := Lib.hid (show ∀ w', Below X.heap.size X w' → (fun w' => Below X.heap.size X w' ∧ (∀ o, w'.cell? ⟨w.heap.size, o, none⟩ = (#[.slice D0 c.tasks.length e0, .slice D1 c.nodes.length e1, .slice D2 c.binds.length e2] : Array Value)[o]?) ∧ (∀ o, w'.cell? ⟨w.heap.size + 1, o, none⟩ = (#[.int .i64 t.id, .int .i64 t.prio, .int .i64 t.need.c, .int .i64 t.need.m, .int .i64 t.need.p, .slice A1 t.want.length c1, .slice A2 t.tols.length c2] : Array Value)[o]?)) w' from fun w' hb => ⟨hb, (BC.below hb BC.lt).cell, (BT.below hb BT.lt).cell⟩)
  clear s1 s2 s3 s4 HY HSZ BC BT hyy ML
  go_upto_region 8 with fail
  go_cut [6, 7] (fun s6 s7 wx => s7 = .int .i64 n ∧ PutC X r s6 wx)
  case first =>
    go_region_held3 (fun w' => Below X.heap.size X w' ∧ (∀ o, w'.cell? ⟨w.heap.size, o, none⟩ = (#[.slice D0 c.tasks.length e0, .slice D1 c.nodes.length e1, .slice D2 c.binds.length e2] : Array Value)[o]?) ∧ (∀ o, w'.cell? ⟨w.heap.size + 1, o, none⟩ = (#[.int .i64 t.id, .int .i64 t.prio, .int .i64 t.need.c, .int .i64 t.need.m, .int .i64 t.need.p, .slice A1 t.want.length c1, .slice A2 t.tols.length c2] : Array Value)[o]?))
      (exact HK.out _ (by repeat' (first | exact Below.refl _ _ | refine Below.alloc ?_ ?_ _ | refine Below.setCell ?_ ?_ _ | refine Below.drew ?_ | (apply below_step; assumption) | (simp; done) | (simp; omega) | omega)))
      (first
        | (go_at_call 14; refine (toCluster_any c _ _ _ _ (HC.out.below (below_of hCX (by repeat' (first | exact Below.refl _ _ | refine Below.alloc ?_ ?_ _ | refine Below.setCell ?_ ?_ _ | refine Below.drew ?_ | (apply below_step; assumption) | (simp; done) | (simp; omega) | omega))))).mono ?_; rintro e u5 ⟨b0, b1, b2, rfl, hN5, hb5⟩; have hz5 := hb5.size; (try simp at hz5); have HN5 := Lib.hid hN5.clu; clear hN5)
        | (go_at_call 15; refine (toTask_sl t _ _ _ (H1.out.below (below_of hCX (by repeat' (first | exact Below.refl _ _ | refine Below.alloc ?_ ?_ _ | refine Below.setCell ?_ ?_ _ | refine Below.drew ?_ | (apply below_step; assumption) | (simp; done) | (simp; omega) | omega)))) (H2.out.below (below_of hCX (by repeat' (first | exact Below.refl _ _ | refine Below.alloc ?_ ?_ _ | refine Below.setCell ?_ ?_ _ | refine Below.drew ?_ | (apply below_step; assumption) | (simp; done) | (simp; omega) | omega)))) L.out.1 L.out.2).mono ?_; rintro e u6 ⟨y1, y2, rfl, hs1, hs2, hb6⟩; have hz6 := hb6.size; (try simp at hz6); have HS6 := Lib.hid (And.intro hs1 hs2); obtain ⟨Y1, j1, rfl, -⟩ := hs1.form; obtain ⟨Y2, j2, rfl, -⟩ := hs2.form; clear hs1 hs2)
        | (go_at_call 13; refine (SO.out _ _ _ [.int .i64 t.id, .int .i64 t.prio, .int .i64 t.need.c, .int .i64 t.need.m, .int .i64 t.need.p, .slice Y1 t.want.length j1, .slice Y2 t.tols.length j2] _ (HN5.out.below (by repeat' (first | exact Below.refl _ _ | refine Below.alloc ?_ ?_ _ | refine Below.setCell ?_ ?_ _ | refine Below.drew ?_ | (apply below_step; assumption) | (simp; done) | (simp; omega) | omega))) ⟨_, _, rfl, HS6.out.1.below (by repeat' (first | exact Below.refl _ _ | refine Below.alloc ?_ ?_ _ | refine Below.setCell ?_ ?_ _ | refine Below.drew ?_ | (apply below_step; assumption) | (simp; done) | (simp; omega) | omega)), HS6.out.2.below (by repeat' (first | exact Below.refl _ _ | refine Below.alloc ?_ ?_ _ | refine Below.setCell ?_ ?_ _ | refine Below.drew ?_ | (apply below_step; assumption) | (simp; done) | (simp; omega) | omega)), L.out.1, L.out.2⟩).mono ?_; rintro e u7 ⟨a0, a1, a2, bs, rfl, hCO, hlo, hb7⟩; have hz7 := hb7.size; (try simp at hz7); obtain ⟨P0, P1, P2, p0, p1, p2, rfl, rfl, rfl, -⟩ := hCO.clu.full; have HCO := Lib.hid (And.intro hCO hlo); clear hCO hlo; (first | (have q1 := BlockIs.new X.drew 39 #[.slice none 0 0, .slice none 0 0, .slice none 0 0]; have q2 := q1.below hb5 q1.lt; have q3 := q2.below hb6 q2.lt; have BBa := q3.below hb7 q3.lt; clear q1 q2 q3) | (have q1 := BlockIs.new X.drew 39 #[.slice none 0 0, .slice none 0 0, .slice none 0 0]; have q2 := q1.below hb6 q1.lt; have q3 := q2.below hb5 q2.lt; have BBa := q3.below hb7 q3.lt; clear q1 q2 q3) | (have q1 := BlockIs.new u5 39 #[.slice none 0 0, .slice none 0 0, .slice none 0 0]; have q2 := q1.below hb6 q1.lt; have BBa := q2.below hb7 q2.lt; clear q1 q2) | (have q1 := BlockIs.new u6 39 #[.slice none 0 0, .slice none 0 0, .slice none 0 0]; have q2 := q1.below hb5 q1.lt; have BBa := q2.below hb7 q2.lt; clear q1 q2) | (have q1 := BlockIs.new u6 39 #[.slice none 0 0, .slice none 0 0, .slice none 0 0]; have BBa := q1.below hb7 q1.lt; clear q1) | (have q1 := BlockIs.new u5 39 #[.slice none 0 0, .slice none 0 0, .slice none 0 0]; have BBa := q1.below hb7 q1.lt; clear q1) | have BBa := True.intro); (first | (have bx0 := BBa.cell 0; have bx1 := BBa.cell 1; have bx2 := BBa.cell 2; have bxf := BBa.frozen; simp at bx0 bx1 bx2; (try simp at bxf); clear BBa) | clear BBa)))
    all_goals
      go_wp2_with fail
      go_meet
      refine ⟨rfl, _, .slice P0 r.tasks.length p0, .slice P1 r.nodes.length p1, .slice P2 r.binds.length p2, bs, rfl, ?_, ?_, ?_, ?_, ?_⟩
      · first | (simp; done) | (simp; omega) | omega
      · first
          | exact BlockIs.new' (by simp; done)
          | (refine clu_put (a := .slice none 0 0) (b := .slice none 0 0) (c := .slice none 0 0) ?_ _ _ _; repeat' (first | exact BlockIs.new' (by simp; done) | with_reducible refine BlockIs.drew ?_ | with_reducible refine BlockIs.alloc ?_ _ | (with_reducible refine BlockIs.below ?_ (by with_reducible assumption) ?_) | (simp; done) | (simp; omega) | omega))
      · first
          | exact HCO.out.1.agree (fun b hb => putAll_block (o := 0) (ds := [_, _, _]) (by have h1 := HCO.out.2 b hb; have h2 := HCO.out.1.lt b hb; (try simp at h1); (first | omega | (simp; omega))))
          | exact HCO.out.1.agree (Agree.of_below (B := u7.heap.size) (by repeat' (first | exact Below.refl _ _ | refine Below.alloc ?_ ?_ _ | refine Below.setCell ?_ ?_ _ | refine Below.drew ?_ | (apply below_step; assumption) | (simp; done) | (simp; omega) | omega)) HCO.out.1.lt)
      · intro b hb
        have h1 := HCO.out.2 b hb
        have h2 := HCO.out.1.lt b hb
        (try simp at h1)
        constructor <;> (first | omega | (simp; omega))
      · exact (by repeat' (first | exact Below.refl _ _ | refine Below.alloc ?_ ?_ _ | refine Below.setCell ?_ ?_ _ | refine Below.drew ?_ | (apply below_step; assumption) | (simp; done) | (simp; omega) | omega))
  case rest =>
    obtain ⟨rfl, gW, u0, u1, u2, bw, rfl, hgW, BW3, hW3, hwn, hbX3⟩ := hcut
    have hC3 := below_of hCX hbX3
    have hX3l := hbX3.size
    have hwlt := hW3.lt
    have BC := HBX.out.1.below hbX3 HBX.out.1.lt
    have BT := HBX.out.2.below hbX3 HBX.out.2.lt
    have HB3 := Lib.hid (And.intro BC BT)
    have HBW3 := Lib.hid BW3
    have hgWl := BW3.lt
    have HW3 := Lib.hid hW3
    have HWL := Lib.hid (fun b (hb : b ∈ bw) => (And.intro (hwn b hb) (hwlt b hb)))
    have g0 := BC.cell 0
    have g1 := BC.cell 1
    have g2 := BC.cell 2
    simp at g0 g1 g2
    clear BC BT BW3 hW3 hwn hwlt
    go_wp2_with fail
    refine (toCluster_o c _ _ _ _ (HC.out.below hC3)).mono ?_
    rintro e w4 ⟨b0, b1, b2, bs, rfl, hN4, hlo4, hb4⟩
    have hC4 := below_of hC3 hb4
    have HB4 := Lib.hid (And.intro (HB3.out.1.below hb4 HB3.out.1.lt) (HB3.out.2.below hb4 HB3.out.2.lt))
    have HBW4 := Lib.hid (HBW3.out.below hb4 HBW3.out.lt)
    obtain ⟨F0, F1, F2, f0, f1, f2, rfl, rfl, rfl, -⟩ := hN4.clu.full
    have hY4 : Below w4.heap.size w4 (w4.alloc (.cells #[.slice F0 c.tasks.length f0, .slice F1 c.nodes.length f1, .slice F2 c.binds.length f2] 39)) := (by repeat' (first | exact Below.refl _ _ | refine Below.alloc ?_ ?_ _ | refine Below.setCell ?_ ?_ _ | refine Below.drew ?_ | (apply below_step; assumption) | (simp; done) | (simp; omega) | omega))
    have hC4' := below_of hC4 hY4
    have HN4 := Lib.hid (hN4.agree (Agree.of_below hY4 hN4.lt))
    have HLO := Lib.hid (fun b (hb : b ∈ bs) => And.intro (hlo4 b hb) (hN4.lt b hb))
    have HW4 := Lib.hid (HW3.out.agree (Agree.of_below (below_of hb4 hY4) HW3.out.lt))
    have BT4 := HB4.out.2.alloc (.cells #[.slice F0 c.tasks.length f0, .slice F1 c.nodes.length f1, .slice F2 c.binds.length f2] 39)
    have BC4 := HB4.out.1.alloc (.cells #[.slice F0 c.tasks.length f0, .slice F1 c.nodes.length f1, .slice F2 c.binds.length f2] 39)
    have BW4 := HBW4.out.alloc (.cells #[.slice F0 c.tasks.length f0, .slice F1 c.nodes.length f1, .slice F2 c.binds.length f2] 39)
    have BX4 : BlockIs (w4.alloc (.cells #[.slice F0 c.tasks.length f0, .slice F1 c.nodes.length f1, .slice F2 c.binds.length f2] 39)) w4.heap.size 39 #[.slice F0 c.tasks.length f0, .slice F1 c.nodes.length f1, .slice F2 c.binds.length f2] := BlockIs.new _ _ _
    have hz4 := hb4.size
    have hz4' : w4.heap.size < (w4.alloc (.cells #[.slice F0 c.tasks.length f0, .slice F1 c.nodes.length f1, .slice F2 c.binds.length f2] 39)).heap.size := by simp
    have t0 := BT4.cell 0
    have t1 := BT4.cell 1
    have t2 := BT4.cell 2
    have t3 := BT4.cell 3
    have t4 := BT4.cell 4
    have t5 := BT4.cell 5
    have t6 := BT4.cell 6
    simp at t0 t1 t2 t3 t4 t5 t6
    clear hN4 hb4 hlo4 g0 g1 g2 HB4 HBW4
    go_wp2_with fail
    clear t0 t1 t2 t3 t4 t5 t6
    generalize w4.alloc (.cells #[.slice F0 c.tasks.length f0, .slice F1 c.nodes.length f1, .slice F2 c.binds.length f2] 39) = X4 at hY4 hC4' HN4 HW4 BT4 BC4 BW4 BX4 hz4' ⊢
    have HX4 := Lib.hid (And.intro BC4 (And.intro BT4 (And.intro BW4 BX4)))
    clear BT4 BC4 BW4 BX4
    refine (toTask_ro t _ _ ⟨_, _, rfl, H1.out.below hC4', H2.out.below hC4', L.out.1, L.out.2⟩).mono ?_
    rintro e w5 ⟨ds, bt, rfl, hO5, hndt, hlot, hb5⟩
    have hC5 := below_of hC4' hb5
    have holt := hO5.lt
    have HO5 := Lib.hid hO5
    obtain ⟨_, _, rfl, n1, n2, -⟩ := hO5
    obtain ⟨E1, d1, rfl, -⟩ := own_form n1
    obtain ⟨E2, d2, rfl, -⟩ := own_form n2
    have hY5 : Below w5.heap.size w5 (w5.alloc (.cells #[.int .i64 t.id, .int .i64 t.prio, .int .i64 t.need.c, .int .i64 t.need.m, .int .i64 t.need.p, .slice E1 t.want.length d1, .slice E2 t.tols.length d2] 46)) := (by repeat' (first | exact Below.refl _ _ | refine Below.alloc ?_ ?_ _ | refine Below.setCell ?_ ?_ _ | refine Below.drew ?_ | (apply below_step; assumption) | (simp; done) | (simp; omega) | omega))
    have hD5 := below_of hb5 hY5
    have hC5' := below_of hC5 hY5
    have HN5 := Lib.hid (HN4.out.agree (Agree.of_below hD5 HN4.out.lt))
    have HW5 := Lib.hid (HW4.out.agree (Agree.of_below hD5 HW4.out.lt))
    have HO5' := Lib.hid (TaskO.framed _ _ _ _ _ HO5.out (Agree.of_below hY5 holt))
    have HTL := Lib.hid (fun b (hb : b ∈ bt) => And.intro (hlot b hb) (holt b hb))
    have HTN := Lib.hid hndt
    have BC5 := HX4.out.1.below hD5 HX4.out.1.lt
    have BT5 := HX4.out.2.1.below hD5 HX4.out.2.1.lt
    have BW5 := HX4.out.2.2.1.below hD5 HX4.out.2.2.1.lt
    have BX5 := HX4.out.2.2.2.below hD5 HX4.out.2.2.2.lt
    have BY5 : BlockIs (w5.alloc (.cells #[.int .i64 t.id, .int .i64 t.prio, .int .i64 t.need.c, .int .i64 t.need.m, .int .i64 t.need.p, .slice E1 t.want.length d1, .slice E2 t.tols.length d2] 46)) w5.heap.size 46 #[.int .i64 t.id, .int .i64 t.prio, .int .i64 t.need.c, .int .i64 t.need.m, .int .i64 t.need.p, .slice E1 t.want.length d1, .slice E2 t.tols.length d2] := BlockIs.new _ _ _
    have hz5 := hb5.size
    have hz5' : w5.heap.size < (w5.alloc (.cells #[.int .i64 t.id, .int .i64 t.prio, .int .i64 t.need.c, .int .i64 t.need.m, .int .i64 t.need.p, .slice E1 t.want.length d1, .slice E2 t.tols.length d2] 46)).heap.size := by simp
    have q0 := BX5.cell 0
    have q1 := BX5.cell 1
    have q2 := BX5.cell 2
    simp at q0 q1 q2
    clear hb5 hndt hlot holt n1 n2 HX4 HN4 HW4 HO5
    go_wp2_with fail
    clear q0 q1 q2
    generalize w5.alloc (.cells #[.int .i64 t.id, .int .i64 t.prio, .int .i64 t.need.c, .int .i64 t.need.m, .int .i64 t.need.p, .slice E1 t.want.length d1, .slice E2 t.tols.length d2] 46) = X5 at hY5 hD5 hC5' HN5 HW5 HO5' BC5 BT5 BW5 BX5 BY5 hz5' ⊢
    have HX5 := Lib.hid (And.intro BC5 (And.intro BT5 (And.intro BW5 (And.intro BX5 BY5))))
    clear BC5 BT5 BW5 BX5 BY5
    refine (IO.out _ _ _ _ _ (HG.out.below hC5' (Nat.le_refl _)) (HT.out.below hC5' (Nat.le_refl _)) HN5.out.clu HO5'.out.r).mono ?_
    rintro e w6 ⟨x0, x1, x2, bg, rfl, hG6, hlg, hb6⟩
    have hC6 := below_of hC5' hb6
    obtain ⟨G0, G1, G2, z0, z1, z2, rfl, rfl, rfl, -⟩ := hG6.clu.full
    have hY6 : Below w6.heap.size w6 (w6.alloc (.cells #[.slice G0 r.tasks.length z0, .slice G1 r.nodes.length z1, .slice G2 r.binds.length z2] 39)) := (by repeat' (first | exact Below.refl _ _ | refine Below.alloc ?_ ?_ _ | refine Below.setCell ?_ ?_ _ | refine Below.drew ?_ | (apply below_step; assumption) | (simp; done) | (simp; omega) | omega))
    have hD6 := below_of hb6 hY6
    have hC6' := below_of hC6 hY6
    have BC6 := HX5.out.1.below hD6 HX5.out.1.lt
    have BT6 := HX5.out.2.1.below hD6 HX5.out.2.1.lt
    have BW6 := HX5.out.2.2.1.below hD6 HX5.out.2.2.1.lt
    have BX6 := HX5.out.2.2.2.1.below hD6 HX5.out.2.2.2.1.lt
    have BY6 := HX5.out.2.2.2.2.below hD6 HX5.out.2.2.2.2.lt
    have BG6 : BlockIs (w6.alloc (.cells #[.slice G0 r.tasks.length z0, .slice G1 r.nodes.length z1, .slice G2 r.binds.length z2] 39)) w6.heap.size 39 #[.slice G0 r.tasks.length z0, .slice G1 r.nodes.length z1, .slice G2 r.binds.length z2] := BlockIs.new _ _ _
    have HN6 := Lib.hid (HN5.out.agree (Agree.of_below hD6 HN5.out.lt))
    have HW6 := Lib.hid (HW5.out.agree (Agree.of_below hD6 HW5.out.lt))
    have HO6 := Lib.hid (TaskO.framed _ _ _ _ _ HO5'.out (Agree.of_below hD6 HO5'.out.lt))
    have HR6 := Lib.hid (hG6.agree (Agree.of_below hY6 hG6.lt))
    have HGL := Lib.hid (show ∀ b ∈ bg, X5.heap.size ≤ b ∧ b < w6.heap.size from fun b hb => ⟨hlg b hb, hG6.lt b hb⟩)
    have hz6 := hb6.size
    have hz6' : w6.heap.size < (w6.alloc (.cells #[.slice G0 r.tasks.length z0, .slice G1 r.nodes.length z1, .slice G2 r.binds.length z2] 39)).heap.size := by simp
    have q0 := BW6.cell 0
    have q1 := BW6.cell 1
    have q2 := BW6.cell 2
    simp at q0 q1 q2
    clear hb6 hG6 hlg HX5 HN5 HW5 HO5'
    go_wp2_with fail
    clear q0 q1 q2
    generalize w6.alloc (.cells #[.slice G0 r.tasks.length z0, .slice G1 r.nodes.length z1, .slice G2 r.binds.length z2] 39) = X6 at hY6 hD6 hC6' BC6 BT6 BW6 BX6 BY6 BG6 HN6 HW6 HO6 HR6 hz6' ⊢
    refine (eqCluster_same r _ _ _ _ _ _ _ HR6.out.clu HW6.out.clu).mono ?_
    rintro e w7 ⟨rfl, hb7⟩
    have hC7 := below_of hC6' hb7
    have BC7 := BC6.below hb7 BC6.lt
    have BT7 := BT6.below hb7 BT6.lt
    have BX7 := BX6.below hb7 BX6.lt
    have BY7 := BY6.below hb7 BY6.lt
    have HBW7 := Lib.hid (BW6.below hb7 BW6.lt)
    have HBG7 := Lib.hid (BG6.below hb7 BG6.lt)
    have HN7 := Lib.hid (HN6.out.agree (Agree.of_below hb7 HN6.out.lt))
    have HW7 := Lib.hid (HW6.out.agree (Agree.of_below hb7 HW6.out.lt))
    have HO7 := Lib.hid (TaskO.framed _ _ _ _ _ HO6.out (Agree.of_below hb7 HO6.out.lt))
    have HR7 := Lib.hid (HR6.out.agree (Agree.of_below hb7 HR6.out.lt))
    have hz7 := hb7.size
    have HK7 := Lib.hid (show ∀ w', Below w7.heap.size w7 w' → (fun w' => Below w7.heap.size w7 w' ∧ (∀ o, w'.cell? ⟨w.heap.size, o, none⟩ = (#[.slice D0 c.tasks.length e0, .slice D1 c.nodes.length e1, .slice D2 c.binds.length e2] : Array Value)[o]?) ∧ (∀ o, w'.cell? ⟨w4.heap.size, o, none⟩ = (#[.slice F0 c.tasks.length f0, .slice F1 c.nodes.length f1, .slice F2 c.binds.length f2] : Array Value)[o]?)) w' from fun w' hb => ⟨hb, (BC7.below hb BC7.lt).cell, (BX7.below hb BX7.lt).cell⟩)
    have HB7 := Lib.hid (And.intro BC7 (And.intro BT7 (And.intro BX7 BY7)))
    clear hb7 HN6 HW6 HO6 HR6 BC6 BT6 BW6 BX6 BY6 BG6 BC7 BT7 BX7 BY7
    go_wp2_with fail
    refine wp_region_held_drew (S := (fun w' => Below w7.heap.size w7 w' ∧ (∀ o, w'.cell? ⟨w.heap.size, o, none⟩ = (#[.slice D0 c.tasks.length e0, .slice D1 c.nodes.length e1, .slice D2 c.binds.length e2] : Array Value)[o]?) ∧ (∀ o, w'.cell? ⟨w4.heap.size, o, none⟩ = (#[.slice F0 c.tasks.length f0, .slice F1 c.nodes.length f1, .slice F2 c.binds.length f2] : Array Value)[o]?))) (by kernel_rfl) (by (try dsimp only); exact HK7.out _ (by repeat' (first | exact Below.refl _ _ | refine Below.alloc ?_ ?_ _ | refine Below.setCell ?_ ?_ _ | refine Below.drew ?_ | (apply below_step; assumption) | (simp; done) | (simp; omega) | omega))) (fun hHeld => ?_)
    refine hTake (i := 0) (oi := ?a2) (v := ?f2) (d := ?g2) ?b2 ?c2 (by kernel_rfl) ?d2 ?e2 ?h2 (by assumption) ?_; (case b2 => simp only [rhN]; try rfl); (case c2 => (try dsimp only); rfl); (case e2 => rfl); (case d2 => exact fun _ _ _ h => h); (case h2 => intro w hSw; (try dsimp only at hSw); go_simp <;> with_reducible rfl); simp only [Act.put, rhA, rhS, rhT]
    refine hTake (i := 1) (oi := ?a4) (v := ?f4) (d := ?g4) ?b4 ?c4 (by kernel_rfl) ?d4 ?e4 ?h4 (by assumption) ?_; (case b4 => simp only [rhN, rhM]; try rfl); (case c4 => (try dsimp only); rfl); (case e4 => rfl); (case d4 => exact fun _ _ _ h => h); (case h4 => intro w hSw; (try dsimp only at hSw); go_simp <;> with_reducible rfl); simp only [Act.put, rhA, rhS, rhT]
    refine hCall (i := 2) (o := ?a5) ?b5 (by kernel_rfl) ?c5 (fun K hK => ?d5)
    case b5 => simp only [rhN, rhM]; try rfl
    case c5 => rfl
    go_simp
    refine (toCluster_any c _ _ _ _ (HC.out.below (below_of hC7 (by repeat' (first | exact Below.refl _ _ | refine Below.alloc ?_ ?_ _ | refine Below.setCell ?_ ?_ _ | refine Below.drew ?_ | (apply below_step; assumption) | (simp; done) | (simp; omega) | omega))))).mono ?_
    rintro e w8 ⟨d0, d1', d2', rfl, hN8, hb8⟩
    have hz8 := hb8.size
    (try simp at hz8)
    go_wp2_with fail
    refine hK.out _ _ (by (try dsimp only); exact HK7.out _ (by repeat' (first | exact Below.refl _ _ | refine Below.alloc ?_ ?_ _ | refine Below.setCell ?_ ?_ _ | refine Below.drew ?_ | (apply below_step; assumption) | (simp; done) | (simp; omega) | omega))) (fun hHeld => ?_)
    clear hK K
    try simp only [Act.put, rhA, rhS, rhT]
    refine hCall (i := 3) (o := ?a6) ?b6 (by kernel_rfl) ?c6 (fun K hK => ?d6)
    case b6 => simp only [rhN, rhM]; try rfl
    case c6 => rfl
    go_simp
    refine (eqCluster_same c _ _ _ _ _ _ _ (HN7.out.clu.below (by repeat' (first | exact Below.refl _ _ | refine Below.alloc ?_ ?_ _ | refine Below.setCell ?_ ?_ _ | refine Below.drew ?_ | (apply below_step; assumption) | (simp; done) | (simp; omega) | omega))) hN8.clu).mono ?_
    rintro e w9 ⟨rfl, hb9⟩
    have hz9 := hb9.size
    (try simp at hz9)
    go_wp2_with fail
    refine hK.out _ _ (by (try dsimp only); exact HK7.out _ (by repeat' (first | exact Below.refl _ _ | refine Below.alloc ?_ ?_ _ | refine Below.setCell ?_ ?_ _ | refine Below.drew ?_ | (apply below_step; assumption) | (simp; done) | (simp; omega) | omega))) (fun hHeld => ?_)
    clear hK K
    try simp only [Act.put, rhA, rhS, rhT]
    refine hTake (i := 4) (oi := ?a8) (v := ?f8) (d := ?g8) ?b8 ?c8 (by kernel_rfl) ?d8 ?e8 ?h8 (by assumption) ?_; (case b8 => simp only [rhN, rhM]; try rfl); (case c8 => (try dsimp only); rfl); (case e8 => rfl); (case d8 => exact fun _ _ _ h => h); (case h8 => intro w hSw; (try dsimp only at hSw); go_simp <;> with_reducible rfl); simp only [Act.put, rhA, rhS, rhT]
    refine wpAnyH_done (by kernel_rfl) ?_ _
    have hD9 : Below w7.heap.size w7 w9 := (by repeat' (first | exact Below.refl _ _ | refine Below.alloc ?_ ?_ _ | refine Below.setCell ?_ ?_ _ | refine Below.drew ?_ | (apply below_step; assumption) | (simp; done) | (simp; omega) | omega))
    have hC9 := below_of hC7 hD9
    have BC9 := HB7.out.1.below hD9 HB7.out.1.lt
    have BT9 := HB7.out.2.1.below hD9 HB7.out.2.1.lt
    have BX9 := HB7.out.2.2.1.below hD9 HB7.out.2.2.1.lt
    have BY9 := HB7.out.2.2.2.below hD9 HB7.out.2.2.2.lt
    have HBW9 := Lib.hid (HBW7.out.below hD9 HBW7.out.lt)
    have HBG9 := Lib.hid (HBG7.out.below hD9 HBG7.out.lt)
    have HN9 := Lib.hid (HN7.out.agree (Agree.of_below hD9 HN7.out.lt))
    have HW9 := Lib.hid (HW7.out.agree (Agree.of_below hD9 HW7.out.lt))
    have HO9 := Lib.hid (TaskO.framed _ _ _ _ _ HO7.out (Agree.of_below hD9 HO7.out.lt))
    have HR9 := Lib.hid (HR7.out.agree (Agree.of_below hD9 HR7.out.lt))
    have hz9' := hD9.size
    have HK9 := Lib.hid (show ∀ w', Below w9.heap.size w9 w' → (fun w' => Below w9.heap.size w9 w' ∧ (∀ o, w'.cell? ⟨w.heap.size + 1, o, none⟩ = (#[.int .i64 t.id, .int .i64 t.prio, .int .i64 t.need.c, .int .i64 t.need.m, .int .i64 t.need.p, .slice A1 t.want.length c1, .slice A2 t.tols.length c2] : Array Value)[o]?) ∧ (∀ o, w'.cell? ⟨w5.heap.size, o, none⟩ = (#[.int .i64 t.id, .int .i64 t.prio, .int .i64 t.need.c, .int .i64 t.need.m, .int .i64 t.need.p, .slice E1 t.want.length d1, .slice E2 t.tols.length d2] : Array Value)[o]?)) w' from fun w' hb => ⟨hb, (BT9.below hb BT9.lt).cell, (BY9.below hb BY9.lt).cell⟩)
    have HB9 := Lib.hid (And.intro BC9 (And.intro BT9 (And.intro BX9 BY9)))
    clear hb8 hb9 hN8 HK7 HB7 HN7 HW7 HO7 HR7 HBW7 HBG7 hHeld hD9 hz8 hz9 BC9 BT9 BX9 BY9
    go_wp2_with fail
    refine wp_region_held_drew (S := (fun w' => Below w9.heap.size w9 w' ∧ (∀ o, w'.cell? ⟨w.heap.size + 1, o, none⟩ = (#[.int .i64 t.id, .int .i64 t.prio, .int .i64 t.need.c, .int .i64 t.need.m, .int .i64 t.need.p, .slice A1 t.want.length c1, .slice A2 t.tols.length c2] : Array Value)[o]?) ∧ (∀ o, w'.cell? ⟨w5.heap.size, o, none⟩ = (#[.int .i64 t.id, .int .i64 t.prio, .int .i64 t.need.c, .int .i64 t.need.m, .int .i64 t.need.p, .slice E1 t.want.length d1, .slice E2 t.tols.length d2] : Array Value)[o]?))) (by kernel_rfl) (by (try dsimp only); exact HK9.out _ (by repeat' (first | exact Below.refl _ _ | refine Below.alloc ?_ ?_ _ | refine Below.setCell ?_ ?_ _ | refine Below.drew ?_ | (apply below_step; assumption) | (simp; done) | (simp; omega) | omega))) (fun hHeld => ?_)
    refine hTake (i := 0) (oi := ?a10) (v := ?f10) (d := ?g10) ?b10 ?c10 (by kernel_rfl) ?d10 ?e10 ?h10 (by assumption) ?_; (case b10 => simp only [rhN]; try rfl); (case c10 => (try dsimp only); rfl); (case e10 => rfl); (case d10 => exact fun _ _ _ h => h); (case h10 => intro w hSw; (try dsimp only at hSw); go_simp <;> with_reducible rfl); simp only [Act.put, rhA, rhS, rhT]
    refine hTake (i := 1) (oi := ?a12) (v := ?f12) (d := ?g12) ?b12 ?c12 (by kernel_rfl) ?d12 ?e12 ?h12 (by assumption) ?_; (case b12 => simp only [rhN, rhM]; try rfl); (case c12 => (try dsimp only); rfl); (case e12 => rfl); (case d12 => exact fun _ _ _ h => h); (case h12 => intro w hSw; (try dsimp only at hSw); go_simp <;> with_reducible rfl); simp only [Act.put, rhA, rhS, rhT]
    refine hCall (i := 2) (o := ?a13) ?b13 (by kernel_rfl) ?c13 (fun K hK => ?d13)
    case b13 => simp only [rhN, rhM]; try rfl
    case c13 => rfl
    go_simp
    refine (toTask_sl t _ _ _ (H1.out.below (below_of hC9 (by repeat' (first | exact Below.refl _ _ | refine Below.alloc ?_ ?_ _ | refine Below.setCell ?_ ?_ _ | refine Below.drew ?_ | (apply below_step; assumption) | (simp; done) | (simp; omega) | omega)))) (H2.out.below (below_of hC9 (by repeat' (first | exact Below.refl _ _ | refine Below.alloc ?_ ?_ _ | refine Below.setCell ?_ ?_ _ | refine Below.drew ?_ | (apply below_step; assumption) | (simp; done) | (simp; omega) | omega)))) L.out.1 L.out.2).mono ?_
    rintro e w10 ⟨y1', y2', rfl, q1, q2, hb10⟩
    have hz10 := hb10.size
    (try simp at hz10)
    have HQ10 := Lib.hid (And.intro q1 q2)
    obtain ⟨Y1, j1, rfl, -⟩ := q1.form
    obtain ⟨Y2, j2, rfl, -⟩ := q2.form
    clear q1 q2
    go_wp2_with fail
    refine hK.out _ _ (by (try dsimp only); exact HK9.out _ (by repeat' (first | exact Below.refl _ _ | refine Below.alloc ?_ ?_ _ | refine Below.setCell ?_ ?_ _ | refine Below.drew ?_ | (apply below_step; assumption) | (simp; done) | (simp; omega) | omega))) (fun hHeld => ?_)
    clear hK K
    try simp only [Act.put, rhA, rhS, rhT]
    refine hCall (i := 3) (o := ?a14) ?b14 (by kernel_rfl) ?c14 (fun K hK => ?d14)
    case b14 => simp only [rhN, rhM]; try rfl
    case c14 => rfl
    go_simp
    refine (eqTask_r t _ [.int .i64 t.id, .int .i64 t.prio, .int .i64 t.need.c, .int .i64 t.need.m, .int .i64 t.need.p, .slice Y1 t.want.length j1, .slice Y2 t.tols.length j2] _ (TaskR.kept _ _ _ _ (by repeat' (first | exact Below.refl _ _ | refine Below.alloc ?_ ?_ _ | refine Below.setCell ?_ ?_ _ | refine Below.drew ?_ | (apply below_step; assumption) | (simp; done) | (simp; omega) | omega)) HO9.out.r) ⟨_, _, rfl, HQ10.out.1, HQ10.out.2, L.out.1, L.out.2⟩).mono ?_
    rintro e w11 ⟨rfl, hb11⟩
    have hz11 := hb11.size
    (try simp at hz11)
    go_wp2_with fail
    refine hK.out _ _ (by (try dsimp only); exact HK9.out _ (by repeat' (first | exact Below.refl _ _ | refine Below.alloc ?_ ?_ _ | refine Below.setCell ?_ ?_ _ | refine Below.drew ?_ | (apply below_step; assumption) | (simp; done) | (simp; omega) | omega))) (fun hHeld => ?_)
    clear hK K
    try simp only [Act.put, rhA, rhS, rhT]
    refine hTake (i := 4) (oi := ?a16) (v := ?f16) (d := ?g16) ?b16 ?c16 (by kernel_rfl) ?d16 ?e16 ?h16 (by assumption) ?_; (case b16 => simp only [rhN, rhM]; try rfl); (case c16 => (try dsimp only); rfl); (case e16 => rfl); (case d16 => exact fun _ _ _ h => h); (case h16 => intro w hSw; (try dsimp only at hSw); go_simp <;> with_reducible rfl); simp only [Act.put, rhA, rhS, rhT]
    refine wpAnyH_done (by kernel_rfl) ?_ _
    have hD11 : Below w9.heap.size w9 w11 := (by repeat' (first | exact Below.refl _ _ | refine Below.alloc ?_ ?_ _ | refine Below.setCell ?_ ?_ _ | refine Below.drew ?_ | (apply below_step; assumption) | (simp; done) | (simp; omega) | omega))
    have hC11 := below_of hC9 hD11
    have BC11 := HB9.out.1.below hD11 HB9.out.1.lt
    have BT11 := HB9.out.2.1.below hD11 HB9.out.2.1.lt
    have BX11 := HB9.out.2.2.1.below hD11 HB9.out.2.2.1.lt
    have BY11 := HB9.out.2.2.2.below hD11 HB9.out.2.2.2.lt
    have HBW11 := Lib.hid (HBW9.out.below hD11 HBW9.out.lt)
    have HBG11 := Lib.hid (HBG9.out.below hD11 HBG9.out.lt)
    have HN11 := Lib.hid (HN9.out.agree (Agree.of_below hD11 HN9.out.lt))
    have HW11 := Lib.hid (HW9.out.agree (Agree.of_below hD11 HW9.out.lt))
    have HO11 := Lib.hid (TaskO.framed _ _ _ _ _ HO9.out (Agree.of_below hD11 HO9.out.lt))
    have HR11 := Lib.hid (HR9.out.agree (Agree.of_below hD11 HR9.out.lt))
    have hz11' := hD11.size
    have q0 := BX11.cell 0
    have q1 := BX11.cell 1
    have q2 := BX11.cell 2
    simp at q0 q1 q2
    have HB11 := Lib.hid (And.intro BC11 (And.intro BT11 BY11))
    have HS := Lib.hid (show 0 ≤ szClu c ∧ szClu c ≤ 8000000000000 by
      obtain ⟨aT, aN, l0, l1, l2⟩ := HN11.out.all
      have s0 := sumTask_take aT c.tasks.length (by omega)
      have s1 := sumNode_take aN c.nodes.length (by omega)
      rw [List.take_length] at s0 s1
      unfold szClu; omega)
    clear hb10 hb11 HQ10 HK9 HB9 HN9 HW9 HO9 HR9 HBW9 HBG9 hHeld hD11 hz10 hz11 BC11 BT11 BX11 BY11
    go_wp2_with fail
    refine (markCluster_any c _ _ _ bs 1 _ HN11.out (by omega) (by omega)).mono ?_
    rintro e w12 ⟨rfl, -, hT12⟩
    have hX3z := hX3l
    have hlt4 := hz4
    have hCw : ∀ b ∈ bs, w.heap.size ≤ b := fun b hb => Nat.le_trans hC3.size (HLO.out b hb).1
    have hC12 : Below w.heap.size w w12 := hC11.trans (hT12.below hC11.size hCw)
    have BC12 := HB11.out.1.turn hT12 (fun hb => by have := (HLO.out _ hb).1; have := hC3.size; omega)
    have BT12 := HB11.out.2.1.turn hT12 (fun hb => by have := (HLO.out _ hb).1; omega)
    have BY12 := HB11.out.2.2.turn hT12 (fun hb => by have := (HLO.out _ hb).2; omega)
    have BW12 := HBW11.out.turn hT12 (fun hb => by have := (HLO.out _ hb).1; omega)
    have BG12 := HBG11.out.turn hT12 (fun hb => by have := (HLO.out _ hb).2; omega)
    have HW12 := Lib.hid (HW11.out.agree (hT12.agree (fun b hb => ⟨HW11.out.lt b hb, fun hx => by have := (HLO.out b hx).1; have := (HWL.out b hb).2; omega⟩)))
    have HO12 := Lib.hid (TaskO.framed _ _ _ _ _ HO11.out (hT12.agree (fun b hb => ⟨HO11.out.lt b hb, fun hx => by have := (HLO.out b hx).2; have := (HTL.out b hb).1; omega⟩)))
    have HR12 := Lib.hid (HR11.out.agree (hT12.agree (fun b hb => ⟨HR11.out.lt b hb, fun hx => by have := (HLO.out b hx).2; have := (HGL.out b hb).1; omega⟩)))
    clear q0 q1 q2
    have p0 := BY12.cell 0
    have p1 := BY12.cell 1
    have p2 := BY12.cell 2
    have p3 := BY12.cell 3
    have p4 := BY12.cell 4
    have p5 := BY12.cell 5
    have p6 := BY12.cell 6
    simp at p0 p1 p2 p3 p4 p5 p6
    have HB12 := Lib.hid (And.intro BC12 (And.intro BT12 (And.intro BW12 BG12)))
    have hsc := HS.out
    clear hT12 BC12 BT12 BY12 BW12 BG12 HN11 HW11 HO11 HR11 HB11 HBW11 HBG11
    generalize szClu c = sc at hsc ⊢
    go_wp2_with fail
    refine (markTask_any t _ bt (1 + sc) _ HO12.out HTN.out (by omega) (by omega)).mono ?_
    rintro e w13 ⟨rfl, -, hT13⟩
    have hCt : ∀ b ∈ bt, w.heap.size ≤ b := fun b hb => Nat.le_trans hC4'.size (HTL.out b hb).1
    have hC13 : Below w.heap.size w w13 := hC12.trans (hT13.below hC12.size hCt)
    have hX4s := hC4'.size
    have BC13 := HB12.out.1.turn hT13 (fun hb => by have := (HTL.out _ hb).1; omega)
    have BT13 := HB12.out.2.1.turn hT13 (fun hb => by have := (HTL.out _ hb).1; omega)
    have BW13 := HB12.out.2.2.1.turn hT13 (fun hb => by have := (HTL.out _ hb).1; omega)
    have BG13 := HB12.out.2.2.2.turn hT13 (fun hb => by have := (HTL.out _ hb).2; omega)
    have HW13 := Lib.hid (HW12.out.agree (hT13.agree (fun b hb => ⟨HW12.out.lt b hb, fun hx => by have := (HTL.out b hx).1; have := (HWL.out b hb).2; omega⟩)))
    have HR13 := Lib.hid (HR12.out.agree (hT13.agree (fun b hb => ⟨HR12.out.lt b hb, fun hx => by have := (HTL.out b hx).2; have := (HGL.out b hb).1; omega⟩)))
    have hm1 : decide (1 + sc + 2 * (t.want.length : Int) + (t.tols.length : Int) < 0) = false := by simp; omega
    clear p0 p1 p2 p3 p4 p5 p6
    have p0 := BG13.cell 0
    have p1 := BG13.cell 1
    have p2 := BG13.cell 2
    simp at p0 p1 p2
    have q0 := BW13.cell 0
    have q1 := BW13.cell 1
    have q2 := BW13.cell 2
    simp at q0 q1 q2
    have HB13 := Lib.hid (And.intro BC13 (And.intro BT13 (And.intro BW13 BG13)))
    clear hT13 BC13 BT13 BW13 BG13 HW12 HR12 HO12 HB12
    generalize (1 + sc + 2 * (t.want.length : Int) + (t.tols.length : Int)) = sk at hm1 ⊢
    go_wp2_with fail
    refine (eqCluster_same r _ _ _ _ _ _ _ HR13.out.clu HW13.out.clu).mono ?_
    rintro e w14 ⟨rfl, hb14⟩
    have hC14 := below_of hC13 hb14
    have BC14 := HB13.out.1.below hb14 HB13.out.1.lt
    have BT14 := HB13.out.2.1.below hb14 HB13.out.2.1.lt
    have BW14 := HB13.out.2.2.1.below hb14 HB13.out.2.2.1.lt
    have BG14 := HB13.out.2.2.2.below hb14 HB13.out.2.2.2.lt
    have HW14 := Lib.hid (HW13.out.agree (Agree.of_below hb14 HW13.out.lt))
    have HR14 := Lib.hid (HR13.out.agree (Agree.of_below hb14 HR13.out.lt))
    clear p0 p1 p2 q0 q1 q2
    have p0 := BG14.cell 0
    have p1 := BG14.cell 1
    have p2 := BG14.cell 2
    simp at p0 p1 p2
    have HB14 := Lib.hid (And.intro BC14 (And.intro BT14 (And.intro BW14 BG14)))
    clear hb14 HW13 HR13 HB13 BC14 BT14 BW14 BG14 hm1
    go_wp2_with fail
    obtain ⟨aT, aN, aL0, aL1, aL2⟩ := HR14.out.all
    have HALL := Lib.hid (And.intro aT (And.intro aN (And.intro aL0 (And.intro aL1 aL2))))
    clear aT aN aL0 aL1 aL2
    refine (markCluster_any r _ _ _ bg 1 _ HR14.out (by omega) (by omega)).mono ?_
    rintro e w15 ⟨rfl, hM15, hT15⟩
    have hgw : ∀ b ∈ bg, w.heap.size ≤ b := fun b hb => by have := (HGL.out b hb).1; have := hC5'.size; omega
    have hC15 : Below w.heap.size w w15 := hC14.trans (hT15.below hC14.size hgw)
    have hX5s := hC5'.size
    have BC15 := HB14.out.1.turn hT15 (fun hb => by have := (HGL.out _ hb).1; omega)
    have BT15 := HB14.out.2.1.turn hT15 (fun hb => by have := (HGL.out _ hb).1; omega)
    have BW15 := HB14.out.2.2.1.turn hT15 (fun hb => by have := (HGL.out _ hb).1; omega)
    have BG15 := HB14.out.2.2.2.turn hT15 (fun hb => by have := (HGL.out _ hb).2; omega)
    have HW15 := Lib.hid (HW14.out.agree (hT15.agree (fun b hb => ⟨HW14.out.lt b hb, fun hx => by have := (HGL.out b hx).1; have := (HWL.out b hb).2; omega⟩)))
    have HM15 := Lib.hid hM15
    have HSR := Lib.hid (show 0 ≤ szClu r by unfold szClu; have := sumTask_nonneg r.tasks; have := sumNode_nonneg r.nodes; omega)
    have hn15 : ((1 + szClu r) != (1 + szClu r)) = false := by simp
    have hm15 : decide (1 + szClu r < 0) = false := by have := HSR.out; simp; omega
    have HHE := Lib.hid (fun w1 (h : CluR w1 (mClu r 1) (.slice G0 r.tasks.length z0) (.slice G1 r.nodes.length z1) (.slice G2 r.binds.length z2)) => heldCluster_any r _ _ _ 1 w1 h HALL.out.1 HALL.out.2.1 HALL.out.2.2.1 HALL.out.2.2.2.1 HALL.out.2.2.2.2 (by omega) (by omega))
    clear p0 p1 p2
    have p0 := BG15.cell 0
    have p1 := BG15.cell 1
    have p2 := BG15.cell 2
    simp at p0 p1 p2
    have HB15 := Lib.hid (And.intro BC15 (And.intro BT15 (And.intro BW15 BG15)))
    clear hT15 BC15 BT15 BW15 BG15 hM15 HW14 HR14 HB14 hgw
    generalize hsz : szClu r = sz at hn15 hm15 HHE ⊢
    have HSZ := Lib.hid hsz
    clear hsz
    go_wp2_with fail
    refine (HHE.out _ HM15.out.clu).mono ?_
    rintro e Z ⟨rfl, hbZ⟩
    have hCZ := below_of hC15 hbZ
    have BCZ := HB15.out.1.below hbZ HB15.out.1.lt
    have BTZ := HB15.out.2.1.below hbZ HB15.out.2.1.lt
    have BWZ := HB15.out.2.2.1.below hbZ HB15.out.2.2.1.lt
    have BGZ := HB15.out.2.2.2.below hbZ HB15.out.2.2.2.lt
    have HWZ := Lib.hid (HW15.out.agree (Agree.of_below hbZ HW15.out.lt))
    have HMZ := Lib.hid (HM15.out.agree (Agree.of_below hbZ HM15.out.lt))
    have hZl : w.heap.size + 1 < Z.heap.size := BTZ.lt
    have HKZ := Lib.hid (show ∀ w', Below Z.heap.size Z w' → (fun w' => Below Z.heap.size Z w' ∧ (∀ o, w'.cell? ⟨w.heap.size, o, none⟩ = (#[.slice D0 c.tasks.length e0, .slice D1 c.nodes.length e1, .slice D2 c.binds.length e2] : Array Value)[o]?) ∧ (∀ o, w'.cell? ⟨w.heap.size + 1, o, none⟩ = (#[.int .i64 t.id, .int .i64 t.prio, .int .i64 t.need.c, .int .i64 t.need.m, .int .i64 t.need.p, .slice A1 t.want.length c1, .slice A2 t.tols.length c2] : Array Value)[o]?)) w' from fun w' hb => ⟨hb, (BCZ.below hb BCZ.lt).cell, (BTZ.below hb BTZ.lt).cell⟩)
    have HBZ := Lib.hid (And.intro BWZ BGZ)
    clear hbZ HW15 HM15 HB15 BCZ BTZ BWZ BGZ p0 p1 p2
    go_upto_region 31 with fail
    go_cut [15, 16] (fun s15 s16 wx => s16 = .int .i64 n ∧ PutC Z r s15 wx)
    case first =>
      go_region_held3 (fun w' => Below Z.heap.size Z w' ∧ (∀ o, w'.cell? ⟨w.heap.size, o, none⟩ = (#[.slice D0 c.tasks.length e0, .slice D1 c.nodes.length e1, .slice D2 c.binds.length e2] : Array Value)[o]?) ∧ (∀ o, w'.cell? ⟨w.heap.size + 1, o, none⟩ = (#[.int .i64 t.id, .int .i64 t.prio, .int .i64 t.need.c, .int .i64 t.need.m, .int .i64 t.need.p, .slice A1 t.want.length c1, .slice A2 t.tols.length c2] : Array Value)[o]?))
        (exact HKZ.out _ (by repeat' (first | exact Below.refl _ _ | refine Below.alloc ?_ ?_ _ | refine Below.setCell ?_ ?_ _ | refine Below.drew ?_ | (apply below_step; assumption) | (simp; done) | (simp; omega) | omega)))
        (first
          | (go_at_call 14; refine (toCluster_any c _ _ _ _ (HC.out.below (below_of hCZ (by repeat' (first | exact Below.refl _ _ | refine Below.alloc ?_ ?_ _ | refine Below.setCell ?_ ?_ _ | refine Below.drew ?_ | (apply below_step; assumption) | (simp; done) | (simp; omega) | omega))))).mono ?_; rintro e u5 ⟨b0, b1, b2, rfl, hN5, hb5⟩; have hz5 := hb5.size; (try simp at hz5); have HN5 := Lib.hid hN5.clu; clear hN5)
          | (go_at_call 15; refine (toTask_sl t _ _ _ (H1.out.below (below_of hCZ (by repeat' (first | exact Below.refl _ _ | refine Below.alloc ?_ ?_ _ | refine Below.setCell ?_ ?_ _ | refine Below.drew ?_ | (apply below_step; assumption) | (simp; done) | (simp; omega) | omega)))) (H2.out.below (below_of hCZ (by repeat' (first | exact Below.refl _ _ | refine Below.alloc ?_ ?_ _ | refine Below.setCell ?_ ?_ _ | refine Below.drew ?_ | (apply below_step; assumption) | (simp; done) | (simp; omega) | omega)))) L.out.1 L.out.2).mono ?_; rintro e u6 ⟨y1, y2, rfl, hs1, hs2, hb6⟩; have hz6 := hb6.size; (try simp at hz6); have HS6 := Lib.hid (And.intro hs1 hs2); obtain ⟨Y1, j1, rfl, -⟩ := hs1.form; obtain ⟨Y2, j2, rfl, -⟩ := hs2.form; clear hs1 hs2)
          | (go_at_call 16; refine (IO.out _ _ _ [.int .i64 t.id, .int .i64 t.prio, .int .i64 t.need.c, .int .i64 t.need.m, .int .i64 t.need.p, .slice Y1 t.want.length j1, .slice Y2 t.tols.length j2] _ (HG.out.below (below_of hCZ (by repeat' (first | exact Below.refl _ _ | refine Below.alloc ?_ ?_ _ | refine Below.setCell ?_ ?_ _ | refine Below.drew ?_ | (apply below_step; assumption) | (simp; done) | (simp; omega) | omega))) (Nat.le_refl _)) (HT.out.below (below_of hCZ (by repeat' (first | exact Below.refl _ _ | refine Below.alloc ?_ ?_ _ | refine Below.setCell ?_ ?_ _ | refine Below.drew ?_ | (apply below_step; assumption) | (simp; done) | (simp; omega) | omega))) (Nat.le_refl _)) (HN5.out.below (by repeat' (first | exact Below.refl _ _ | refine Below.alloc ?_ ?_ _ | refine Below.setCell ?_ ?_ _ | refine Below.drew ?_ | (apply below_step; assumption) | (simp; done) | (simp; omega) | omega))) ⟨_, _, rfl, HS6.out.1.below (by repeat' (first | exact Below.refl _ _ | refine Below.alloc ?_ ?_ _ | refine Below.setCell ?_ ?_ _ | refine Below.drew ?_ | (apply below_step; assumption) | (simp; done) | (simp; omega) | omega)), HS6.out.2.below (by repeat' (first | exact Below.refl _ _ | refine Below.alloc ?_ ?_ _ | refine Below.setCell ?_ ?_ _ | refine Below.drew ?_ | (apply below_step; assumption) | (simp; done) | (simp; omega) | omega)), L.out.1, L.out.2⟩).mono ?_; rintro e u7 ⟨a0, a1, a2, bs, rfl, hCO, hlo, hb7⟩; have hz7 := hb7.size; (try simp at hz7); obtain ⟨P0, P1, P2, p0, p1, p2, rfl, rfl, rfl, -⟩ := hCO.clu.full; have HCO := Lib.hid (And.intro hCO hlo); clear hCO hlo; (first | (have q1 := BlockIs.new Z.drew 39 #[.slice none 0 0, .slice none 0 0, .slice none 0 0]; have q2 := q1.below hb5 q1.lt; have q3 := q2.below hb6 q2.lt; have BBa := q3.below hb7 q3.lt; clear q1 q2 q3) | (have q1 := BlockIs.new Z.drew 39 #[.slice none 0 0, .slice none 0 0, .slice none 0 0]; have q2 := q1.below hb6 q1.lt; have q3 := q2.below hb5 q2.lt; have BBa := q3.below hb7 q3.lt; clear q1 q2 q3) | (have q1 := BlockIs.new u5 39 #[.slice none 0 0, .slice none 0 0, .slice none 0 0]; have q2 := q1.below hb6 q1.lt; have BBa := q2.below hb7 q2.lt; clear q1 q2) | (have q1 := BlockIs.new u6 39 #[.slice none 0 0, .slice none 0 0, .slice none 0 0]; have q2 := q1.below hb5 q1.lt; have BBa := q2.below hb7 q2.lt; clear q1 q2) | (have q1 := BlockIs.new u6 39 #[.slice none 0 0, .slice none 0 0, .slice none 0 0]; have BBa := q1.below hb7 q1.lt; clear q1) | (have q1 := BlockIs.new u5 39 #[.slice none 0 0, .slice none 0 0, .slice none 0 0]; have BBa := q1.below hb7 q1.lt; clear q1) | have BBa := True.intro); (first | (have bx0 := BBa.cell 0; have bx1 := BBa.cell 1; have bx2 := BBa.cell 2; have bxf := BBa.frozen; simp at bx0 bx1 bx2; (try simp at bxf); clear BBa) | clear BBa)))
      all_goals
        go_wp2_with fail
        go_meet
        refine ⟨rfl, _, .slice P0 r.tasks.length p0, .slice P1 r.nodes.length p1, .slice P2 r.binds.length p2, bs, rfl, ?_, ?_, ?_, ?_, ?_⟩
        · first | (simp; done) | (simp; omega) | omega
        · first
            | exact BlockIs.new' (by simp; done)
            | (refine clu_put (a := .slice none 0 0) (b := .slice none 0 0) (c := .slice none 0 0) ?_ _ _ _; repeat' (first | exact BlockIs.new' (by simp; done) | with_reducible refine BlockIs.drew ?_ | with_reducible refine BlockIs.alloc ?_ _ | (with_reducible refine BlockIs.below ?_ (by with_reducible assumption) ?_) | (simp; done) | (simp; omega) | omega))
        · first
            | exact HCO.out.1.agree (fun b hb => putAll_block (o := 0) (ds := [_, _, _]) (by have h1 := HCO.out.2 b hb; have h2 := HCO.out.1.lt b hb; (try simp at h1); (first | omega | (simp; omega))))
            | exact HCO.out.1.agree (Agree.of_below (B := u7.heap.size) (by repeat' (first | exact Below.refl _ _ | refine Below.alloc ?_ ?_ _ | refine Below.setCell ?_ ?_ _ | refine Below.drew ?_ | (apply below_step; assumption) | (simp; done) | (simp; omega) | omega)) HCO.out.1.lt)
        · intro b hb
          have h1 := HCO.out.2 b hb
          have h2 := HCO.out.1.lt b hb
          (try simp at h1)
          constructor <;> (first | omega | (simp; omega))
        · exact (by repeat' (first | exact Below.refl _ _ | refine Below.alloc ?_ ?_ _ | refine Below.setCell ?_ ?_ _ | refine Below.drew ?_ | (apply below_step; assumption) | (simp; done) | (simp; omega) | omega))
    case rest =>
      obtain ⟨rfl, gH, u0, u1, u2, bh, rfl, hgH, BH, hH, -, hbH⟩ := hcut
      have hCH := below_of hCZ hbH
      have BWH := HBZ.out.1.below hbH HBZ.out.1.lt
      have BGH := HBZ.out.2.below hbH HBZ.out.2.lt
      have HWH := Lib.hid (HWZ.out.agree (Agree.of_below hbH HWZ.out.lt))
      have HMH := Lib.hid (HMZ.out.agree (Agree.of_below hbH HMZ.out.lt))
      have HHH := Lib.hid hH
      obtain ⟨H0, H1', H2', h0, h1, h2, rfl, rfl, rfl, -⟩ := hH.clu.full
      have p0 := BH.cell 0
      have p1 := BH.cell 1
      have p2 := BH.cell 2
      simp at p0 p1 p2
      have q0 := BWH.cell 0
      have q1 := BWH.cell 1
      have q2 := BWH.cell 2
      simp at q0 q1 q2
      have HBGH := Lib.hid BGH
      have hHl := BH.lt
      have hWl := BWH.lt
      clear BH BWH BGH hH hbH HWZ HMZ HBZ
      go_wp2_with fail
      refine (eqCluster_same r _ _ _ _ _ _ _ HHH.out.clu HWH.out.clu).mono ?_
      rintro e w16 ⟨rfl, hb16⟩
      have hC16 := below_of hCH hb16
      have BG16 := HBGH.out.below hb16 HBGH.out.lt
      have HM16 := Lib.hid (HMH.out.agree (Agree.of_below hb16 HMH.out.lt))
      clear p0 p1 p2 q0 q1 q2
      have p0 := BG16.cell 0
      have p1 := BG16.cell 1
      have p2 := BG16.cell 2
      simp at p0 p1 p2
      have pl := BG16.lt
      clear hb16 HWH HMH HHH HBGH BG16
      go_wp2_with fail
      refine (HHE.out _ HM16.out.clu).mono ?_
      rintro e w17 ⟨rfl, hb17⟩
      have hC17 := below_of hC16 hb17
      clear hb17
      go_wp2_with fail
      go_ret
      exact ⟨rfl, hC17⟩

theorem rowVars : ∀ n ∈ Rows.fnExactTaskAddSpec.vars, ∃ g t ms, Tryz.prog.globalNamed n = some g ∧ (Tryz.prog.globals[g]?).map (·.type) = some t ∧ Tryz.prog.underlying t = some (.interface ms) := errVars
set_option maxRecDepth 100000 in
theorem contract (H : Type) (enc : TypeId × Value → H) (W : World) (base : Nat) (args : Array Value) (ds gs : List (DataW H)) (before : List MemPlace)
    (hval : ∀ (j : Nat) t v, Tryz.f3.params[j]? = some t → args[j]? = some v → Value.okWide Tryz.prog W .any base t v)
    (hW : DataW.Whole enc Tryz.prog Tryz.f3.params.toList Rows.fnExactTaskAddSpec.vars false W args.toList ds gs before) (hL : laidMetH Tryz.prog Rows.fnExactTaskAddRow.laid W) :
    Calls Tryz.prog 3 args W fun e W' => ∃ v, e = .returned v ∧ Rows.fnExactTaskAddSpec.post enc Tryz.prog Tryz.f3 false true false false W args v W' := by
  have hW' := hW
  obtain ⟨p, q, hA0, hV, rfl, hfz, hnd⟩ := hW
  have hA : DataW.TrodAll enc Tryz.prog W 0 (fun _ => true) true Tryz.f3.params.toList args.toList ds p := hA0
  rw [Tryz.params3] at hA hval
  obtain ⟨v0, vs0, d0, ds0, p0, q0, hargs, rfl, rfl, h0, r0⟩ := trodAll_cons hA
  obtain ⟨v1, vs1, d1, ds1, p1, q1, rfl, rfl, rfl, h1, r1⟩ := trodAll_cons r0
  obtain ⟨rfl, rfl, rfl⟩ := trodAll_nil r1
  obtain rfl : args = #[v0, v1] := by cases args; simp_all
  obtain ⟨a0, x0, y0, z0, rfl, q0⟩ := open_cluster (hval 0 _ v0 rfl rfl) h0
  obtain ⟨a1, x1, y1, rfl, sl1, si1, ml1, mi1⟩ := open_task (hval 1 _ v1 rfl rfl) h1
  obtain ⟨gg, tt, cs, fuel, d, pp, rfl, _⟩ := trodVars_one hV
  obtain ⟨hT, x, hg⟩ := typErr_of_laid hL
  have fin := walk a0 x0 y0 z0 a1 x1 y1 W x hg hT q0 sl1 si1 ml1 mi1
  refine fin.mono fun e W' ⟨he, hb⟩ => ?_
  subst he
  exact ⟨_, rfl, law_post Tryz.laidOut (by rw [Tryz.params3]; intro t ht; have k0 : Tryz.prog.readableRec 26 = true ∧ 26 < Tryz.prog.types.size := ⟨by kernel_rfl, of_decide_eq_true (by kernel_rfl)⟩; have k1 : Tryz.prog.readableRec 32 = true ∧ 32 < Tryz.prog.types.size := ⟨by kernel_rfl, of_decide_eq_true (by kernel_rfl)⟩; simp at ht; rcases ht with rfl | rfl; all_goals (first | with_reducible exact k0 | with_reducible exact k1)) rowVars (tb := 4) rfl Tryz.underlying4 hW' rfl hb⟩

theorem door_met (os : Os) (args : Array Value) : laidMetH Tryz.prog Rows.fnExactTaskAddRow.laid ((World.doorLaid Tryz.prog 400 os).forCall (fun _ _ => 0) ⟨#[], args, []⟩).memory :=
  laidMetH_of_parts (laidMet_of_run' 8 (by kernel_rfl) (by kernel_rfl)) (by kernel_rfl)
set_option maxRecDepth 100000 in
theorem lifted (os : Os) (started : os.Started) (H : Type) (enc : TypeId × Value → H) (F : Stop.Interp) :
    ReturnsInHanded {} Tryz.checked os 3 .any ((OpenSpec.ofChange Rows.fnExactTaskAddSpec).preRow enc Tryz.prog Tryz.f3 Rows.fnExactTaskAddRow.domain false Rows.fnExactTaskAddRow.laid) (((OpenSpec.ofChange Rows.fnExactTaskAddSpec).at F).post enc Tryz.prog Tryz.f3 false true false false) := by
  refine returnsInHanded_of_row (C := Tryz.checked) (s := OpenSpec.ofChange Rows.fnExactTaskAddSpec) Tryz.own started (by kernel_rfl) Tryz.func3
    (witness_row_atRef (enc := enc) (C := Tryz.checked) false (World.doorLaid Tryz.prog 400 os) #[.agg #[.slice none 0 0, .slice none 0 0, .slice none 0 0], .agg #[.int .i64 0, .int .i64 0, .int .i64 0, .int .i64 0, .int .i64 0, .slice none 0 0, .slice none 0 0]] rfl (by kernel_rfl) (by kernel_rfl) (by kernel_rfl)
      (OpenSpec.preRow_of_B rfl 8 (by kernel_rfl) (by kernel_rfl) (door_met os _))) ?_
  intro W base args ds gs before hval hW _ _ _ hL _ _
  exact contract H enc W base args ds gs before hval hW hL

theorem jIn : (Rows.fnExactTaskAddRow.inPlace == Tryz.prog.inPlace 3) = true := by kernel_rfl
theorem jUn : (Rows.fnExactTaskAddRow.unfollowed == Tryz.prog.unfollowed 3) = true := by kernel_rfl
theorem jRe : (Rows.fnExactTaskAddRow.recurses == Tryz.prog.recurses 3) = true := by kernel_rfl
theorem jNa : (Rows.fnExactTaskAddRow.named == Tryz.prog.varsNamed 3) = true := by kernel_rfl
theorem joined : joinedFacts Tryz.prog 3 Tryz.f3 (OpenSpec.ofChange Rows.fnExactTaskAddSpec).bare Rows.fnExactTaskAddRow = true :=
  joined_mk (by kernel_rfl) Tryz.laidOut pRowed (by kernel_rfl) (by kernel_rfl) rfl pStops rfl pKnobs jIn jUn jRe jNa (by kernel_rfl) (by kernel_rfl) (by kernel_rfl) (by kernel_rfl) (by kernel_rfl) (by kernel_rfl) (by kernel_rfl) (by kernel_rfl) (by kernel_rfl) pKeys (by kernel_rfl) pHeard pEnter pLifts pMake (by kernel_rfl) (by kernel_rfl) (by kernel_rfl) (by kernel_rfl)
theorem said : Rows.FnExactTaskAddSaid :=
  OpenClaim.holds_of_cond 3 Tryz.f3 rfl rfl rfl rfl rfl rfl rfl ⟨rfl, rfl, rfl, rfl, rfl⟩ rfl rfl rfl rfl rfl (by kernel_rfl) Tryz.func3 joined
    (of_decide_eq_true (by kernel_rfl)) (by unfold Func.isWrapper; first | (rw [if_pos (by decide +kernel)]; kernel_rfl) | (rw [if_neg (by decide +kernel)]; exact ⟨rfl, rfl⟩))
    (fun os started H enc _ F => by rw [OpenClaim.pre_eq_preRow]; exact lifted os started H enc F)

theorem plain (f : FuncId) (fn : Func) (hf : Tryz.pinned.checked.prog.funcNamed "loop.example/g00718/laws.FnExactTaskAdd" = some f) (hfn : Tryz.pinned.checked.prog.funcs[f]? = some fn) :
    true = Tryz.pinned.checked.prog.looks [] ∧ ∀ (j : Nat) t, fn.params[j]? = some t → Tryz.pinned.checked.prog.wantsStandIn t = false := by
  obtain rfl : f = 3 := Option.some.inj ((show Tryz.prog.funcNamed "loop.example/g00718/laws.FnExactTaskAdd" = some 3 by kernel_rfl).symm.trans hf) |>.symm
  obtain rfl : fn = Tryz.f3 := (Option.some.inj (Tryz.func3.symm.trans hfn)).symm
  refine ⟨by kernel_rfl, fun j t ht => ?_⟩
  rw [Tryz.params3] at ht
  have hm := Array.mem_of_getElem? ht
  have k0 : Tryz.pinned.checked.prog.wantsStandIn 26 = false := (show Tryz.prog.wantsStandIn 26 = false by kernel_rfl)
  have k1 : Tryz.pinned.checked.prog.wantsStandIn 32 = false := (show Tryz.prog.wantsStandIn 32 = false by kernel_rfl)
  simp at hm
  rcases hm with rfl | rfl
  all_goals (first | with_reducible exact k0 | with_reducible exact k1)

/-- The card. -/
theorem card : Rows.FnExactTaskAddCardSaid :=
  Claim7.holds_tied_plain_at .later [] _ _ _ _ said (fun _ h => by cases h) (by kernel_rfl) (fun _ h => by cases h) fnExactTaskAdd_row_tie rfl ⟨rfl, rfl⟩ (by kernel_rfl) rfl plain (by kernel_rfl)
end Go.Proofs.YtocfgejceoenmaaGreatDoor.fnExactTaskAdd
