/- The contracts of takes, hasRoom, scoreOn, Score. -/
import Derived.Test.YtflcacbpceinaaaGreatDoorCluUsed
import Derived.Test.YtflcacbpceinaaaGreatDoorResHI
namespace Go.Proofs.YtflcacbpceinaaaGreatDoor
open Go.RowKit

/-- Could a task be placed on a node if there were room? -/
def takesV (n : NV) (t : TV) : Bool := !n.cordon && canHost n t
def roomV (c : CV) (n : NV) (t : TV) : Bool := (freeOf c n).2 && resSubOk (freeOf c n).1 t.need
def scoreV (c : CV) (n : NV) (t : TV) : Int := if roomV c n t then resShare (resAdd (usedOf c n.id).1 t.need) n.cap else -1
def scoreG (c : CV) (nz tz : Int) : Int := match fstBy NV.id c.nodes nz, fstBy TV.id c.tasks tz with
  | some n, some t => if clusterOk c && takesV n t then scoreV c n t else -1
  | _, _ => -1
theorem boxes2 (w : World) (t0 t1 : TypeId) (c0 c1 : Array Value) {w2 : World} (hb : Below ((w.alloc (.cells c0 t0)).alloc (.cells c1 t1)).heap.size ((w.alloc (.cells c0 t0)).alloc (.cells c1 t1)) w2) :
    BlockIs w2 w.heap.size t0 c0 ∧ BlockIs w2 (w.heap.size + 1) t1 c1 :=
  ⟨((BlockIs.new w t0 c0).alloc _).below hb (by simp; omega), (BlockIs.new' (by simp)).below hb (by simp)⟩
theorem boxes3 (w : World) (t0 t1 t2 : TypeId) (c0 c1 c2 : Array Value) {w2 : World} (hb : Below (((w.alloc (.cells c0 t0)).alloc (.cells c1 t1)).alloc (.cells c2 t2)).heap.size (((w.alloc (.cells c0 t0)).alloc (.cells c1 t1)).alloc (.cells c2 t2)) w2) :
    BlockIs w2 w.heap.size t0 c0 ∧ BlockIs w2 (w.heap.size + 1) t1 c1 ∧ BlockIs w2 (w.heap.size + 1 + 1) t2 c2 :=
  ⟨(((BlockIs.new w t0 c0).alloc _).alloc _).below hb (by simp; omega), (BlockIs.alloc (BlockIs.new' (by simp)) _).below hb (by simp), (BlockIs.new' (by simp)).below hb (by simp)⟩

set_option maxHeartbeats 1600000 in
theorem takes_any (n : NV) (t : TV) (ns ts : List Value) (w0 w : World) (hw : Below w0.heap.size w0 w) (x : Addr) (hg : ErrAt x w) (hn : NodeR w0 n ns) (ht : TaskR w0 t ts) :
    Calls Tryz.prog 110 #[.agg ns.toArray, .agg ts.toArray] w fun e w' => e = .returned (.bool (takesV n t)) ∧ Below w.heap.size w w' := by
  obtain ⟨u1, u2, rfl, k1, k2, m1, m2⟩ := hn
  obtain ⟨v1, v2, rfl, h1, h2, l1, l2⟩ := ht
  have hch := fun w1 hw1 hg1 => CanHost_any n t u1 u2 v1 v2 w1 x hg1 (k1.below hw1) (k2.below hw1) (h1.below hw1) (h2.below hw1) m1 m2 l1 l2
  obtain ⟨A1, c1, rfl, _⟩ := k1.form
  obtain ⟨A2, c2, rfl, _⟩ := k2.form
  obtain ⟨B1, d1, rfl, _⟩ := h1.form
  obtain ⟨B2, d2, rfl, _⟩ := h2.form
  have hE : takesV n t = (!n.cordon && canHost n t) := rfl
  generalize canHost n t = b at hch hE
  generalize takesV n t = r at hE ⊢
  have HE := Lib.hid hE
  have HW := Lib.hid hw
  have HG := Lib.hid hg
  clear k1 k2 h1 h2 hE hw hg
  cases hcd : n.cordon
  all_goals
    rw [hcd] at hch
    have HCD := Lib.hid hcd
    have HCH := Lib.hid hch
    clear hcd hch
    go_enter Tryz.func110, Tryz.ntmps110
    go_wp2_with fail
  · have hX : Below w.heap.size w ((w.alloc (.cells #[.int .i64 n.id, .int .i64 n.pool, .int .i64 n.cap.c, .int .i64 n.cap.m, .int .i64 n.cap.p, .slice A1 n.labs.length c1, .slice A2 n.taints.length c2, .bool false] 60)).alloc (.cells #[.int .i64 t.id, .int .i64 t.prio, .int .i64 t.need.c, .int .i64 t.need.m, .int .i64 t.need.p, .slice B1 t.want.length d1, .slice B2 t.tols.length d2] 46)) := (by repeat' (first | exact Below.refl _ _ | refine Below.alloc ?_ ?_ _ | refine Below.setCell ?_ ?_ _ | refine Below.drew ?_ | (apply below_step; assumption) | (simp; done) | (simp; omega) | omega))
    refine (HCH.out _ (below_of HW.out hX) (HG.out.below hX (Nat.le_refl _))).mono ?_
    rintro e w2 ⟨rfl, hb2⟩
    have hC2 := below_of hX hb2
    go_wp2_with fail
    go_ret
    exact ⟨by rw [HE.out, HCD.out]; rfl, hC2⟩
  · go_ret
    exact ⟨by rw [HE.out, HCD.out]; rfl, (by repeat' (first | exact Below.refl _ _ | refine Below.alloc ?_ ?_ _ | refine Below.setCell ?_ ?_ _ | refine Below.drew ?_ | (apply below_step; assumption) | (simp; done) | (simp; omega) | omega))⟩

set_option maxHeartbeats 3200000 in
theorem hasRoom_any (c : CV) (n : NV) (t : TV) (a0 a1 a2 : Value) (ns ts : List Value) (w0 w : World) (hw : Below w0.heap.size w0 w) (x : Addr) (hg : ErrAt x w) (hc : CluR w0 c a0 a1 a2) (hn : NodeR w0 n ns) (ht : TaskR w0 t ts) :
    Calls Tryz.prog 155 #[.agg #[a0, a1, a2], .agg ns.toArray, .agg ts.toArray] w fun e w' => e = .returned (.bool (roomV c n t)) ∧ Below w.heap.size w w' := by
  obtain ⟨u1, u2, rfl, k1, k2, m1, m2⟩ := hn
  obtain ⟨v1, v2, rfl, h1, h2, l1, l2⟩ := ht
  have hfr := fun w1 hw1 hg1 => freeOn_any c n a0 a1 a2 u1 u2 w0 w1 hw1 x hg1 hc k1 k2
  obtain ⟨D0, e0, rfl, _⟩ := hc.1.form
  obtain ⟨D1, e1, rfl, _⟩ := hc.2.1.form
  obtain ⟨D2, e2, rfl, _⟩ := hc.2.2.1.form
  obtain ⟨A1, c1, rfl, _⟩ := k1.form
  obtain ⟨A2, c2, rfl, _⟩ := k2.form
  obtain ⟨B1, d1, rfl, _⟩ := h1.form
  obtain ⟨B2, d2, rfl, _⟩ := h2.form
  have hE : roomV c n t = ((freeOf c n).2 && resSubOk (freeOf c n).1 t.need) := rfl
  generalize (freeOf c n).2 = ok at hfr hE
  generalize (freeOf c n).1 = f at hfr hE
  have hfit := fun w1 hg1 => ResFits_any t.need f w1 x hg1
  generalize resSubOk f t.need = fit at hfit hE
  generalize roomV c n t = r at hE ⊢
  have HE := Lib.hid hE
  have HFR := Lib.hid hfr
  have HFI := Lib.hid hfit
  have HW := Lib.hid hw
  have HG := Lib.hid hg
  clear k1 k2 h1 h2 hE hw hg hfr hfit hc m1 m2 l1 l2
  go_enter Tryz.func155, Tryz.ntmps155
  go_wp2_with fail
  have hX : Below w.heap.size w (((w.alloc (.cells #[.slice D0 c.tasks.length e0, .slice D1 c.nodes.length e1, .slice D2 c.binds.length e2] 39)).alloc (.cells #[.int .i64 n.id, .int .i64 n.pool, .int .i64 n.cap.c, .int .i64 n.cap.m, .int .i64 n.cap.p, .slice A1 n.labs.length c1, .slice A2 n.taints.length c2, .bool n.cordon] 60)).alloc (.cells #[.int .i64 t.id, .int .i64 t.prio, .int .i64 t.need.c, .int .i64 t.need.m, .int .i64 t.need.p, .slice B1 t.want.length d1, .slice B2 t.tols.length d2] 46)) := (by repeat' (first | exact Below.refl _ _ | refine Below.alloc ?_ ?_ _ | refine Below.setCell ?_ ?_ _ | refine Below.drew ?_ | (apply below_step; assumption) | (simp; done) | (simp; omega) | omega))
  refine (HFR.out _ (below_of HW.out hX) (HG.out.below hX (Nat.le_refl _))).mono ?_
  rintro e w2 ⟨rfl, hb2⟩
  have hC2 := below_of hX hb2
  obtain ⟨-, -, BT⟩ := boxes3 _ _ _ _ _ _ _ hb2
  have t2 := BT.cell 2
  have t3 := BT.cell 3
  have t4 := BT.cell 4
  have tl := BT.lt
  simp at t2 t3 t4
  clear hb2 hX BT
  cases ok
  · go_wp2_with fail
    go_ret
    exact ⟨by rw [HE.out]; rfl, (by repeat' (first | exact Below.refl _ _ | refine Below.alloc ?_ ?_ _ | refine Below.setCell ?_ ?_ _ | refine Below.drew ?_ | (apply below_step; assumption) | (simp; done) | (simp; omega) | omega))⟩
  · go_wp2_with fail
    have hX2 : Below w2.heap.size w2 (w2.alloc (.cells #[.int .i64 f.c, .int .i64 f.m, .int .i64 f.p] 43)) := (by repeat' (first | exact Below.refl _ _ | refine Below.alloc ?_ ?_ _ | refine Below.setCell ?_ ?_ _ | refine Below.drew ?_ | (apply below_step; assumption) | (simp; done) | (simp; omega) | omega))
    have hCX := below_of hC2 hX2
    refine (HFI.out _ (HG.out.below hCX (Nat.le_refl _))).mono ?_
    rintro e w3 ⟨rfl, hb3⟩
    have hC3 := below_of hCX hb3
    go_wp2_with fail
    go_ret
    exact ⟨by rw [HE.out]; rfl, hC3⟩

set_option maxHeartbeats 3200000 in
theorem scoreOn_any (c : CV) (n : NV) (t : TV) (a0 a1 a2 : Value) (ns ts : List Value) (w0 w : World) (hw : Below w0.heap.size w0 w) (x y : Addr) (hg : ErrAt x w) (hy : CapAt y w) (hc : CluR w0 c a0 a1 a2) (hn : NodeR w0 n ns) (ht : TaskR w0 t ts) :
    Calls Tryz.prog 111 #[.agg #[a0, a1, a2], .agg ns.toArray, .agg ts.toArray] w fun e w' => e = .returned (.int .i64 (scoreV c n t)) ∧ Below w.heap.size w w' := by
  have hro := fun w1 hw1 hg1 => hasRoom_any c n t a0 a1 a2 ns ts w0 w1 hw1 x hg1 hc hn ht
  have hus := fun w1 hw1 hg1 => usedOn_any c a0 a1 a2 n.id w0 w1 hw1 x hg1 hc
  obtain ⟨u1, u2, rfl, k1, k2, m1, m2⟩ := hn
  obtain ⟨v1, v2, rfl, h1, h2, l1, l2⟩ := ht
  obtain ⟨D0, e0, rfl, _⟩ := hc.1.form
  obtain ⟨D1, e1, rfl, _⟩ := hc.2.1.form
  obtain ⟨D2, e2, rfl, _⟩ := hc.2.2.1.form
  obtain ⟨A1, c1, rfl, _⟩ := k1.form
  obtain ⟨A2, c2, rfl, _⟩ := k2.form
  obtain ⟨B1, d1, rfl, _⟩ := h1.form
  obtain ⟨B2, d2, rfl, _⟩ := h2.form
  have hE : scoreV c n t = if roomV c n t then resShare (resAdd (usedOf c n.id).1 t.need) n.cap else -1 := rfl
  generalize roomV c n t = ro at hro hE
  generalize (usedOf c n.id).1 = u at hus hE
  generalize (usedOf c n.id).2 = uo at hus
  have had := fun w1 hg1 => ResAdd_any u t.need w1 x hg1
  generalize resAdd u t.need = s at had hE
  generalize resAddOk u t.need = so at had
  have hsh := fun w1 hg1 hy1 => ResShare_any s n.cap w1 x y hg1 hy1
  generalize resShare s n.cap = sh at hsh hE
  generalize scoreV c n t = r at hE ⊢
  have HE := Lib.hid hE
  have HRO := Lib.hid hro
  have HUS := Lib.hid hus
  have HAD := Lib.hid had
  have HSH := Lib.hid hsh
  have HW := Lib.hid hw
  have HG := Lib.hid hg
  have HY := Lib.hid hy
  clear k1 k2 h1 h2 hE hw hg hy hro hus had hsh hc m1 m2 l1 l2
  go_enter Tryz.func111, Tryz.ntmps111
  go_wp2_with fail
  have hX : Below w.heap.size w (((w.alloc (.cells #[.slice D0 c.tasks.length e0, .slice D1 c.nodes.length e1, .slice D2 c.binds.length e2] 39)).alloc (.cells #[.int .i64 n.id, .int .i64 n.pool, .int .i64 n.cap.c, .int .i64 n.cap.m, .int .i64 n.cap.p, .slice A1 n.labs.length c1, .slice A2 n.taints.length c2, .bool n.cordon] 60)).alloc (.cells #[.int .i64 t.id, .int .i64 t.prio, .int .i64 t.need.c, .int .i64 t.need.m, .int .i64 t.need.p, .slice B1 t.want.length d1, .slice B2 t.tols.length d2] 46)) := (by repeat' (first | exact Below.refl _ _ | refine Below.alloc ?_ ?_ _ | refine Below.setCell ?_ ?_ _ | refine Below.drew ?_ | (apply below_step; assumption) | (simp; done) | (simp; omega) | omega))
  refine (HRO.out _ (below_of HW.out hX) (HG.out.below hX (Nat.le_refl _))).mono ?_
  rintro e w2 ⟨rfl, hb2⟩
  have hC2 := below_of hX hb2
  obtain ⟨BC, BN, BT⟩ := boxes3 _ _ _ _ _ _ _ hb2
  have g0 := BC.cell 0
  have g1 := BC.cell 1
  have g2 := BC.cell 2
  have n0 := BN.cell 0
  have cl := BC.lt
  have nl := BN.lt
  simp at g0 g1 g2 n0
  have HBN := Lib.hid BN
  have HBT := Lib.hid BT
  clear hb2 hX BC BN BT
  cases ro
  · go_wp2_with fail
    go_ret
    exact ⟨by rw [HE.out]; rfl, hC2⟩
  · go_wp2_with fail
    refine (HUS.out _ (below_of HW.out hC2) (HG.out.below hC2 (Nat.le_refl _))).mono ?_
    rintro e w3 ⟨rfl, hb3⟩
    have hC3 := below_of hC2 hb3
    have BN := HBN.out.below hb3 HBN.out.lt
    have BT := HBT.out.below hb3 HBT.out.lt
    have t2 := BT.cell 2
    have t3 := BT.cell 3
    have t4 := BT.cell 4
    have tl := BT.lt
    simp at t2 t3 t4
    have HBN3 := Lib.hid BN
    clear hb3 g0 g1 g2 n0 BT BN HBN HBT
    go_wp2_with fail
    have hX3 : Below w3.heap.size w3 (w3.alloc (.cells #[.int .i64 u.c, .int .i64 u.m, .int .i64 u.p] 43)) := (by repeat' (first | exact Below.refl _ _ | refine Below.alloc ?_ ?_ _ | refine Below.setCell ?_ ?_ _ | refine Below.drew ?_ | (apply below_step; assumption) | (simp; done) | (simp; omega) | omega))
    have hCX := below_of hC3 hX3
    refine (HAD.out _ (HG.out.below hCX (Nat.le_refl _))).mono ?_
    rintro e w4 ⟨rfl, hb4⟩
    have hD4 := below_of hX3 hb4
    have hC4 := below_of hC3 hD4
    have BN := HBN3.out.below hD4 HBN3.out.lt
    have n2 := BN.cell 2
    have n3 := BN.cell 3
    have n4 := BN.cell 4
    have nl := BN.lt
    simp at n2 n3 n4
    clear hb4 t2 t3 t4 BN HBN3 hX3 hCX
    go_wp2_with fail
    have hX4 : Below w4.heap.size w4 (w4.alloc (.cells #[.int .i64 s.c, .int .i64 s.m, .int .i64 s.p] 43)) := (by repeat' (first | exact Below.refl _ _ | refine Below.alloc ?_ ?_ _ | refine Below.setCell ?_ ?_ _ | refine Below.drew ?_ | (apply below_step; assumption) | (simp; done) | (simp; omega) | omega))
    have hCX := below_of hC4 hX4
    refine (HSH.out _ (HG.out.below hCX (Nat.le_refl _)) (HY.out.below hCX (Nat.le_refl _))).mono ?_
    rintro e w5 ⟨rfl, hb5⟩
    have hC5 := below_of hCX hb5
    go_wp2_with fail
    go_ret
    exact ⟨by rw [HE.out]; rfl, hC5⟩

set_option maxHeartbeats 6400000 in
theorem Score_any (c : CV) (a0 a1 a2 : Value) (nz tz : Int) (w : World) (x y : Addr) (hg : ErrAt x w) (hy : CapAt y w) (hc : CluR w c a0 a1 a2) :
    Calls Tryz.prog 51 #[.agg #[a0, a1, a2], .int .i64 nz, .int .i64 tz] w fun e w' => e = .returned (.int .i64 (scoreG c nz tz)) ∧ Below w.heap.size w w' := by
  have hfn := fun w1 hw1 => findNode_any c a0 a1 a2 nz w w1 hw1 hc
  have hft := fun w1 hw1 => findTask_any c a0 a1 a2 tz w w1 hw1 hc
  have hok := fun w1 hg1 hw1 => ClusterOk_any c a0 a1 a2 w1 x hg1 (hc.below hw1)
  have htk := fun n t ns ts w1 hw1 hg1 hn ht => takes_any n t ns ts w w1 hw1 x hg1 hn ht
  have hso := fun n t ns ts w1 hw1 hg1 hy1 hn ht => scoreOn_any c n t a0 a1 a2 ns ts w w1 hw1 x y hg1 hy1 hc hn ht
  have hE : scoreG c nz tz = match fstBy NV.id c.nodes nz, fstBy TV.id c.tasks tz with
    | some n, some t => if clusterOk c && takesV n t then scoreV c n t else -1
    | _, _ => -1 := rfl
  obtain ⟨D0, e0, rfl, _⟩ := hc.1.form
  obtain ⟨D1, e1, rfl, _⟩ := hc.2.1.form
  obtain ⟨D2, e2, rfl, _⟩ := hc.2.2.1.form
  generalize fstBy NV.id c.nodes nz = o1 at hfn hE
  generalize fstBy TV.id c.tasks tz = o2 at hft hE
  generalize clusterOk c = ok at hok hE
  generalize scoreG c nz tz = r at hE ⊢
  have HE := Lib.hid hE
  have HFN := Lib.hid hfn
  have HFT := Lib.hid hft
  have HOK := Lib.hid hok
  have HTK := Lib.hid htk
  have HSO := Lib.hid hso
  have HG := Lib.hid hg
  have HY := Lib.hid hy
  clear hE hfn hft hok htk hso hg hy hc
  go_enter Tryz.func51, Tryz.ntmps51
  go_wp2_with fail
  have hX : Below w.heap.size w (w.alloc (.cells #[.slice D0 c.tasks.length e0, .slice D1 c.nodes.length e1, .slice D2 c.binds.length e2] 39)) := (by repeat' (first | exact Below.refl _ _ | refine Below.alloc ?_ ?_ _ | refine Below.setCell ?_ ?_ _ | refine Below.drew ?_ | (apply below_step; assumption) | (simp; done) | (simp; omega) | omega))
  refine (HFN.out _ hX).mono ?_
  rintro e w2 ⟨ns, rfl, hn, hb2⟩
  have hC2 := below_of hX hb2
  have BC := (BlockIs.new w 39 #[.slice D0 c.tasks.length e0, .slice D1 c.nodes.length e1, .slice D2 c.binds.length e2]).below hb2 (by simp)
  have g0 := BC.cell 0
  have g1 := BC.cell 1
  have g2 := BC.cell 2
  have cl := BC.lt
  simp at g0 g1 g2
  have HN := Lib.hid hn
  have HBC := Lib.hid BC
  generalize hgn : o1.getD NV.zero = n at hn HN
  have HGN := Lib.hid hgn
  obtain ⟨u1, u2, rfl, k1, k2, m1, m2⟩ := hn
  obtain ⟨A1, c1, rfl, _⟩ := k1.form
  obtain ⟨A2, c2, rfl, _⟩ := k2.form
  clear k1 k2 m1 m2 hb2 BC hgn hX
  go_wp2_with fail
  have hX2 : Below w2.heap.size w2 (w2.alloc (.cells #[.int .i64 n.id, .int .i64 n.pool, .int .i64 n.cap.c, .int .i64 n.cap.m, .int .i64 n.cap.p, .slice A1 n.labs.length c1, .slice A2 n.taints.length c2, .bool n.cordon] 60)) := (by repeat' (first | exact Below.refl _ _ | refine Below.alloc ?_ ?_ _ | refine Below.setCell ?_ ?_ _ | refine Below.drew ?_ | (apply below_step; assumption) | (simp; done) | (simp; omega) | omega))
  have hCX2 := below_of hC2 hX2
  refine (HFT.out _ hCX2).mono ?_
  rintro e w3 ⟨ts, rfl, ht, hb3⟩
  have hD3 := below_of hX2 hb3
  have hC3 := below_of hC2 hD3
  have BN := (BlockIs.new w2 60 #[.int .i64 n.id, .int .i64 n.pool, .int .i64 n.cap.c, .int .i64 n.cap.m, .int .i64 n.cap.p, .slice A1 n.labs.length c1, .slice A2 n.taints.length c2, .bool n.cordon]).below hb3 (by simp)
  have BC := HBC.out.below hD3 HBC.out.lt
  have g0 := BC.cell 0
  have g1 := BC.cell 1
  have g2 := BC.cell 2
  have cl := BC.lt
  simp at g0 g1 g2
  have HT := Lib.hid ht
  have HBC3 := Lib.hid BC
  have HBN3 := Lib.hid BN
  generalize hgt : o2.getD TV.zero = t at ht HT
  have HGT := Lib.hid hgt
  obtain ⟨v1, v2, rfl, h1, h2, l1, l2⟩ := ht
  obtain ⟨B1, d1, rfl, _⟩ := h1.form
  obtain ⟨B2, d2, rfl, _⟩ := h2.form
  clear h1 h2 l1 l2 hb3 BC BN hgt hX2 hCX2 hD3 HBC
  have hX3 : Below w3.heap.size w3 (w3.alloc (.cells #[.int .i64 t.id, .int .i64 t.prio, .int .i64 t.need.c, .int .i64 t.need.m, .int .i64 t.need.p, .slice B1 t.want.length d1, .slice B2 t.tols.length d2] 46)) := (by repeat' (first | exact Below.refl _ _ | refine Below.alloc ?_ ?_ _ | refine Below.setCell ?_ ?_ _ | refine Below.drew ?_ | (apply below_step; assumption) | (simp; done) | (simp; omega) | omega))
  have hCX3 := below_of hC3 hX3
  cases o1 with
  | none =>
    go_wp2_with fail
    go_ret
    exact ⟨by rw [HE.out] <;> rfl, hCX3⟩
  | some n' =>
    cases o2 with
    | none =>
      go_wp2_with fail
      go_ret
      exact ⟨by rw [HE.out] <;> rfl, hCX3⟩
    | some t' =>
      obtain rfl : n = n' := HGN.out.symm
      obtain rfl : t = t' := HGT.out.symm
      go_wp2_with fail
      refine (HOK.out _ (HG.out.below hCX3 (Nat.le_refl _)) hCX3).mono ?_
      rintro e w4 ⟨rfl, hb4⟩
      have hD4 := below_of hX3 hb4
      have hC4 := below_of hC3 hD4
      have BC := HBC3.out.below hD4 HBC3.out.lt
      have BN := HBN3.out.below hD4 HBN3.out.lt
      have BT := (BlockIs.new w3 46 #[.int .i64 t.id, .int .i64 t.prio, .int .i64 t.need.c, .int .i64 t.need.m, .int .i64 t.need.p, .slice B1 t.want.length d1, .slice B2 t.tols.length d2]).below hb4 (by simp)
      have HBC4 := Lib.hid BC
      have HBN4 := Lib.hid BN
      have HBT4 := Lib.hid BT
      have n0 := BN.cell 0; have n1 := BN.cell 1; have n2 := BN.cell 2; have n3 := BN.cell 3; have n4 := BN.cell 4; have n5 := BN.cell 5; have n6 := BN.cell 6; have n7 := BN.cell 7
      have t0 := BT.cell 0; have t1 := BT.cell 1; have t2 := BT.cell 2; have t3 := BT.cell 3; have t4 := BT.cell 4; have t5 := BT.cell 5; have t6 := BT.cell 6
      have nl := BN.lt
      have tl := BT.lt
      simp at n0 n1 n2 n3 n4 n5 n6 n7 t0 t1 t2 t3 t4 t5 t6
      clear hb4 hX3 hCX3 hD4 HBC3 HBN3 BC BN BT g0 g1 g2
      cases ok
      · go_wp2_with fail
        go_ret
        exact ⟨by rw [HE.out]; rfl, hC4⟩
      · go_wp2_with fail
        refine (HTK.out n t _ _ _ hC4 (HG.out.below hC4 (Nat.le_refl _)) HN.out HT.out).mono ?_
        rintro e w5 ⟨rfl, hb5⟩
        have hC5 := below_of hC4 hb5
        have BC := HBC4.out.below hb5 HBC4.out.lt
        have BN := HBN4.out.below hb5 HBN4.out.lt
        have BT := HBT4.out.below hb5 HBT4.out.lt
        have g0 := BC.cell 0; have g1 := BC.cell 1; have g2 := BC.cell 2
        have n0 := BN.cell 0; have n1 := BN.cell 1; have n2 := BN.cell 2; have n3 := BN.cell 3; have n4 := BN.cell 4; have n5 := BN.cell 5; have n6 := BN.cell 6; have n7 := BN.cell 7
        have t0 := BT.cell 0; have t1 := BT.cell 1; have t2 := BT.cell 2; have t3 := BT.cell 3; have t4 := BT.cell 4; have t5 := BT.cell 5; have t6 := BT.cell 6
        have cl := BC.lt
        have nl := BN.lt
        have tl := BT.lt
        simp at g0 g1 g2 n0 n1 n2 n3 n4 n5 n6 n7 t0 t1 t2 t3 t4 t5 t6
        clear hb5 BC BN BT HBC4 HBN4 HBT4
        have HR := Lib.hid (show r = if takesV n t then scoreV c n t else -1 by rw [HE.out]; simp)
        generalize takesV n t = tk at HR
        cases tk
        · go_wp2_with fail
          go_ret
          exact ⟨by rw [HR.out]; rfl, hC5⟩
        · go_wp2_with fail
          refine (HSO.out n t _ _ _ hC5 (HG.out.below hC5 (Nat.le_refl _)) (HY.out.below hC5 (Nat.le_refl _)) HN.out HT.out).mono ?_
          rintro e w6 ⟨rfl, hb6⟩
          have hC6 := below_of hC5 hb6
          go_wp2_with fail
          go_ret
          exact ⟨by rw [HR.out]; rfl, hC6⟩
end Go.Proofs.YtflcacbpceinaaaGreatDoor
