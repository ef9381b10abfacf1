/- FnExactCordon answers true at every cluster and Id: Cordon and its model agree, the cluster is left as it was, and what is returned owns its memory. Tied to the text of impl.errRange. -/
import Derived.Test.YtocfgejceoenmaaGreatDoorCluRow
import Derived.Test.YtocfgejceoenmaaGreatDoorMgOp
import Derived.Test.YtocfgejceoenmaaGreatDoorMgMark
import Derived.Test.YtocfgejceoenmaaGreatDoorMgCord
namespace Go.Proofs.YtocfgejceoenmaaGreatDoor.fnExactCordon
open Go.ChangeShapes Go.WideShapes Go.ChangeAt Go.RowKit Go.Joins

set_option maxHeartbeats 12800000 in
set_option maxRecDepth 20000 in
theorem walk (c : CV) (a0 a1 a2 : Value) (z : Int) (on : Bool) (w : World) (x : Addr) (hg : ErrAt x w) (hT : TypAt w) (hq : CluQ w c a0 a1 a2) :
    Calls Tryz.prog 7 #[.agg #[a0, a1, a2], .int .i64 z, .bool on] w fun e w' => e = .returned (.bool true) ∧ Below w.heap.size w w' := by
  have HQ := Lib.hid hq
  have HG := Lib.hid hg
  have HT := Lib.hid hT
  obtain ⟨h0, h1, h2, _⟩ := hq
  obtain ⟨D0, e0, rfl, _⟩ := h0.form
  obtain ⟨D1, e1, rfl, _⟩ := h1.form
  obtain ⟨D2, e2, rfl, _⟩ := h2.form
  have so := fun a0 a1 a2 w h => sCordon_any c a0 a1 a2 z on w h
  have io := fun a0 a1 a2 w hg hT h => Cordon_any c a0 a1 a2 z on w x hg hT h
  generalize (cordonG c z on).1 = r at so io
  generalize (cordonG c z on).2 = n at so io
  have SO := Lib.hid so
  have IO := Lib.hid io
  have hnn : (n != n) = false := by simp
  clear h0 h1 h2 so io hg hT
  go_enter Tryz.func7, Tryz.ntmps7
  go_wp2_with fail
  have hX : Below w.heap.size w (w.alloc (.cells #[.slice D0 c.tasks.length e0, .slice D1 c.nodes.length e1, .slice D2 c.binds.length e2] 26)) := (by repeat' (first | exact Below.refl _ _ | refine Below.alloc ?_ ?_ _ | refine Below.setCell ?_ ?_ _ | refine Below.drew ?_ | (apply below_step; assumption) | (simp; done) | (simp; omega) | omega))
  refine (szCluster_any c _ _ _ 1048576 _ (HQ.out.below hX) (by omega) (by omega)).mono ?_
  rintro e w1 ⟨⟨yy, rfl, hy⟩, hb1⟩
  have hC1 := below_of hX hb1
  have B1 := (BlockIs.new w 26 #[.slice D0 c.tasks.length e0, .slice D1 c.nodes.length e1, .slice D2 c.binds.length e2]).below hb1 (by simp)
  have HB1 := Lib.hid B1
  have g0 := B1.cell 0
  have g1 := B1.cell 1
  have g2 := B1.cell 2
  simp at g0 g1 g2
  clear B1 hb1 hX
  rcases hy with rfl | ⟨y0, y1, hs⟩
  · go_wp2_with fail
    go_ret
    exact ⟨rfl, hC1⟩
  have HC := Lib.hid (HQ.out.clu hs)
  clear hs HQ
  go_wp2_with fail
  refine (toCluster_any c _ _ _ _ (HC.out.below hC1)).mono ?_
  rintro e w2 ⟨b0, b1, b2, rfl, hN2, hb2⟩
  have hC2 := below_of hC1 hb2
  have HB2 := Lib.hid (HB1.out.below hb2 HB1.out.lt)
  have HN2 := Lib.hid hN2.clu
  clear hN2 hb2 g0 g1 g2
  go_wp2_with fail
  refine (SO.out _ _ _ _ HN2.out).mono ?_
  rintro e w3 ⟨u0, u1, u2, bw, rfl, hW3, hlw, hb3⟩
  have hC3 := below_of hC2 hb3
  have B3 := (HB2.out.below hb3 HB2.out.lt).alloc (.cells #[u0, u1, u2] 39)
  obtain ⟨W0, W1, W2, y0, y1, y2, rfl, rfl, rfl, -⟩ := hW3.clu.full
  have hY3 : Below w3.heap.size w3 (w3.alloc (.cells #[.slice W0 r.tasks.length y0, .slice W1 r.nodes.length y1, .slice W2 r.binds.length y2] 39)) := (by repeat' (first | exact Below.refl _ _ | refine Below.alloc ?_ ?_ _ | refine Below.setCell ?_ ?_ _ | refine Below.drew ?_ | (apply below_step; assumption) | (simp; done) | (simp; omega) | omega))
  have HW3 := Lib.hid (hW3.agree (Agree.of_below hY3 hW3.lt))
  have HWL := Lib.hid (fun b (hb : b ∈ bw) => hW3.lt b hb)
  have BW3 : BlockIs (w3.alloc (.cells #[.slice W0 r.tasks.length y0, .slice W1 r.nodes.length y1, .slice W2 r.binds.length y2] 39)) w3.heap.size 39 #[.slice W0 r.tasks.length y0, .slice W1 r.nodes.length y1, .slice W2 r.binds.length y2] := BlockIs.new _ _ _
  have hC3' := below_of hC3 hY3
  have hz3 : w3.heap.size < (w3.alloc (.cells #[.slice W0 r.tasks.length y0, .slice W1 r.nodes.length y1, .slice W2 r.binds.length y2] 39)).heap.size := by simp
  have g0 := B3.cell 0
  have g1 := B3.cell 1
  have g2 := B3.cell 2
  simp at g0 g1 g2
  clear hb3 HN2 hW3 hlw
  go_wp2_with fail
  clear g0 g1 g2
  generalize w3.alloc (.cells #[.slice W0 r.tasks.length y0, .slice W1 r.nodes.length y1, .slice W2 r.binds.length y2] 39) = X3 at B3 hY3 HW3 BW3 hC3' hz3 ⊢
  have HB3 := Lib.hid B3
  have HBW3 := Lib.hid BW3
  clear B3 BW3
  refine (toCluster_o c _ _ _ _ (HC.out.below hC3')).mono ?_
  rintro e w4 ⟨b0, b1, b2, bs, rfl, hN4, hlo4, hb4⟩
  have hC4 := below_of hC3' hb4
  have HB4 := Lib.hid (HB3.out.below hb4 HB3.out.lt)
  have HBW4 := Lib.hid (HBW3.out.below hb4 HBW3.out.lt)
  obtain ⟨F0, f0, rfl, -⟩ := hN4.clu.1.form
  obtain ⟨F1, f1, rfl, -⟩ := hN4.clu.2.1.form
  obtain ⟨F2, f2, rfl, -⟩ := hN4.clu.2.2.1.form
  have HN4 := Lib.hid hN4
  have HLO := Lib.hid hlo4
  have HW4 := Lib.hid (HW3.out.agree (Agree.of_below hb4 HW3.out.lt))
  have hz4 := hb4.size
  clear hN4 hb4 hlo4
  go_wp2_with fail
  have hX4 : Below w4.heap.size w4 (w4.alloc (.cells #[.slice F0 c.tasks.length f0, .slice F1 c.nodes.length f1, .slice F2 c.binds.length f2] 39)) := (by repeat' (first | exact Below.refl _ _ | refine Below.alloc ?_ ?_ _ | refine Below.setCell ?_ ?_ _ | refine Below.drew ?_ | (apply below_step; assumption) | (simp; done) | (simp; omega) | omega))
  have hCX4 := below_of hC4 hX4
  refine (IO.out _ _ _ _ (HG.out.below hCX4 (Nat.le_refl _)) (HT.out.below hCX4 (Nat.le_refl _)) (HN4.out.clu.below hX4)).mono ?_
  rintro e w5 ⟨v0, v1, v2, bg, rfl, hG5, hlg, hb5⟩
  have hD5 := below_of hX4 hb5
  have hC5 := below_of hC4 hD5
  obtain ⟨G0, G1, G2, g0, g1, g2, rfl, rfl, rfl, -⟩ := hG5.clu.full
  have hY5 : Below w5.heap.size w5 (w5.alloc (.cells #[.slice G0 r.tasks.length g0, .slice G1 r.nodes.length g1, .slice G2 r.binds.length g2] 39)) := (by repeat' (first | exact Below.refl _ _ | refine Below.alloc ?_ ?_ _ | refine Below.setCell ?_ ?_ _ | refine Below.drew ?_ | (apply below_step; assumption) | (simp; done) | (simp; omega) | omega))
  have hD5' := below_of hD5 hY5
  have hC5' := below_of hC5 hY5
  have HB5 := Lib.hid (HB4.out.below hD5' HB4.out.lt)
  have HBW5 := Lib.hid (HBW4.out.below hD5' HBW4.out.lt)
  have HX5 := Lib.hid (((BlockIs.new w4 39 #[.slice F0 c.tasks.length f0, .slice F1 c.nodes.length f1, .slice F2 c.binds.length f2]).below hb5 (by simp)).alloc (.cells #[.slice G0 r.tasks.length g0, .slice G1 r.nodes.length g1, .slice G2 r.binds.length g2] 39))
  have HG5 : BlockIs (w5.alloc (.cells #[.slice G0 r.tasks.length g0, .slice G1 r.nodes.length g1, .slice G2 r.binds.length g2] 39)) w5.heap.size 39 #[.slice G0 r.tasks.length g0, .slice G1 r.nodes.length g1, .slice G2 r.binds.length g2] := BlockIs.new _ _ _
  have HN5 := Lib.hid (HN4.out.agree (Agree.of_below hD5' HN4.out.lt))
  have HW5 := Lib.hid (HW4.out.agree (Agree.of_below hD5' HW4.out.lt))
  have HR5 := Lib.hid (hG5.agree (Agree.of_below hY5 hG5.lt))
  have HGL := Lib.hid (show ∀ b ∈ bg, w4.heap.size < b ∧ b < w5.heap.size from fun b hb => ⟨by have := hlg b hb; simp at this; omega, hG5.lt b hb⟩)
  have HBL := Lib.hid (fun b (hb : b ∈ bs) => HN4.out.lt b hb)
  have hz5 := hD5.size
  have hz5' : w5.heap.size < (w5.alloc (.cells #[.slice G0 r.tasks.length g0, .slice G1 r.nodes.length g1, .slice G2 r.binds.length g2] 39)).heap.size := by simp
  have hz45 : w4.heap.size < w5.heap.size := by have := hb5.size; simp at this; omega
  have q0 := HBW5.out.cell 0
  have q1 := HBW5.out.cell 1
  have q2 := HBW5.out.cell 2
  simp at q0 q1 q2
  clear hb5 HB4 HBW4 HN4 HW4 hX4 hCX4 hG5 hlg
  go_wp2_with fail
  clear q0 q1 q2
  generalize w5.alloc (.cells #[.slice G0 r.tasks.length g0, .slice G1 r.nodes.length g1, .slice G2 r.binds.length g2] 39) = X5 at hY5 hD5' hC5' HB5 HBW5 HX5 HG5 HN5 HW5 HR5 hz5' ⊢
  have HBG5 := Lib.hid HG5
  clear HG5
  refine (eqCluster_same r _ _ _ _ _ _ _ HR5.out.clu HW5.out.clu).mono ?_
  rintro e w6 ⟨rfl, hb6⟩
  have hC6 := below_of hC5' hb6
  have B6 := HB5.out.below hb6 HB5.out.lt
  have X6 := HX5.out.below hb6 HX5.out.lt
  have HBW6 := Lib.hid (HBW5.out.below hb6 HBW5.out.lt)
  have HBG6 := Lib.hid (HBG5.out.below hb6 HBG5.out.lt)
  have HN6 := Lib.hid (HN5.out.agree (Agree.of_below hb6 HN5.out.lt))
  have HW6 := Lib.hid (HW5.out.agree (Agree.of_below hb6 HW5.out.lt))
  have HR6 := Lib.hid (HR5.out.agree (Agree.of_below hb6 HR5.out.lt))
  have hz6 := hb6.size
  have HK := Lib.hid (show ∀ w', Below w6.heap.size w6 w' → (fun w' => Below w6.heap.size w6 w' ∧ (∀ o, w'.cell? ⟨w.heap.size, o, none⟩ = (#[.slice D0 c.tasks.length e0, .slice D1 c.nodes.length e1, .slice D2 c.binds.length e2] : Array Value)[o]?) ∧ (∀ o, w'.cell? ⟨w4.heap.size, o, none⟩ = (#[.slice F0 c.tasks.length f0, .slice F1 c.nodes.length f1, .slice F2 c.binds.length f2] : Array Value)[o]?)) w' from fun w' hb => ⟨hb, (B6.below hb B6.lt).cell, (X6.below hb X6.lt).cell⟩)
  have HB6 := Lib.hid B6
  have HX6 := Lib.hid X6
  clear hb6 HB5 HX5 HN5 HW5 HR5 HBW5 HBG5 B6 X6
  go_wp2_with fail
  refine wp_region_held_drew (S := (fun w' => Below w6.heap.size w6 w' ∧ (∀ o, w'.cell? ⟨w.heap.size, o, none⟩ = (#[.slice D0 c.tasks.length e0, .slice D1 c.nodes.length e1, .slice D2 c.binds.length e2] : Array Value)[o]?) ∧ (∀ o, w'.cell? ⟨w4.heap.size, o, none⟩ = (#[.slice F0 c.tasks.length f0, .slice F1 c.nodes.length f1, .slice F2 c.binds.length f2] : Array Value)[o]?))) (by kernel_rfl) (by (try dsimp only); exact HK.out _ (by repeat' (first | exact Below.refl _ _ | refine Below.alloc ?_ ?_ _ | refine Below.setCell ?_ ?_ _ | refine Below.drew ?_ | (apply below_step; assumption) | (simp; done) | (simp; omega) | omega))) (fun hHeld => ?_)
  refine hTake (i := 0) (oi := ?a2) (v := ?f2) (d := ?g2) ?b2 ?c2 (by kernel_rfl) ?d2 ?e2 ?h2 (by assumption) ?_; (case b2 => simp only [rhN]; try rfl); (case c2 => (try dsimp only); rfl); (case e2 => rfl); (case d2 => exact fun _ _ _ h => h); (case h2 => intro w hSw; (try dsimp only at hSw); go_simp <;> with_reducible rfl); simp only [Act.put, rhA, rhS, rhT]
  refine hTake (i := 1) (oi := ?a4) (v := ?f4) (d := ?g4) ?b4 ?c4 (by kernel_rfl) ?d4 ?e4 ?h4 (by assumption) ?_; (case b4 => simp only [rhN, rhM]; try rfl); (case c4 => (try dsimp only); rfl); (case e4 => rfl); (case d4 => exact fun _ _ _ h => h); (case h4 => intro w hSw; (try dsimp only at hSw); go_simp <;> with_reducible rfl); simp only [Act.put, rhA, rhS, rhT]
  refine hCall (i := 2) (o := ?a5) ?b5 (by kernel_rfl) ?c5 (fun K hK => ?d5)
  case b5 => simp only [rhN, rhM]; try rfl
  case c5 => rfl
  go_simp
  refine (toCluster_any c _ _ _ _ (HC.out.below (below_of hC6 (by repeat' (first | exact Below.refl _ _ | refine Below.alloc ?_ ?_ _ | refine Below.setCell ?_ ?_ _ | refine Below.drew ?_ | (apply below_step; assumption) | (simp; done) | (simp; omega) | omega))))).mono ?_
  rintro e w7 ⟨d0, d1, d2, rfl, hN7, hb7⟩
  have hz7 := hb7.size
  (try simp at hz7)
  go_wp2_with fail
  refine hK.out _ _ (by (try dsimp only); exact HK.out _ (by repeat' (first | exact Below.refl _ _ | refine Below.alloc ?_ ?_ _ | refine Below.setCell ?_ ?_ _ | refine Below.drew ?_ | (apply below_step; assumption) | (simp; done) | (simp; omega) | omega))) (fun hHeld => ?_)
  clear hK K
  try simp only [Act.put, rhA, rhS, rhT]
  refine hCall (i := 3) (o := ?a6) ?b6 (by kernel_rfl) ?c6 (fun K hK => ?d6)
  case b6 => simp only [rhN, rhM]; try rfl
  case c6 => rfl
  go_simp
  refine (eqCluster_same c _ _ _ _ _ _ _ (HN6.out.clu.below (by repeat' (first | exact Below.refl _ _ | refine Below.alloc ?_ ?_ _ | refine Below.setCell ?_ ?_ _ | refine Below.drew ?_ | (apply below_step; assumption) | (simp; done) | (simp; omega) | omega))) hN7.clu).mono ?_
  rintro e w8 ⟨rfl, hb8⟩
  have hz8 := hb8.size
  (try simp at hz8)
  go_wp2_with fail
  refine hK.out _ _ (by (try dsimp only); exact HK.out _ (by repeat' (first | exact Below.refl _ _ | refine Below.alloc ?_ ?_ _ | refine Below.setCell ?_ ?_ _ | refine Below.drew ?_ | (apply below_step; assumption) | (simp; done) | (simp; omega) | omega))) (fun hHeld => ?_)
  clear hK K
  try simp only [Act.put, rhA, rhS, rhT]
  refine hTake (i := 4) (oi := ?a8) (v := ?f8) (d := ?g8) ?b8 ?c8 (by kernel_rfl) ?d8 ?e8 ?h8 (by assumption) ?_; (case b8 => simp only [rhN, rhM]; try rfl); (case c8 => (try dsimp only); rfl); (case e8 => rfl); (case d8 => exact fun _ _ _ h => h); (case h8 => intro w hSw; (try dsimp only at hSw); go_simp <;> with_reducible rfl); simp only [Act.put, rhA, rhS, rhT]
  refine wpAnyH_done (by kernel_rfl) ?_ _
  have hD8 : Below w6.heap.size w6 w8 := (by repeat' (first | exact Below.refl _ _ | refine Below.alloc ?_ ?_ _ | refine Below.setCell ?_ ?_ _ | refine Below.drew ?_ | (apply below_step; assumption) | (simp; done) | (simp; omega) | omega))
  have hC8 := below_of hC6 hD8
  have B8 := HB6.out.below hD8 HB6.out.lt
  have X8 := HX6.out.below hD8 HX6.out.lt
  have HBW8 := Lib.hid (HBW6.out.below hD8 HBW6.out.lt)
  have HBG8 := Lib.hid (HBG6.out.below hD8 HBG6.out.lt)
  have HN8 := Lib.hid (HN6.out.agree (Agree.of_below hD8 HN6.out.lt))
  have HW8 := Lib.hid (HW6.out.agree (Agree.of_below hD8 HW6.out.lt))
  have HR8 := Lib.hid (HR6.out.agree (Agree.of_below hD8 HR6.out.lt))
  have hz8' := hD8.size
  have q0 := X8.cell 0
  have q1 := X8.cell 1
  have q2 := X8.cell 2
  have ql := X8.lt
  simp at q0 q1 q2
  have HB8 := Lib.hid B8
  have HS := Lib.hid (show 0 ≤ szClu c by unfold szClu; have := sumTask_nonneg c.tasks; have := sumNode_nonneg c.nodes; omega)
  clear hb7 hb8 hN7 HK HB6 HX6 HN6 HW6 HR6 HBW6 HBG6 hHeld hD8 B8 X8 hz7 hz8
  go_wp2_with fail
  refine (markCluster_any c _ _ _ bs 1 _ HN8.out (by omega) (by omega)).mono ?_
  rintro e w9 ⟨rfl, -, hT9⟩
  have hX3z := hY3.size
  have hCw : ∀ b ∈ bs, w.heap.size ≤ b := fun b hb => Nat.le_trans hC3'.size (HLO.out b hb)
  have hC9 : Below w.heap.size w w9 := hC8.trans (hT9.below hC8.size hCw)
  have B9 := HB8.out.turn hT9 (fun hb => by have := HLO.out _ hb; have := HB3.out.lt; omega)
  have BW9 := HBW8.out.turn hT9 (fun hb => by have := HLO.out _ hb; omega)
  have BG9 := HBG8.out.turn hT9 (fun hb => by have := HBL.out _ hb; omega)
  have HW9 := Lib.hid (HW8.out.agree (hT9.agree (fun b hb => ⟨HW8.out.lt b hb, fun hx => by have := HLO.out b hx; have := HWL.out b hb; omega⟩)))
  have HR9 := Lib.hid (HR8.out.agree (hT9.agree (fun b hb => ⟨HR8.out.lt b hb, fun hx => by have := HBL.out b hx; have := HGL.out b hb; omega⟩)))
  have hm1 : decide (1 + szClu c < 0) = false := by have := HS.out; simp; omega
  have p0 := BG9.cell 0
  have p1 := BG9.cell 1
  have p2 := BG9.cell 2
  have q0 := BW9.cell 0
  have q1 := BW9.cell 1
  have q2 := BW9.cell 2
  simp at p0 p1 p2 q0 q1 q2
  have HB9 := Lib.hid B9
  have HBW9 := Lib.hid BW9
  have HBG9 := Lib.hid BG9
  clear hT9 B9 BW9 BG9 HW8 HR8 HN8 HB8 HBW8 HBG8 ql
  go_wp2_with fail
  refine (eqCluster_same r _ _ _ _ _ _ _ HR9.out.clu HW9.out.clu).mono ?_
  rintro e w10 ⟨rfl, hb10⟩
  have hC10 := below_of hC9 hb10
  have HB10 := Lib.hid (HB9.out.below hb10 HB9.out.lt)
  have HBW10 := Lib.hid (HBW9.out.below hb10 HBW9.out.lt)
  have BG10 := HBG9.out.below hb10 HBG9.out.lt
  have HBG10 := Lib.hid BG10
  have HW10 := Lib.hid (HW9.out.agree (Agree.of_below hb10 HW9.out.lt))
  have HR10 := Lib.hid (HR9.out.agree (Agree.of_below hb10 HR9.out.lt))
  have p0 := BG10.cell 0
  have p1 := BG10.cell 1
  have p2 := BG10.cell 2
  simp at p0 p1 p2
  clear hb10 HW9 HR9 HB9 HBW9 HBG9 BG10 hm1 q0 q1 q2
  go_wp2_with fail
  obtain ⟨aT, aN, aL0, aL1, aL2⟩ := HR10.out.all
  have HALL := Lib.hid (And.intro aT (And.intro aN (And.intro aL0 (And.intro aL1 aL2))))
  clear aT aN aL0 aL1 aL2
  refine (markCluster_any r _ _ _ bg 1 _ HR10.out (by omega) (by omega)).mono ?_
  rintro e w11 ⟨rfl, hM11, hT11⟩
  have hgw : ∀ b ∈ bg, w.heap.size ≤ b := fun b hb => by have := HGL.out b hb; have := hC4.size; omega
  have hC11 : Below w.heap.size w w11 := hC10.trans (hT11.below hC10.size hgw)
  have B11 := HB10.out.turn hT11 (fun hb => by have := HGL.out _ hb; have := HB3.out.lt; omega)
  have BW11 := HBW10.out.turn hT11 (fun hb => by have := HGL.out _ hb; omega)
  have BG11 := HBG10.out.turn hT11 (fun hb => by have := HGL.out _ hb; omega)
  have HW11 := Lib.hid (HW10.out.agree (hT11.agree (fun b hb => ⟨HW10.out.lt b hb, fun hx => by have := HGL.out b hx; have := HWL.out b hb; omega⟩)))
  have HM11 := Lib.hid hM11
  have HSR := Lib.hid (show 0 ≤ szClu r by unfold szClu; have := sumTask_nonneg r.tasks; have := sumNode_nonneg r.nodes; omega)
  have hn11 : ((1 + szClu r) != (1 + szClu r)) = false := by simp
  have hm11 : decide (1 + szClu r < 0) = false := by have := HSR.out; simp; omega
  have HHE := Lib.hid (fun w1 (h : CluR w1 (mClu r 1) (.slice G0 r.tasks.length g0) (.slice G1 r.nodes.length g1) (.slice G2 r.binds.length g2)) => heldCluster_any r _ _ _ 1 w1 h HALL.out.1 HALL.out.2.1 HALL.out.2.2.1 HALL.out.2.2.2.1 HALL.out.2.2.2.2 (by omega) (by omega))
  have HB11 := Lib.hid B11
  have HBW11 := Lib.hid BW11
  have HBG11 := Lib.hid BG11
  have p0 := BG11.cell 0
  have p1 := BG11.cell 1
  have p2 := BG11.cell 2
  simp at p0 p1 p2
  clear hT11 B11 BW11 BG11 hM11 HW10 HR10 HB10 HBW10 HBG10 hgw
  generalize hsz : szClu r = sz at hn11 hm11 HHE ⊢
  have HSZ := Lib.hid hsz
  clear hsz
  go_wp2_with fail
  refine (HHE.out _ HM11.out.clu).mono ?_
  rintro e w12 ⟨rfl, hb12⟩
  have hC12 := below_of hC11 hb12
  have B12 := HB11.out.below hb12 HB11.out.lt
  have HBW12 := Lib.hid (HBW11.out.below hb12 HBW11.out.lt)
  have HBG12 := Lib.hid (HBG11.out.below hb12 HBG11.out.lt)
  have HW12 := Lib.hid (HW11.out.agree (Agree.of_below hb12 HW11.out.lt))
  have HM12 := Lib.hid (HM11.out.agree (Agree.of_below hb12 HM11.out.lt))
  have b0 := B12.cell 0
  have b1 := B12.cell 1
  have b2 := B12.cell 2
  simp at b0 b1 b2
  clear hb12 B12 HW11 HM11 HB11 HBW11 HBG11 p0 p1 p2
  go_wp2_with fail
  refine (toCluster_any c _ _ _ _ (HC.out.below hC12)).mono ?_
  rintro e w13 ⟨d0, d1, d2, rfl, hN13, hb13⟩
  have hC13 := below_of hC12 hb13
  have HN13 := Lib.hid hN13.clu
  have HBW13 := Lib.hid (HBW12.out.below hb13 HBW12.out.lt)
  have HBG13 := Lib.hid (HBG12.out.below hb13 HBG12.out.lt)
  have HW13 := Lib.hid (HW12.out.agree (Agree.of_below hb13 HW12.out.lt))
  have HM13 := Lib.hid (HM12.out.agree (Agree.of_below hb13 HM12.out.lt))
  clear hN13 hb13 b0 b1 b2 HW12 HM12 HBW12 HBG12
  go_wp2_with fail
  refine (IO.out _ _ _ _ (HG.out.below hC13 (Nat.le_refl _)) (HT.out.below hC13 (Nat.le_refl _)) HN13.out).mono ?_
  rintro e w14 ⟨v0, v1, v2, bh, rfl, hH14, hlh, hb14⟩
  have hC14 := below_of hC13 hb14
  obtain ⟨H0, H1, H2, h0, h1, h2, rfl, rfl, rfl, -⟩ := hH14.clu.full
  have hY14 : Below w14.heap.size w14 (w14.alloc (.cells #[.slice H0 r.tasks.length h0, .slice H1 r.nodes.length h1, .slice H2 r.binds.length h2] 39)) := (by repeat' (first | exact Below.refl _ _ | refine Below.alloc ?_ ?_ _ | refine Below.setCell ?_ ?_ _ | refine Below.drew ?_ | (apply below_step; assumption) | (simp; done) | (simp; omega) | omega))
  have hD14 := below_of hb14 hY14
  have hC14' := below_of hC14 hY14
  have HBW14 := Lib.hid (HBW13.out.below hD14 HBW13.out.lt)
  have HBG14 := Lib.hid (HBG13.out.below hD14 HBG13.out.lt)
  have HW14 := Lib.hid (HW13.out.agree (Agree.of_below hD14 HW13.out.lt))
  have HM14 := Lib.hid (HM13.out.agree (Agree.of_below hD14 HM13.out.lt))
  have HH14 := Lib.hid (hH14.agree (Agree.of_below hY14 hH14.lt))
  have BH14 : BlockIs (w14.alloc (.cells #[.slice H0 r.tasks.length h0, .slice H1 r.nodes.length h1, .slice H2 r.binds.length h2] 39)) w14.heap.size 39 #[.slice H0 r.tasks.length h0, .slice H1 r.nodes.length h1, .slice H2 r.binds.length h2] := BlockIs.new _ _ _
  have hz14 : w14.heap.size < (w14.alloc (.cells #[.slice H0 r.tasks.length h0, .slice H1 r.nodes.length h1, .slice H2 r.binds.length h2] 39)).heap.size := by simp
  have q0 := HBW14.out.cell 0
  have q1 := HBW14.out.cell 1
  have q2 := HBW14.out.cell 2
  simp at q0 q1 q2
  clear hb14 hH14 hlh HW13 HM13 HN13 HBW13 HBG13
  go_wp2_with fail
  clear q0 q1 q2
  generalize w14.alloc (.cells #[.slice H0 r.tasks.length h0, .slice H1 r.nodes.length h1, .slice H2 r.binds.length h2] 39) = X14 at hY14 hD14 hC14' HBW14 HBG14 HW14 HM14 HH14 BH14 hz14 ⊢
  clear BH14
  refine (eqCluster_same r _ _ _ _ _ _ _ HH14.out.clu HW14.out.clu).mono ?_
  rintro e w15 ⟨rfl, hb15⟩
  have hC15 := below_of hC14' hb15
  have BG15 := HBG14.out.below hb15 HBG14.out.lt
  have HM15 := Lib.hid (HM14.out.agree (Agree.of_below hb15 HM14.out.lt))
  have p0 := BG15.cell 0
  have p1 := BG15.cell 1
  have p2 := BG15.cell 2
  have pl := BG15.lt
  simp at p0 p1 p2
  clear hb15 HW14 HM14 HH14 HBW14 HBG14 BG15
  go_wp2_with fail
  refine (HHE.out _ HM15.out.clu).mono ?_
  rintro e w16 ⟨rfl, hb16⟩
  have hC16 := below_of hC15 hb16
  clear hb16
  go_wp2_with fail
  go_ret
  exact ⟨rfl, hC16⟩

theorem rowVars : ∀ n ∈ Rows.fnExactCordonSpec.vars, ∃ g t ms, Tryz.prog.globalNamed n = some g ∧ (Tryz.prog.globals[g]?).map (·.type) = some t ∧ Tryz.prog.underlying t = some (.interface ms) := errVars
set_option maxRecDepth 100000 in
theorem contract (H : Type) (enc : TypeId × Value → H) (W : World) (base : Nat) (args : Array Value) (ds gs : List (DataW H)) (before : List MemPlace)
    (hval : ∀ (j : Nat) t v, Tryz.f7.params[j]? = some t → args[j]? = some v → Value.okWide Tryz.prog W .any base t v)
    (hW : DataW.Whole enc Tryz.prog Tryz.f7.params.toList Rows.fnExactCordonSpec.vars false W args.toList ds gs before) (hL : laidMetH Tryz.prog Rows.fnExactCordonRow.laid W) :
    Calls Tryz.prog 7 args W fun e W' => ∃ v, e = .returned v ∧ Rows.fnExactCordonSpec.post enc Tryz.prog Tryz.f7 false true false false W args v W' := by
  have hW' := hW
  obtain ⟨p, q, hA0, hV, rfl, hfz, hnd⟩ := hW
  have hA : DataW.TrodAll enc Tryz.prog W 0 (fun _ => true) true Tryz.f7.params.toList args.toList ds p := hA0
  rw [Tryz.params7] at hA hval
  obtain ⟨v0, vs0, d0, ds0, p0, q0, hargs, rfl, rfl, h0, r0⟩ := trodAll_cons hA
  obtain ⟨v1, vs1, d1, ds1, p1, q1, rfl, rfl, rfl, h1, r1⟩ := trodAll_cons r0
  obtain ⟨v2, vs2, d2, ds2, p2, q2, rfl, rfl, rfl, h2, r2⟩ := trodAll_cons r1
  obtain ⟨rfl, rfl, rfl⟩ := trodAll_nil r2
  obtain rfl : args = #[v0, v1, v2] := by cases args; simp_all
  obtain ⟨a0, x0, y0, z0, rfl, q0⟩ := open_cluster (hval 0 _ v0 rfl rfl) h0
  obtain ⟨a1, rfl, rfl, rfl, wn1⟩ := open_int Tryz.underlying3 (hval 1 _ v1 rfl rfl) h1
  obtain ⟨a2, rfl, rfl, rfl⟩ := open_bool Tryz.underlying4 (hval 2 _ v2 rfl rfl) h2
  obtain ⟨gg, tt, cs, fuel, d, pp, rfl, _⟩ := trodVars_one hV
  obtain ⟨hT, x, hg⟩ := typErr_of_laid hL
  have fin := walk a0 x0 y0 z0 a1 a2 W x hg hT q0
  refine fin.mono fun e W' ⟨he, hb⟩ => ?_
  subst he
  exact ⟨_, rfl, law_post Tryz.laidOut (by rw [Tryz.params7]; intro t ht; have k0 : Tryz.prog.readableRec 26 = true ∧ 26 < Tryz.prog.types.size := ⟨by kernel_rfl, of_decide_eq_true (by kernel_rfl)⟩; have k1 : Tryz.prog.readableRec 3 = true ∧ 3 < Tryz.prog.types.size := ⟨by kernel_rfl, of_decide_eq_true (by kernel_rfl)⟩; have k2 : Tryz.prog.readableRec 4 = true ∧ 4 < Tryz.prog.types.size := ⟨by kernel_rfl, of_decide_eq_true (by kernel_rfl)⟩; simp at ht; rcases ht with rfl | rfl | rfl; all_goals (first | with_reducible exact k0 | with_reducible exact k1 | with_reducible exact k2)) rowVars (tb := 4) rfl Tryz.underlying4 hW' rfl hb⟩

theorem door_met (os : Os) (args : Array Value) : laidMetH Tryz.prog Rows.fnExactCordonRow.laid ((World.doorLaid Tryz.prog 400 os).forCall (fun _ _ => 0) ⟨#[], args, []⟩).memory :=
  laidMetH_of_parts (laidMet_of_run' 8 (by kernel_rfl) (by kernel_rfl)) (by kernel_rfl)
set_option maxRecDepth 100000 in
theorem lifted (os : Os) (started : os.Started) (H : Type) (enc : TypeId × Value → H) (F : Stop.Interp) :
    ReturnsInHanded {} Tryz.checked os 7 .any ((OpenSpec.ofChange Rows.fnExactCordonSpec).preRow enc Tryz.prog Tryz.f7 Rows.fnExactCordonRow.domain false Rows.fnExactCordonRow.laid) (((OpenSpec.ofChange Rows.fnExactCordonSpec).at F).post enc Tryz.prog Tryz.f7 false true false false) := by
  refine returnsInHanded_of_row (C := Tryz.checked) (s := OpenSpec.ofChange Rows.fnExactCordonSpec) Tryz.own started (by kernel_rfl) Tryz.func7
    (witness_row_atRef (enc := enc) (C := Tryz.checked) false (World.doorLaid Tryz.prog 400 os) #[.agg #[.slice none 0 0, .slice none 0 0, .slice none 0 0], .int .i64 0, .bool false] rfl (by kernel_rfl) (by kernel_rfl) (by kernel_rfl)
      (OpenSpec.preRow_of_B rfl 8 (by kernel_rfl) (by kernel_rfl) (door_met os _))) ?_
  intro W base args ds gs before hval hW _ _ _ hL _ _
  exact contract H enc W base args ds gs before hval hW hL

theorem jIn : (Rows.fnExactCordonRow.inPlace == Tryz.prog.inPlace 7) = true := by kernel_rfl
theorem jUn : (Rows.fnExactCordonRow.unfollowed == Tryz.prog.unfollowed 7) = true := by kernel_rfl
theorem jRe : (Rows.fnExactCordonRow.recurses == Tryz.prog.recurses 7) = true := by kernel_rfl
theorem jNa : (Rows.fnExactCordonRow.named == Tryz.prog.varsNamed 7) = true := by kernel_rfl
theorem joined : joinedFacts Tryz.prog 7 Tryz.f7 (OpenSpec.ofChange Rows.fnExactCordonSpec).bare Rows.fnExactCordonRow = true :=
  joined_mk (by kernel_rfl) Tryz.laidOut pRowed (by kernel_rfl) (by kernel_rfl) rfl pStops rfl pKnobs jIn jUn jRe jNa (by kernel_rfl) (by kernel_rfl) (by kernel_rfl) (by kernel_rfl) (by kernel_rfl) (by kernel_rfl) (by kernel_rfl) (by kernel_rfl) (by kernel_rfl) pKeys (by kernel_rfl) pHeard pEnter pLifts pMake (by kernel_rfl) (by kernel_rfl) (by kernel_rfl) (by kernel_rfl)
theorem said : Rows.FnExactCordonSaid :=
  OpenClaim.holds_of_cond 7 Tryz.f7 rfl rfl rfl rfl rfl rfl rfl ⟨rfl, rfl, rfl, rfl, rfl⟩ rfl rfl rfl rfl rfl (by kernel_rfl) Tryz.func7 joined
    (of_decide_eq_true (by kernel_rfl)) (by unfold Func.isWrapper; first | (rw [if_pos (by decide +kernel)]; kernel_rfl) | (rw [if_neg (by decide +kernel)]; exact ⟨rfl, rfl⟩))
    (fun os started H enc _ F => by rw [OpenClaim.pre_eq_preRow]; exact lifted os started H enc F)

theorem plain (f : FuncId) (fn : Func) (hf : Tryz.pinned.checked.prog.funcNamed "loop.example/g00718/laws.FnExactCordon" = some f) (hfn : Tryz.pinned.checked.prog.funcs[f]? = some fn) :
    true = Tryz.pinned.checked.prog.looks [] ∧ ∀ (j : Nat) t, fn.params[j]? = some t → Tryz.pinned.checked.prog.wantsStandIn t = false := by
  obtain rfl : f = 7 := Option.some.inj ((show Tryz.prog.funcNamed "loop.example/g00718/laws.FnExactCordon" = some 7 by kernel_rfl).symm.trans hf) |>.symm
  obtain rfl : fn = Tryz.f7 := (Option.some.inj (Tryz.func7.symm.trans hfn)).symm
  refine ⟨by kernel_rfl, fun j t ht => ?_⟩
  rw [Tryz.params7] at ht
  have hm := Array.mem_of_getElem? ht
  have k0 : Tryz.pinned.checked.prog.wantsStandIn 26 = false := (show Tryz.prog.wantsStandIn 26 = false by kernel_rfl)
  have k1 : Tryz.pinned.checked.prog.wantsStandIn 3 = false := (show Tryz.prog.wantsStandIn 3 = false by kernel_rfl)
  have k2 : Tryz.pinned.checked.prog.wantsStandIn 4 = false := (show Tryz.prog.wantsStandIn 4 = false by kernel_rfl)
  simp at hm
  rcases hm with rfl | rfl | rfl
  all_goals (first | with_reducible exact k0 | with_reducible exact k1 | with_reducible exact k2)

/-- The card. -/
theorem card : Rows.FnExactCordonCardSaid :=
  Claim7.holds_tied_plain_at .later [] _ _ _ _ said (fun _ h => by cases h) (by kernel_rfl) (fun _ h => by cases h) fnExactCordon_row_tie rfl ⟨rfl, rfl⟩ (by kernel_rfl) rfl plain (by kernel_rfl)
end Go.Proofs.YtocfgejceoenmaaGreatDoor.fnExactCordon
