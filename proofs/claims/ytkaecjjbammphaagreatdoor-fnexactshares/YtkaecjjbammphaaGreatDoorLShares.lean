/- FnExactShares answers true at every cluster: Shares and its model agree, the cluster is left as it was, and what is returned owns its memory. Tied to the texts of impl.errRange and impl.errNoCap. -/
import Derived.Test.YtkaecjjbammphaaGreatDoorMg03
import Derived.Test.YtkaecjjbammphaaGreatDoorMg06
import Derived.Test.YtkaecjjbammphaaGreatDoorSharesS
import Derived.Test.YtkaecjjbammphaaGreatDoorCapRow
namespace Go.Proofs.YtkaecjjbammphaaGreatDoor.fnExactShares
open Go.ChangeShapes Go.WideShapes Go.ChangeAt Go.RowKit Go.Joins

theorem sharesV_len (c : CV) : (sharesV c).length ≤ c.nodes.length := by
  unfold sharesV; split <;> simp
set_option maxHeartbeats 6400000 in
set_option maxRecDepth 20000 in
theorem walk (c : CV) (a0 a1 a2 : Value) (w : World) (x y : Addr) (hg : ErrAt x w) (hyc : CapAt y w) (hq : CluQ w c a0 a1 a2) :
    Calls Tryz.prog 3 #[.agg #[a0, a1, a2]] w fun e w' => e = .returned (.bool true) ∧ Below w.heap.size w w' := by
  have HQ := Lib.hid hq
  have HG := Lib.hid hg
  have HY := Lib.hid hyc
  obtain ⟨h0, h1, h2, _⟩ := hq
  obtain ⟨D0, e0, rfl, _⟩ := h0.form
  obtain ⟨D1, e1, rfl, _⟩ := h1.form
  obtain ⟨D2, e2, rfl, _⟩ := h2.form
  have so := fun a0 a1 a2 w h => sShares_any c a0 a1 a2 w h
  have io := fun a0 a1 a2 w hg hy h => Shares_any c a0 a1 a2 w x y hg hy h
  have hLn := sharesV_len c
  generalize sharesV c = L at so io hLn
  have HLN := Lib.hid hLn
  have SO := Lib.hid so
  have IO := Lib.hid io
  clear h0 h1 h2 so io hg hyc hLn
  go_enter Tryz.func3, Tryz.ntmps3
  go_wp2_with fail
  have hX : Below w.heap.size w (w.alloc (.cells #[.slice D0 c.tasks.length e0, .slice D1 c.nodes.length e1, .slice D2 c.binds.length e2] 26)) := (by repeat' (first | exact Below.refl _ _ | refine Below.alloc ?_ ?_ _ | refine Below.setCell ?_ ?_ _ | refine Below.drew ?_ | (apply below_step; assumption) | (simp; done) | (simp; omega) | omega))
  refine (szCluster_any c _ _ _ 1048576 _ (HQ.out.below hX) (by omega) (by omega)).mono ?_
  rintro e w1 ⟨⟨yy, rfl, hy⟩, hb1⟩
  have hC1 := below_of hX hb1
  have B1 := (BlockIs.new w 26 #[.slice D0 c.tasks.length e0, .slice D1 c.nodes.length e1, .slice D2 c.binds.length e2]).below hb1 (by simp)
  have HB1 := Lib.hid B1
  have g0 := B1.cell 0
  have g1 := B1.cell 1
  have g2 := B1.cell 2
  simp at g0 g1 g2
  clear B1 hb1 hX
  rcases hy with rfl | ⟨y0, y1, hs⟩
  · go_wp2_with fail
    go_ret
    exact ⟨rfl, hC1⟩
  have HC := Lib.hid (HQ.out.clu hs)
  have hL : L.length ≤ 1048576 := Nat.le_trans HLN.out HC.out.2.2.2.2.1
  clear hs HQ
  go_wp2_with fail
  refine (toCluster_any c _ _ _ _ (HC.out.below hC1)).mono ?_
  rintro e w2 ⟨b0, b1, b2, rfl, hN2, hb2⟩
  have hC2 := below_of hC1 hb2
  have HB2 := Lib.hid (HB1.out.below hb2 HB1.out.lt)
  have HN2 := Lib.hid hN2.clu
  clear hN2 hb2 g0 g1 g2
  go_wp2_with fail
  refine (SO.out _ _ _ _ HN2.out).mono ?_
  rintro e w3 ⟨v0, rfl, hv0, hb3⟩
  have hC3 := below_of hC2 hb3
  have B3 := HB2.out.below hb3 HB2.out.lt
  have HB3 := Lib.hid B3
  have g0 := B3.cell 0
  have g1 := B3.cell 1
  have g2 := B3.cell 2
  simp at g0 g1 g2
  have HV0 := Lib.hid hv0.o
  obtain ⟨V0, cp0, rfl, -⟩ := own_form hv0.o
  clear B3 hb3 HN2 hv0
  go_wp2_with fail
  refine (toCluster_o c _ _ _ _ (HC.out.below hC3)).mono ?_
  rintro e w4 ⟨b0, b1, b2, bs, rfl, hN4, hlo4, hb4⟩
  have hC4 := below_of hC3 hb4
  have HB4 := Lib.hid (HB3.out.below hb4 HB3.out.lt)
  obtain ⟨F0, f0, rfl, -⟩ := hN4.clu.1.form
  obtain ⟨F1, f1, rfl, -⟩ := hN4.clu.2.1.form
  obtain ⟨F2, f2, rfl, -⟩ := hN4.clu.2.2.1.form
  have HN4 := Lib.hid hN4
  have HLO := Lib.hid hlo4
  have HV4 := Lib.hid (show IntO w4 _ _ from own_agree HV0.out (Agree.of_below hb4 (own_lt HV0.out)))
  have HVL := Lib.hid (own_lt HV0.out)
  have hz4 := hb4.size
  clear hN4 hb4 g0 g1 g2 hlo4 HV0
  go_wp2_with fail
  have hX4 : Below w4.heap.size w4 (w4.alloc (.cells #[.slice F0 c.tasks.length f0, .slice F1 c.nodes.length f1, .slice F2 c.binds.length f2] 34)) := (by repeat' (first | exact Below.refl _ _ | refine Below.alloc ?_ ?_ _ | refine Below.setCell ?_ ?_ _ | refine Below.drew ?_ | (apply below_step; assumption) | (simp; done) | (simp; omega) | omega))
  have hCX4 := below_of hC4 hX4
  refine (IO.out _ _ _ _ (HG.out.below hCX4 (Nat.le_refl _)) (HY.out.below hCX4 (Nat.le_refl _)) (HN4.out.clu.below hX4)).mono ?_
  rintro e w5 ⟨v1, rfl, hv1, hb5⟩
  have hD5 := below_of hX4 hb5
  have hC5 := below_of hC4 hD5
  have HB5 := Lib.hid (HB4.out.below hD5 HB4.out.lt)
  have HX5 := Lib.hid ((BlockIs.new w4 34 #[.slice F0 c.tasks.length f0, .slice F1 c.nodes.length f1, .slice F2 c.binds.length f2]).below hb5 (by simp))
  have HN5 := Lib.hid (HN4.out.agree (Agree.of_below hD5 HN4.out.lt))
  have HV5 := Lib.hid (show IntO w5 _ _ from own_agree HV4.out (Agree.of_below hD5 (own_lt HV4.out)))
  have HG1 := Lib.hid hv1
  have HGL := Lib.hid (show ∀ b ∈ blk v1, w4.heap.size < b from fun b hb => by have := hv1.low b hb; simp at this; omega)
  obtain ⟨V1, cp1, rfl, -⟩ := own_form hv1.o
  have hz5 := hD5.size
  have HBL := Lib.hid (fun b (hb : b ∈ bs) => HN4.out.lt b hb)
  clear hb5 HB4 HN4 HV4 hX4 hCX4 hv1
  go_wp2_with fail
  refine (eqIntS_same _ _ L _ HG1.out.o.sl HV5.out.sl hL).mono ?_
  rintro e w6 ⟨rfl, hb6⟩
  have hC6 := below_of hC5 hb6
  have B6 := HB5.out.below hb6 HB5.out.lt
  have X6 := HX5.out.below hb6 HX5.out.lt
  have HN6 := Lib.hid (HN5.out.agree (Agree.of_below hb6 HN5.out.lt))
  have HV6 := Lib.hid (show IntO w6 _ _ from own_agree HV5.out (Agree.of_below hb6 (own_lt HV5.out)))
  have HG6 := Lib.hid (show IntO w6 _ _ from own_agree HG1.out.o (Agree.of_below hb6 (own_lt HG1.out.o)))
  have hz6 := hb6.size
  have HK := Lib.hid (show ∀ w', Below w6.heap.size w6 w' → (fun w' => Below w6.heap.size w6 w' ∧ (∀ o, w'.cell? ⟨w.heap.size, o, none⟩ = (#[.slice D0 c.tasks.length e0, .slice D1 c.nodes.length e1, .slice D2 c.binds.length e2] : Array Value)[o]?) ∧ (∀ o, w'.cell? ⟨w4.heap.size, o, none⟩ = (#[.slice F0 c.tasks.length f0, .slice F1 c.nodes.length f1, .slice F2 c.binds.length f2] : Array Value)[o]?)) w' from fun w' hb => ⟨hb, (B6.below hb B6.lt).cell, (X6.below hb X6.lt).cell⟩)
  have HB6 := Lib.hid B6
  have HX6 := Lib.hid X6
  clear hb6 HB5 HX5 HN5 HV5 HG1 B6 X6
  go_wp2_with fail
  refine wp_region_held_drew (S := (fun w' => Below w6.heap.size w6 w' ∧ (∀ o, w'.cell? ⟨w.heap.size, o, none⟩ = (#[.slice D0 c.tasks.length e0, .slice D1 c.nodes.length e1, .slice D2 c.binds.length e2] : Array Value)[o]?) ∧ (∀ o, w'.cell? ⟨w4.heap.size, o, none⟩ = (#[.slice F0 c.tasks.length f0, .slice F1 c.nodes.length f1, .slice F2 c.binds.length f2] : Array Value)[o]?))) (by kernel_rfl) (by (try dsimp only); exact HK.out _ (by repeat' (first | exact Below.refl _ _ | refine Below.alloc ?_ ?_ _ | refine Below.setCell ?_ ?_ _ | refine Below.drew ?_ | (apply below_step; assumption) | (simp; done) | (simp; omega) | omega))) (fun hHeld => ?_)
  refine hT 0 ?_; simp only [Act.put, rhA, rhS, rhT]
  refine hT 1 ?_; simp only [Act.put, rhA, rhS, rhT]
  refine hCall (i := 2) (o := ?a5) ?b5 (by kernel_rfl) ?c5 (fun K hK => ?d5)
  case b5 => simp only [rhN, rhM]; try rfl
  case c5 => rfl
  go_simp
  refine (toCluster_any c _ _ _ _ (HC.out.below (below_of hC6 (by repeat' (first | exact Below.refl _ _ | refine Below.alloc ?_ ?_ _ | refine Below.setCell ?_ ?_ _ | refine Below.drew ?_ | (apply below_step; assumption) | (simp; done) | (simp; omega) | omega))))).mono ?_
  rintro e w7 ⟨d0, d1, d2, rfl, hN7, hb7⟩
  have hz7 := hb7.size
  (try simp at hz7)
  go_wp2_with fail
  refine hK.out _ _ (by (try dsimp only); exact HK.out _ (by repeat' (first | exact Below.refl _ _ | refine Below.alloc ?_ ?_ _ | refine Below.setCell ?_ ?_ _ | refine Below.drew ?_ | (apply below_step; assumption) | (simp; done) | (simp; omega) | omega))) (fun hHeld => ?_)
  clear hK K
  try simp only [Act.put, rhA, rhS, rhT]
  refine hCall (i := 3) (o := ?a6) ?b6 (by kernel_rfl) ?c6 (fun K hK => ?d6)
  case b6 => simp only [rhN, rhM]; try rfl
  case c6 => rfl
  go_simp
  refine (eqCluster_same c _ _ _ _ _ _ _ (HN6.out.clu.below (by repeat' (first | exact Below.refl _ _ | refine Below.alloc ?_ ?_ _ | refine Below.setCell ?_ ?_ _ | refine Below.drew ?_ | (apply below_step; assumption) | (simp; done) | (simp; omega) | omega))) hN7.clu).mono ?_
  rintro e w8 ⟨rfl, hb8⟩
  have hz8 := hb8.size
  (try simp at hz8)
  go_wp2_with fail
  refine hK.out _ _ (by (try dsimp only); exact HK.out _ (by repeat' (first | exact Below.refl _ _ | refine Below.alloc ?_ ?_ _ | refine Below.setCell ?_ ?_ _ | refine Below.drew ?_ | (apply below_step; assumption) | (simp; done) | (simp; omega) | omega))) (fun hHeld => ?_)
  clear hK K
  try simp only [Act.put, rhA, rhS, rhT]
  refine hT 4 ?_; simp only [Act.put, rhA, rhS, rhT]
  refine wpAnyH_done (by kernel_rfl) ?_ _
  have hD8 : Below w6.heap.size w6 w8 := (by repeat' (first | exact Below.refl _ _ | refine Below.alloc ?_ ?_ _ | refine Below.setCell ?_ ?_ _ | refine Below.drew ?_ | (apply below_step; assumption) | (simp; done) | (simp; omega) | omega))
  have hC8 := below_of hC6 hD8
  have B8 := HB6.out.below hD8 HB6.out.lt
  have X8 := HX6.out.below hD8 HX6.out.lt
  have HN8 := Lib.hid (HN6.out.agree (Agree.of_below hD8 HN6.out.lt))
  have HV8 := Lib.hid (show IntO w8 _ _ from own_agree HV6.out (Agree.of_below hD8 (own_lt HV6.out)))
  have HG8 := Lib.hid (show IntO w8 _ _ from own_agree HG6.out (Agree.of_below hD8 (own_lt HG6.out)))
  have hz8' := hD8.size
  have q0 := X8.cell 0
  have q1 := X8.cell 1
  have q2 := X8.cell 2
  have ql := X8.lt
  simp at q0 q1 q2
  have HB8 := Lib.hid B8
  have HS := Lib.hid (show 0 ≤ szClu c by unfold szClu; have := sumTask_nonneg c.tasks; have := sumNode_nonneg c.nodes; omega)
  clear hb7 hb8 hN7 HK HB6 HX6 HN6 HV6 HG6 hHeld hD8 B8 X8 hz7 hz8
  go_wp2_with fail
  refine (markCluster_any c _ _ _ bs 1 _ HN8.out (by omega) (by omega)).mono ?_
  rintro e w9 ⟨rfl, -, hT9⟩
  have hCw : ∀ b ∈ bs, w.heap.size ≤ b := fun b hb => Nat.le_trans hC3.size (HLO.out b hb)
  have hC9 : Below w.heap.size w w9 := hC8.trans (hT9.below hC8.size hCw)
  have B9 := HB8.out.turn hT9 (fun hb => by have := HLO.out _ hb; have := HB3.out.lt; omega)
  have HV9 := Lib.hid (show IntO w9 _ _ from own_agree HV8.out (hT9.agree (fun b hb => ⟨own_lt HV8.out b hb, fun hx => by have := HLO.out b hx; have := HVL.out b hb; omega⟩)))
  have HG9 := Lib.hid (show IntO w9 _ _ from own_agree HG8.out (hT9.agree (fun b hb => ⟨own_lt HG8.out b hb, fun hx => by have := HBL.out b hx; have := HGL.out b hb; omega⟩)))
  have hz9 := hT9.size
  have hm1 : decide (1 + szClu c < 0) = false := by have := HS.out; simp; omega
  have HB9 := Lib.hid B9
  clear hT9 B9 HV8 HG8 HN8 HB8 q0 q1 q2
  go_wp2_with fail
  refine (eqIntS_same _ _ L _ HG9.out.sl HV9.out.sl hL).mono ?_
  rintro e w10 ⟨rfl, hb10⟩
  have hC10 := below_of hC9 hb10
  have HB10 := Lib.hid (HB9.out.below hb10 HB9.out.lt)
  have HV10 := Lib.hid (show IntO w10 _ _ from own_agree HV9.out (Agree.of_below hb10 (own_lt HV9.out)))
  have HG10 := Lib.hid (show IntO w10 _ _ from own_agree HG9.out (Agree.of_below hb10 (own_lt HG9.out)))
  have hz10 := hb10.size
  clear hb10 HV9 HG9 HB9 hm1
  go_wp2_with fail
  refine (markIntS_any _ L 1 _ HG10.out hL (by omega) (by omega)).mono ?_
  rintro e w11 ⟨rfl, hI11, hg11⟩
  have hT11 : TurnB (blk (.slice V1 L.length cp1)) w10 w11 := TurnB.of_grown hg11 (fun k e => blk_mem e)
  have hgw : ∀ b ∈ blk (.slice V1 L.length cp1), w.heap.size < b := fun b hb => by have := HGL.out b hb; have := HB3.out.lt; omega
  have hC11 : Below w.heap.size w w11 := hC10.trans (hT11.below hC10.size (fun b hb => by have := hgw b hb; omega))
  have B11 := HB10.out.turn hT11 (fun hb => by have := hgw _ hb; omega)
  have HV11 := Lib.hid (show IntO w11 _ _ from own_agree HV10.out (hT11.agree (fun b hb => ⟨own_lt HV10.out b hb, fun hx => by have := HGL.out b hx; have := HVL.out b hb; omega⟩)))
  have HI11 := Lib.hid (show IntO w11 _ _ from hI11)
  have HB11 := Lib.hid B11
  clear hT11 B11 HV10 HG10 HB10 hI11 hg11 hgw
  have hn11 : ((1 + (L.length : Int)) != (1 + (L.length : Int))) = false := by simp
  have hm11 : decide ((1 + (L.length : Int)) < 0) = false := by simp; omega
  have hHE := fun w1 (h : IntSl w1 (.slice V1 L.length cp1) (mInts 1 L.length)) => heldIntS_any (.slice V1 L.length cp1) L.length 1 w1 h hL (by omega) (by omega)
  have HHE := Lib.hid hHE
  clear hHE
  go_wp2_with fail
  refine (HHE.out _ HI11.out.sl).mono ?_
  rintro e w12 ⟨rfl, rfl⟩
  have g0 := HB11.out.cell 0
  have g1 := HB11.out.cell 1
  have g2 := HB11.out.cell 2
  simp at g0 g1 g2
  go_wp2_with fail
  refine (toCluster_any c _ _ _ _ (HC.out.below hC11)).mono ?_
  rintro e w13 ⟨d0, d1, d2, rfl, hN13, hb13⟩
  have hC13 := below_of hC11 hb13
  have HN13 := Lib.hid hN13.clu
  have HV13 := Lib.hid (show IntO w13 _ _ from own_agree HV11.out (Agree.of_below hb13 (own_lt HV11.out)))
  have HI13 := Lib.hid (show IntO w13 _ _ from own_agree HI11.out (Agree.of_below hb13 (own_lt HI11.out)))
  clear hN13 hb13 g0 g1 g2 HV11 HI11 HB11
  go_wp2_with fail
  refine (IO.out _ _ _ _ (HG.out.below hC13 (Nat.le_refl _)) (HY.out.below hC13 (Nat.le_refl _)) HN13.out).mono ?_
  rintro e w14 ⟨v2, rfl, hv2, hb14⟩
  have hC14 := below_of hC13 hb14
  have HV14 := Lib.hid (show IntO w14 _ _ from own_agree HV13.out (Agree.of_below hb14 (own_lt HV13.out)))
  have HI14 := Lib.hid (show IntO w14 _ _ from own_agree HI13.out (Agree.of_below hb14 (own_lt HI13.out)))
  have HH14 := Lib.hid hv2.o
  obtain ⟨V2, cp2, rfl, -⟩ := own_form hv2.o
  clear hb14 hv2 HV13 HI13 HN13
  go_wp2_with fail
  refine (eqIntS_same _ _ L _ HH14.out.sl HV14.out.sl hL).mono ?_
  rintro e w15 ⟨rfl, hb15⟩
  have hC15 := below_of hC14 hb15
  have HI15 := Lib.hid (show IntO w15 _ _ from own_agree HI14.out (Agree.of_below hb15 (own_lt HI14.out)))
  clear hb15 HV14 HI14 HH14
  go_wp2_with fail
  refine (HHE.out _ HI15.out.sl).mono ?_
  rintro e w16 ⟨rfl, rfl⟩
  go_wp2_with fail
  go_ret
  exact ⟨rfl, hC15⟩

theorem rowVars : ∀ n ∈ Rows.fnExactSharesSpec.vars, ∃ g t ms, Tryz.prog.globalNamed n = some g ∧ (Tryz.prog.globals[g]?).map (·.type) = some t ∧ Tryz.prog.underlying t = some (.interface ms) := capVars
set_option maxRecDepth 100000 in
theorem contract (H : Type) (enc : TypeId × Value → H) (W : World) (base : Nat) (args : Array Value) (ds gs : List (DataW H)) (before : List MemPlace)
    (hval : ∀ (j : Nat) t v, Tryz.f3.params[j]? = some t → args[j]? = some v → Value.okWide Tryz.prog W .any base t v)
    (hW : DataW.Whole enc Tryz.prog Tryz.f3.params.toList Rows.fnExactSharesSpec.vars false W args.toList ds gs before) (hL : laidMetH Tryz.prog Rows.fnExactSharesRow.laid W) :
    Calls Tryz.prog 3 args W fun e W' => ∃ v, e = .returned v ∧ Rows.fnExactSharesSpec.post enc Tryz.prog Tryz.f3 false true false false W args v W' := by
  have hW' := hW
  obtain ⟨p, q, hA0, hV, rfl, hfz, hnd⟩ := hW
  have hA : DataW.TrodAll enc Tryz.prog W 0 (fun _ => true) true Tryz.f3.params.toList args.toList ds p := hA0
  rw [Tryz.params3] at hA hval
  obtain ⟨v0, vs0, d0, ds0, p0, q0, hargs, rfl, rfl, h0, r0⟩ := trodAll_cons hA
  obtain ⟨rfl, rfl, rfl⟩ := trodAll_nil r0
  obtain rfl : args = #[v0] := by cases args; simp_all
  rw [MakeChecks.laidMetH_plain _ _ _ (by kernel_rfl)] at hL
  obtain ⟨a0, x0, y0, z0, rfl, q0⟩ := open_cluster (hval 0 _ v0 rfl rfl) h0
  obtain ⟨gg0, gg1, rfl⟩ : ∃ g0 g1, gs = [g0, g1] := by
    match gs, hV with
    | [g0, g1], _ => exact ⟨g0, g1, rfl⟩
  obtain ⟨x, hg⟩ := errAt_of_laid hL
  obtain ⟨y, hy⟩ := capAt_of_laid hL.tail
  have fin := walk a0 x0 y0 z0 W x y hg hy q0
  refine fin.mono fun e W' ⟨he, hb⟩ => ?_
  subst he
  exact ⟨_, rfl, law_post Tryz.laidOut (by rw [Tryz.params3]; intro t ht; have k0 : Tryz.prog.readableRec 26 = true ∧ 26 < Tryz.prog.types.size := ⟨by kernel_rfl, of_decide_eq_true (by kernel_rfl)⟩; simp at ht; subst ht; exact k0) rowVars (tb := 4) rfl Tryz.underlying4 hW' rfl hb⟩

theorem door_met (os : Os) (args : Array Value) : laidMet Tryz.prog Rows.fnExactSharesRow.laid ((World.doorLaid Tryz.prog 400 os).forCall (fun _ _ => 0) ⟨#[], args, []⟩).memory :=
  laidMet_of_run' 8 (by kernel_rfl) (by kernel_rfl)
set_option maxRecDepth 100000 in
theorem lifted (os : Os) (started : os.Started) (H : Type) (enc : TypeId × Value → H) (F : Stop.Interp) :
    ReturnsInHanded {} Tryz.checked os 3 .any ((OpenSpec.ofChange Rows.fnExactSharesSpec).preRow enc Tryz.prog Tryz.f3 Rows.fnExactSharesRow.domain false Rows.fnExactSharesRow.laid) (((OpenSpec.ofChange Rows.fnExactSharesSpec).at F).post enc Tryz.prog Tryz.f3 false true false false) := by
  refine returnsInHanded_of_row (C := Tryz.checked) (s := OpenSpec.ofChange Rows.fnExactSharesSpec) Tryz.own started (by kernel_rfl) Tryz.func3
    (witness_row_atRef (enc := enc) (C := Tryz.checked) false (World.doorLaid Tryz.prog 400 os) #[.agg #[.slice none 0 0, .slice none 0 0, .slice none 0 0]] rfl (by kernel_rfl) (by kernel_rfl) (by kernel_rfl)
      (OpenSpec.preRow_of_B rfl 8 (by kernel_rfl) (by kernel_rfl) (door_met os _))) ?_
  intro W base args ds gs before hval hW _ _ _ hL _ _
  exact contract H enc W base args ds gs before hval hW hL

theorem jIn : (Rows.fnExactSharesRow.inPlace == Tryz.prog.inPlace 3) = true := by kernel_rfl
theorem jUn : (Rows.fnExactSharesRow.unfollowed == Tryz.prog.unfollowed 3) = true := by kernel_rfl
theorem jRe : (Rows.fnExactSharesRow.recurses == Tryz.prog.recurses 3) = true := by kernel_rfl
theorem jNa : (Rows.fnExactSharesRow.named == Tryz.prog.varsNamed 3) = true := by kernel_rfl
theorem joined : joinedFacts Tryz.prog 3 Tryz.f3 (OpenSpec.ofChange Rows.fnExactSharesSpec).bare Rows.fnExactSharesRow = true :=
  joined_mk (by kernel_rfl) Tryz.laidOut pRowed (by kernel_rfl) (by kernel_rfl) rfl pStops rfl pKnobs jIn jUn jRe jNa (by kernel_rfl) (by kernel_rfl) (by kernel_rfl) (by kernel_rfl) (by kernel_rfl) (by kernel_rfl) (by kernel_rfl) (by kernel_rfl) (by kernel_rfl) pKeys (by kernel_rfl) pHeard pEnter pLifts pMake (by kernel_rfl) (by kernel_rfl) (by kernel_rfl) (by kernel_rfl)
theorem said : Rows.FnExactSharesSaid :=
  OpenClaim.holds_of_cond 3 Tryz.f3 rfl rfl rfl rfl rfl rfl rfl ⟨rfl, rfl, rfl, rfl, rfl⟩ rfl rfl rfl rfl rfl (by kernel_rfl) Tryz.func3 joined
    (of_decide_eq_true (by kernel_rfl)) (by unfold Func.isWrapper; first | (rw [if_pos (by decide +kernel)]; kernel_rfl) | (rw [if_neg (by decide +kernel)]; exact ⟨rfl, rfl⟩))
    (fun os started H enc _ F => by rw [OpenClaim.pre_eq_preRow]; exact lifted os started H enc F)

theorem plain (f : FuncId) (fn : Func) (hf : Tryz.pinned.checked.prog.funcNamed "loop.example/g00718/laws.FnExactShares" = some f) (hfn : Tryz.pinned.checked.prog.funcs[f]? = some fn) :
    true = Tryz.pinned.checked.prog.looks [] ∧ ∀ (j : Nat) t, fn.params[j]? = some t → Tryz.pinned.checked.prog.wantsStandIn t = false := by
  obtain rfl : f = 3 := Option.some.inj ((show Tryz.prog.funcNamed "loop.example/g00718/laws.FnExactShares" = some 3 by kernel_rfl).symm.trans hf) |>.symm
  obtain rfl : fn = Tryz.f3 := (Option.some.inj (Tryz.func3.symm.trans hfn)).symm
  refine ⟨by kernel_rfl, fun j t ht => ?_⟩
  rw [Tryz.params3] at ht
  have hm := Array.mem_of_getElem? ht
  have k0 : Tryz.pinned.checked.prog.wantsStandIn 26 = false := (show Tryz.prog.wantsStandIn 26 = false by kernel_rfl)
  simp at hm
  subst hm; exact k0

theorem card : Rows.FnExactSharesCardSaid :=
  Claim7.holds_tied_plain_at .later [] _ _ _ _ said (fun _ h => by cases h) (by kernel_rfl) (fun _ h => by cases h) fnExactShares_row_tie rfl ⟨rfl, rfl⟩ (by kernel_rfl) rfl plain (by kernel_rfl)
end Go.Proofs.YtkaecjjbammphaaGreatDoor.fnExactShares
