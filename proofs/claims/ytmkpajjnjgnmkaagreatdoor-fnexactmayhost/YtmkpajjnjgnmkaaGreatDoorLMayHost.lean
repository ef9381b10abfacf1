/- FnExactMayHost answers true at every cluster, list of pools and Id: MayHost and its model agree, and the cluster and the list are left as they were. Tied to impl.errRange's text. -/
import Derived.Test.YtmkpajjnjgnmkaaGreatDoorFrame
import Derived.Test.YtmkpajjnjgnmkaaGreatDoorRowBase
import Derived.Test.YtmkpajjnjgnmkaaGreatDoorMg02
import Derived.Test.YtmkpajjnjgnmkaaGreatDoorMg03
import Derived.Test.YtmkpajjnjgnmkaaGreatDoorCluS
import Derived.Test.YtmkpajjnjgnmkaaGreatDoorCluSOk
import Derived.Test.YtmkpajjnjgnmkaaGreatDoorMg06
import Derived.Test.YtmkpajjnjgnmkaaGreatDoorMg07
namespace Go.Proofs.YtmkpajjnjgnmkaaGreatDoor.fnExactMayHost
open Go.ChangeShapes Go.WideShapes Go.ChangeAt Go.RowKit Go.Joins

set_option maxHeartbeats 6400000 in
set_option maxRecDepth 20000 in
theorem walk (c : CV) (a0 a1 a2 v : Value) (l : List PV) (z : Int) (w : World) (x : Addr) (hg : ErrAt x w) (hq : CluQ w c a0 a1 a2) (hp : GSl PoolQ 12 w v l) (hm : l.length ≤ maxLen) :
    Calls Tryz.prog 3 #[.agg #[a0, a1, a2], v, .int .i64 z] w fun e w' => e = .returned (.bool true) ∧ Below w.heap.size w w' := by
  have HQ := Lib.hid hq
  have HP := Lib.hid hp
  have HG := Lib.hid hg
  obtain ⟨h0, h1, h2, _⟩ := hq
  obtain ⟨D0, e0, rfl, _⟩ := h0.form
  obtain ⟨D1, e1, rfl, _⟩ := h1.form
  obtain ⟨D2, e2, rfl, _⟩ := h2.form
  obtain ⟨A, pc, rfl, _⟩ := hp.form
  have so := fun hl a0 a1 a2 v w h hv => sMayHost_any c a0 a1 a2 v l z w h hv hl
  have io := fun hl a0 a1 a2 v w hg h hv => MayHost_any c a0 a1 a2 v l z w x hg h hv hl
  generalize mayG c l z = ok at so io
  have hne : (ok != ok) = false := by simp
  have SO := Lib.hid so
  have IO := Lib.hid io
  clear h0 h1 h2 so io hg hp
  go_enter Tryz.func3, Tryz.ntmps3
  go_wp2_with fail
  have hX : Below w.heap.size w (w.alloc (.cells #[.slice D0 c.tasks.length e0, .slice D1 c.nodes.length e1, .slice D2 c.binds.length e2] 26)) := (by repeat' (first | exact Below.refl _ _ | refine Below.alloc ?_ ?_ _ | refine Below.setCell ?_ ?_ _ | refine Below.drew ?_ | (apply below_step; assumption) | (simp; done) | (simp; omega) | omega))
  refine (szCluster_any c _ _ _ 1048576 _ (HQ.out.below hX) (by omega) (by omega)).mono ?_
  rintro e w1 ⟨⟨yy, rfl, hy⟩, hb1⟩
  have hC1 := below_of hX hb1
  have B1 := (BlockIs.new w 26 #[.slice D0 c.tasks.length e0, .slice D1 c.nodes.length e1, .slice D2 c.binds.length e2]).below hb1 (by simp)
  have HB1 := Lib.hid B1
  clear B1 hb1 hX
  rcases hy with rfl | ⟨y0, y1, hs⟩
  · go_wp2_with fail
    go_ret
    exact ⟨rfl, hC1⟩
  have HC := Lib.hid (HQ.out.clu hs)
  have hyy : decide (yy < 0) = false := by simp; omega
  clear hs HQ
  go_wp2_with fail
  refine (szPoolS_any _ l yy _ (HP.out.below PoolQ.kept hC1) hm (by omega) (by omega)).mono ?_
  rintro e w2 ⟨⟨y', rfl, hy⟩, hb2⟩
  have hC2 := below_of hC1 hb2
  have B2 := HB1.out.below hb2 HB1.out.lt
  have HB2 := Lib.hid B2
  have g0 := B2.cell 0
  have g1 := B2.cell 1
  have g2 := B2.cell 2
  simp at g0 g1 g2
  clear B2 hb2 HB1 hyy
  rcases hy with rfl | ⟨y2, y3, hlen, hall⟩
  · go_wp2_with fail
    go_ret
    exact ⟨rfl, hC2⟩
  have HL := Lib.hid (show PoolSl w (.slice A l.length pc) l from HP.out.small (fun t ht cs h => by
    obtain ⟨v1, v2, e, a, b, _, _⟩ := h
    obtain ⟨s1, s2⟩ := hall t ht
    exact ⟨v1, v2, e, a, b, s1, s2⟩))
  have hy0 : decide (y' < 0) = false := by simp; omega
  have hl : l.length ≤ 1048576 := hlen
  clear hall HP hm hlen
  go_wp2_with fail
  refine (toCluster_any c _ _ _ _ (HC.out.below hC2)).mono ?_
  rintro e w3 ⟨b0, b1, b2, rfl, hN3, hb3⟩
  have hC3 := below_of hC2 hb3
  have HB3 := Lib.hid (HB2.out.below hb3 HB2.out.lt)
  have HN3 := Lib.hid hN3.clu
  clear hN3 hb3 g0 g1 g2 HB2
  go_wp2_with fail
  refine (toPoolS_any _ l _ (HL.out.below hC3) hl).mono ?_
  rintro e w4 ⟨rfl, hP4, hb4⟩
  have hC4 := below_of hC3 hb4
  have HB4 := Lib.hid (HB3.out.below hb4 HB3.out.lt)
  have HN4 := Lib.hid (HN3.out.below hb4)
  have S4 := Lib.hid (show PoolSl w4 _ l from hP4.sl (fun _ _ h => h.r))
  clear hP4 hb4 HB3 HN3
  go_wp2_with fail
  refine (SO.out hl _ _ _ _ _ HN4.out S4.out).mono ?_
  rintro e w5 ⟨rfl, hb5⟩
  have hC5 := below_of hC4 hb5
  have B5 := HB4.out.below hb5 HB4.out.lt
  have HB5 := Lib.hid B5
  have g0 := B5.cell 0
  have g1 := B5.cell 1
  have g2 := B5.cell 2
  simp at g0 g1 g2
  clear B5 hb5 HN4 S4 HB4
  go_wp2_with fail
  refine (toCluster_any c _ _ _ _ (HC.out.below hC5)).mono ?_
  rintro e w6 ⟨b0, b1, b2, rfl, hN6, hb6⟩
  have hC6 := below_of hC5 hb6
  have HB6 := Lib.hid (HB5.out.below hb6 HB5.out.lt)
  have HN6 := Lib.hid hN6.clu
  clear hN6 hb6 g0 g1 g2 HB5
  go_wp2_with fail
  have hX6 : Below w6.heap.size w6 (w6.alloc (.cells #[.slice (some ⟨b0, 0, none⟩) c.tasks.length c.tasks.length, .slice (some ⟨b1, 0, none⟩) c.nodes.length c.nodes.length, .slice (some ⟨b2, 0, none⟩) c.binds.length c.binds.length] 35)) := (by repeat' (first | exact Below.refl _ _ | refine Below.alloc ?_ ?_ _ | refine Below.setCell ?_ ?_ _ | refine Below.drew ?_ | (apply below_step; assumption) | (simp; done) | (simp; omega) | omega))
  have hCX6 := below_of hC6 hX6
  refine (toPoolS_any _ l _ (HL.out.below hCX6) hl).mono ?_
  rintro e w7 ⟨rfl, hP7, hb7⟩
  generalize (w6.alloc (.cells #[.slice (some ⟨b0, 0, none⟩) c.tasks.length c.tasks.length, .slice (some ⟨b1, 0, none⟩) c.nodes.length c.nodes.length, .slice (some ⟨b2, 0, none⟩) c.binds.length c.binds.length] 35)).heap.size = gp at hP7 ⊢
  have hD7 := below_of hX6 hb7
  have hC7 := below_of hC6 hD7
  have HB7 := Lib.hid (HB6.out.below hD7 HB6.out.lt)
  have HN7 := Lib.hid (HN6.out.below hD7)
  have S7 := Lib.hid (show PoolSl w7 _ l from hP7.sl (fun _ _ h => h.r))
  have X7 := (BlockIs.new w6 35 #[.slice (some ⟨b0, 0, none⟩) c.tasks.length c.tasks.length, .slice (some ⟨b1, 0, none⟩) c.nodes.length c.nodes.length, .slice (some ⟨b2, 0, none⟩) c.binds.length c.binds.length]).below hb7 (by simp)
  have HX7 := Lib.hid X7
  have g0 := X7.cell 0
  have g1 := X7.cell 1
  have g2 := X7.cell 2
  have xl := X7.lt
  simp at g0 g1 g2
  clear hP7 hb7 HB6 HN6 X7 hX6 hCX6 hD7
  go_wp2_with fail
  refine (IO.out hl _ _ _ _ _ (HG.out.below hC7 (Nat.le_refl _)) HN7.out S7.out).mono ?_
  rintro e w8 ⟨rfl, hb8⟩
  have hC8 := below_of hC7 hb8
  have B8 := HB7.out.below hb8 HB7.out.lt
  have X8 := HX7.out.below hb8 HX7.out.lt
  have HN8 := Lib.hid (HN7.out.below hb8)
  have S8 := Lib.hid (S7.out.below hb8)
  have HK := Lib.hid (show ∀ w', Below w8.heap.size w8 w' → Below w8.heap.size w8 w' ∧ (∀ o, w'.cell? ⟨w.heap.size, o, none⟩ = (#[.slice D0 c.tasks.length e0, .slice D1 c.nodes.length e1, .slice D2 c.binds.length e2] : Array Value)[o]?) ∧ (∀ o, w'.cell? ⟨w6.heap.size, o, none⟩ = (#[.slice (some ⟨b0, 0, none⟩) c.tasks.length c.tasks.length, .slice (some ⟨b1, 0, none⟩) c.nodes.length c.nodes.length, .slice (some ⟨b2, 0, none⟩) c.binds.length c.binds.length] : Array Value)[o]?) from
    fun w' hb => ⟨hb, (B8.below hb B8.lt).cell, (X8.below hb X8.lt).cell⟩)
  clear B8 X8 hb8 HB7 HN7 HX7 S7 g0 g1 g2 xl
  go_wp2_with fail
  refine wp_region_held_drew (S := (fun w' => Below w8.heap.size w8 w' ∧ (∀ o, w'.cell? ⟨w.heap.size, o, none⟩ = (#[.slice D0 c.tasks.length e0, .slice D1 c.nodes.length e1, .slice D2 c.binds.length e2] : Array Value)[o]?) ∧ (∀ o, w'.cell? ⟨w6.heap.size, o, none⟩ = (#[.slice (some ⟨b0, 0, none⟩) c.tasks.length c.tasks.length, .slice (some ⟨b1, 0, none⟩) c.nodes.length c.nodes.length, .slice (some ⟨b2, 0, none⟩) c.binds.length c.binds.length] : Array Value)[o]?))) (by kernel_rfl) (by (try dsimp only); exact HK.out _ (by repeat' (first | exact Below.refl _ _ | refine Below.alloc ?_ ?_ _ | refine Below.setCell ?_ ?_ _ | refine Below.drew ?_ | (apply below_step; assumption) | (simp; done) | (simp; omega) | omega))) (fun hHeld => ?_)
  refine hT 0 ?_; simp only [Act.put, rhA, rhS, rhT]
  refine hT 1 ?_; simp only [Act.put, rhA, rhS, rhT]
  refine hCall (i := 2) (o := ?a5) ?b5 (by kernel_rfl) ?c5 (fun K hK => ?d5)
  case b5 => simp only [rhN, rhM]; try rfl
  case c5 => rfl
  go_simp
  refine (toCluster_any c _ _ _ _ (HC.out.below (below_of hC8 (by repeat' (first | exact Below.refl _ _ | refine Below.alloc ?_ ?_ _ | refine Below.setCell ?_ ?_ _ | refine Below.drew ?_ | (apply below_step; assumption) | (simp; done) | (simp; omega) | omega))))).mono ?_
  rintro e w9 ⟨d0, d1, d2, rfl, hN9, hb9⟩
  have hz9 := hb9.size
  (try simp at hz9)
  go_wp2_with fail
  refine hK.out _ _ (by (try dsimp only); exact HK.out _ (by repeat' (first | exact Below.refl _ _ | refine Below.alloc ?_ ?_ _ | refine Below.setCell ?_ ?_ _ | refine Below.drew ?_ | (apply below_step; assumption) | (simp; done) | (simp; omega) | omega))) (fun hHeld => ?_)
  clear hK K
  try simp only [Act.put, rhA, rhS, rhT]
  refine hCall (i := 3) (o := ?a6) ?b6 (by kernel_rfl) ?c6 (fun K hK => ?d6)
  case b6 => simp only [rhN, rhM]; try rfl
  case c6 => rfl
  go_simp
  refine (eqCluster_same c _ _ _ _ _ _ _ (HN8.out.below (by repeat' (first | exact Below.refl _ _ | refine Below.alloc ?_ ?_ _ | refine Below.setCell ?_ ?_ _ | refine Below.drew ?_ | (apply below_step; assumption) | (simp; done) | (simp; omega) | omega))) hN9.clu).mono ?_
  rintro e w10 ⟨rfl, hb10⟩
  have hz10 := hb10.size
  (try simp at hz10)
  go_wp2_with fail
  refine hK.out _ _ (by (try dsimp only); exact HK.out _ (by repeat' (first | exact Below.refl _ _ | refine Below.alloc ?_ ?_ _ | refine Below.setCell ?_ ?_ _ | refine Below.drew ?_ | (apply below_step; assumption) | (simp; done) | (simp; omega) | omega))) (fun hHeld => ?_)
  clear hK K
  try simp only [Act.put, rhA, rhS, rhT]
  refine hT 4 ?_; simp only [Act.put, rhA, rhS, rhT]
  refine wpAnyH_done (by kernel_rfl) ?_ _
  have hD10 : Below w8.heap.size w8 w10 := (by repeat' (first | exact Below.refl _ _ | refine Below.alloc ?_ ?_ _ | refine Below.setCell ?_ ?_ _ | refine Below.drew ?_ | (apply below_step; assumption) | (simp; done) | (simp; omega) | omega))
  have hC10 := below_of hC8 hD10
  have S10 := Lib.hid (S8.out.below hD10)
  clear hb9 hb10 hz9 hz10 hN9 hHeld HK HN8 S8 hD10
  go_wp2_with fail
  refine (toPoolS_any _ l _ (HL.out.below hC10) hl).mono ?_
  rintro e w11 ⟨rfl, hP11, hb11⟩
  have hC11 := below_of hC10 hb11
  have S11 := Lib.hid (show PoolSl w11 _ l from hP11.sl (fun _ _ h => h.r))
  have S11b := Lib.hid (S10.out.below hb11)
  clear hP11 hb11 S10
  go_wp2_with fail
  refine (eqPoolS_same _ _ l _ S11b.out S11.out hl).mono ?_
  rintro e w12 ⟨rfl, hb12⟩
  have hC12 := below_of hC11 hb12
  go_wp2_with fail
  go_ret
  exact ⟨rfl, hC12⟩

theorem rowVars : ∀ n ∈ Rows.fnExactMayHostSpec.vars, ∃ g t ms, Tryz.prog.globalNamed n = some g ∧ (Tryz.prog.globals[g]?).map (·.type) = some t ∧ Tryz.prog.underlying t = some (.interface ms) := errVars
set_option maxRecDepth 100000 in
theorem contract (H : Type) (enc : TypeId × Value → H) (W : World) (base : Nat) (args : Array Value) (ds gs : List (DataW H)) (before : List MemPlace)
    (hval : ∀ (j : Nat) t v, Tryz.f3.params[j]? = some t → args[j]? = some v → Value.okWide Tryz.prog W .any base t v)
    (hW : DataW.Whole enc Tryz.prog Tryz.f3.params.toList Rows.fnExactMayHostSpec.vars false W args.toList ds gs before) (hL : laidMetH Tryz.prog Rows.fnExactMayHostRow.laid W) :
    Calls Tryz.prog 3 args W fun e W' => ∃ v, e = .returned v ∧ Rows.fnExactMayHostSpec.post enc Tryz.prog Tryz.f3 false true false false W args v W' := by
  have hW' := hW
  obtain ⟨p, q, hA0, hV, rfl, hfz, hnd⟩ := hW
  have hA : DataW.TrodAll enc Tryz.prog W 0 (fun _ => true) true Tryz.f3.params.toList args.toList ds p := hA0
  rw [Tryz.params3] at hA hval
  obtain ⟨v0, vs0, d0, ds0, p0, q0, hargs, rfl, rfl, h0, r0⟩ := trodAll_cons hA
  obtain ⟨v1, vs1, d1, ds1, p1, q1, rfl, rfl, rfl, h1, r1⟩ := trodAll_cons r0
  obtain ⟨v2, vs2, d2, ds2, p2, q2, rfl, rfl, rfl, h2, r2⟩ := trodAll_cons r1
  obtain ⟨rfl, rfl, rfl⟩ := trodAll_nil r2
  obtain rfl : args = #[v0, v1, v2] := by cases args; simp_all
  rw [MakeChecks.laidMetH_plain _ _ _ (by kernel_rfl)] at hL
  obtain ⟨a0, x0, y0, z0, rfl, q0⟩ := open_cluster (hval 0 _ v0 rfl rfl) h0
  obtain ⟨a1, m1, q1⟩ := open_pools (hval 1 _ v1 rfl rfl) h1
  obtain ⟨a2, rfl, rfl, rfl, wn2⟩ := open_int Tryz.underlying3 (hval 2 _ v2 rfl rfl) h2
  obtain ⟨gg, tt, cs, fuel, d, pp, rfl, _⟩ := trodVars_one hV
  obtain ⟨x, hg⟩ := errAt_of_laid hL
  have fin := walk a0 x0 y0 z0 v1 a1 a2 W x hg q0 q1 m1
  refine fin.mono fun e W' ⟨he, hb⟩ => ?_
  subst he
  exact ⟨_, rfl, law_post Tryz.laidOut (by rw [Tryz.params3]; intro t ht; have k0 : Tryz.prog.readableRec 26 = true ∧ 26 < Tryz.prog.types.size := ⟨by kernel_rfl, of_decide_eq_true (by kernel_rfl)⟩; have k1 : Tryz.prog.readableRec 27 = true ∧ 27 < Tryz.prog.types.size := ⟨by kernel_rfl, of_decide_eq_true (by kernel_rfl)⟩; have k2 : Tryz.prog.readableRec 3 = true ∧ 3 < Tryz.prog.types.size := ⟨by kernel_rfl, of_decide_eq_true (by kernel_rfl)⟩; simp at ht; rcases ht with rfl | rfl | rfl; all_goals (first | with_reducible exact k0 | with_reducible exact k1 | with_reducible exact k2)) rowVars (tb := 4) rfl Tryz.underlying4 hW' rfl hb⟩

theorem door_met (os : Os) (args : Array Value) : laidMet Tryz.prog Rows.fnExactMayHostRow.laid ((World.doorLaid Tryz.prog 400 os).forCall (fun _ _ => 0) ⟨#[], args, []⟩).memory :=
  laidMet_of_run' 8 (by kernel_rfl) (by kernel_rfl)
set_option maxRecDepth 100000 in
theorem lifted (os : Os) (started : os.Started) (H : Type) (enc : TypeId × Value → H) (F : Stop.Interp) :
    ReturnsInHanded {} Tryz.checked os 3 .any ((OpenSpec.ofChange Rows.fnExactMayHostSpec).preRow enc Tryz.prog Tryz.f3 Rows.fnExactMayHostRow.domain false Rows.fnExactMayHostRow.laid) (((OpenSpec.ofChange Rows.fnExactMayHostSpec).at F).post enc Tryz.prog Tryz.f3 false true false false) := by
  refine returnsInHanded_of_row (C := Tryz.checked) (s := OpenSpec.ofChange Rows.fnExactMayHostSpec) Tryz.own started (by kernel_rfl) Tryz.func3
    (witness_row_atRef (enc := enc) (C := Tryz.checked) false (World.doorLaid Tryz.prog 400 os) #[.agg #[.slice none 0 0, .slice none 0 0, .slice none 0 0], .slice none 0 0, .int .i64 0] rfl (by kernel_rfl) (by kernel_rfl) (by kernel_rfl)
      (OpenSpec.preRow_of_B rfl 8 (by kernel_rfl) (by kernel_rfl) (door_met os _))) ?_
  intro W base args ds gs before hval hW _ _ _ hL _ _
  exact contract H enc W base args ds gs before hval hW hL

theorem jIn : (Rows.fnExactMayHostRow.inPlace == Tryz.prog.inPlace 3) = true := by kernel_rfl
theorem jUn : (Rows.fnExactMayHostRow.unfollowed == Tryz.prog.unfollowed 3) = true := by kernel_rfl
theorem jRe : (Rows.fnExactMayHostRow.recurses == Tryz.prog.recurses 3) = true := by kernel_rfl
theorem jNa : (Rows.fnExactMayHostRow.named == Tryz.prog.varsNamed 3) = true := by kernel_rfl
theorem joined : joinedFacts Tryz.prog 3 Tryz.f3 (OpenSpec.ofChange Rows.fnExactMayHostSpec).bare Rows.fnExactMayHostRow = true :=
  joined_mk (by kernel_rfl) Tryz.laidOut pRowed (by kernel_rfl) (by kernel_rfl) rfl pStops rfl pKnobs jIn jUn jRe jNa (by kernel_rfl) (by kernel_rfl) (by kernel_rfl) (by kernel_rfl) (by kernel_rfl) (by kernel_rfl) (by kernel_rfl) (by kernel_rfl) (by kernel_rfl) pKeys (by kernel_rfl) pHeard pEnter pLifts pMake (by kernel_rfl) (by kernel_rfl) (by kernel_rfl) (by kernel_rfl)
theorem said : Rows.FnExactMayHostSaid :=
  OpenClaim.holds_of_cond 3 Tryz.f3 rfl rfl rfl rfl rfl rfl rfl ⟨rfl, rfl, rfl, rfl, rfl⟩ rfl rfl rfl rfl rfl (by kernel_rfl) Tryz.func3 joined
    (of_decide_eq_true (by kernel_rfl)) (by unfold Func.isWrapper; first | (rw [if_pos (by decide +kernel)]; kernel_rfl) | (rw [if_neg (by decide +kernel)]; exact ⟨rfl, rfl⟩))
    (fun os started H enc _ F => by rw [OpenClaim.pre_eq_preRow]; exact lifted os started H enc F)

theorem plain (f : FuncId) (fn : Func) (hf : Tryz.pinned.checked.prog.funcNamed "loop.example/g00718/laws.FnExactMayHost" = some f) (hfn : Tryz.pinned.checked.prog.funcs[f]? = some fn) :
    true = Tryz.pinned.checked.prog.looks [] ∧ ∀ (j : Nat) t, fn.params[j]? = some t → Tryz.pinned.checked.prog.wantsStandIn t = false := by
  obtain rfl : f = 3 := Option.some.inj ((show Tryz.prog.funcNamed "loop.example/g00718/laws.FnExactMayHost" = some 3 by kernel_rfl).symm.trans hf) |>.symm
  obtain rfl : fn = Tryz.f3 := (Option.some.inj (Tryz.func3.symm.trans hfn)).symm
  refine ⟨by kernel_rfl, fun j t ht => ?_⟩
  rw [Tryz.params3] at ht
  have hm := Array.mem_of_getElem? ht
  have k0 : Tryz.pinned.checked.prog.wantsStandIn 26 = false := (show Tryz.prog.wantsStandIn 26 = false by kernel_rfl)
  have k1 : Tryz.pinned.checked.prog.wantsStandIn 27 = false := (show Tryz.prog.wantsStandIn 27 = false by kernel_rfl)
  have k2 : Tryz.pinned.checked.prog.wantsStandIn 3 = false := (show Tryz.prog.wantsStandIn 3 = false by kernel_rfl)
  simp at hm
  rcases hm with rfl | rfl | rfl
  all_goals (first | with_reducible exact k0 | with_reducible exact k1 | with_reducible exact k2)

theorem card : Rows.FnExactMayHostCardSaid :=
  Claim7.holds_tied_plain_at .later [] _ _ _ _ said (fun _ h => by cases h) (by kernel_rfl) (fun _ h => by cases h) fnExactMayHost_row_tie rfl ⟨rfl, rfl⟩ (by kernel_rfl) rfl plain (by kernel_rfl)
end Go.Proofs.YtmkpajjnjgnmkaaGreatDoor.fnExactMayHost
