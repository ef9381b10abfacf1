/- FnExactPick answers true at every cluster and Id: Pick and its model agree, and the cluster is left as it was. Tied to the texts of impl.errRange and impl.errNoCap. -/
import Derived.Test.YtmkpajjnjgnmkaaGreatDoorFrame
import Derived.Test.YtmkpajjnjgnmkaaGreatDoorRowBase
import Derived.Test.YtmkpajjnjgnmkaaGreatDoorMg02
import Derived.Test.YtmkpajjnjgnmkaaGreatDoorMg03
import Derived.Test.YtmkpajjnjgnmkaaGreatDoorCluS
import Derived.Test.YtmkpajjnjgnmkaaGreatDoorCluSOk
import Derived.Test.YtmkpajjnjgnmkaaGreatDoorMg06
import Derived.Test.YtmkpajjnjgnmkaaGreatDoorMg07
import Derived.Test.YtmkpajjnjgnmkaaGreatDoorTlLPick
namespace Go.Proofs.YtmkpajjnjgnmkaaGreatDoor.fnExactPick
open Go.ChangeShapes Go.WideShapes Go.ChangeAt Go.RowKit Go.Joins

set_option maxHeartbeats 3200000 in
set_option maxRecDepth 20000 in
theorem walk (c : CV) (a0 a1 a2 : Value) (z : Int) (w : World) (x y : Addr) (hg : ErrAt x w) (hyc : CapAt y w) (hq : CluQ w c a0 a1 a2) :
    Calls Tryz.prog 11 #[.agg #[a0, a1, a2], .int .i64 z] w fun e w' => e = .returned (.bool true) ∧ Below w.heap.size w w' := by
  have HQ := Lib.hid hq
  have HG := Lib.hid hg
  have HY := Lib.hid hyc
  obtain ⟨h0, h1, h2, _⟩ := hq
  obtain ⟨D0, e0, rfl, _⟩ := h0.form
  obtain ⟨D1, e1, rfl, _⟩ := h1.form
  obtain ⟨D2, e2, rfl, _⟩ := h2.form
  have so := fun a0 a1 a2 w h => sPick_any c a0 a1 a2 z w h
  have io := fun a0 a1 a2 w hg hy h => Pick_any c a0 a1 a2 z w x y hg hy h
  generalize pickG c z = ok at so io
  have hne : (ok != ok) = false := by simp
  have SO := Lib.hid so
  have IO := Lib.hid io
  clear h0 h1 h2 so io hg hyc
  go_enter Tryz.func11, Tryz.ntmps11
  go_wp2_with fail
  have hX : Below w.heap.size w (w.alloc (.cells #[.slice D0 c.tasks.length e0, .slice D1 c.nodes.length e1, .slice D2 c.binds.length e2] 26)) := (by repeat' (first | exact Below.refl _ _ | refine Below.alloc ?_ ?_ _ | refine Below.setCell ?_ ?_ _ | refine Below.drew ?_ | (apply below_step; assumption) | (simp; done) | (simp; omega) | omega))
  refine (szCluster_any c _ _ _ 1048576 _ (HQ.out.below hX) (by omega) (by omega)).mono ?_
  rintro e w1 ⟨⟨yy, rfl, hy⟩, hb1⟩
  have hC1 := below_of hX hb1
  have B1 := (BlockIs.new w 26 #[.slice D0 c.tasks.length e0, .slice D1 c.nodes.length e1, .slice D2 c.binds.length e2]).below hb1 (by simp)
  have HB1 := Lib.hid B1
  have g0 := B1.cell 0
  have g1 := B1.cell 1
  have g2 := B1.cell 2
  simp at g0 g1 g2
  clear B1 hb1 hX
  rcases hy with rfl | ⟨y0, y1, hs⟩
  · go_wp2_with fail
    go_ret
    exact ⟨rfl, hC1⟩
  have HC := Lib.hid (HQ.out.clu hs)
  clear hs HQ
  go_wp2_with fail
  refine (toCluster_any c _ _ _ _ (HC.out.below hC1)).mono ?_
  rintro e w2 ⟨b0, b1, b2, rfl, hN2, hb2⟩
  have hC2 := below_of hC1 hb2
  have HB2 := Lib.hid (HB1.out.below hb2 HB1.out.lt)
  have HN2 := Lib.hid hN2.clu
  clear hN2 hb2 g0 g1 g2
  go_wp2_with fail
  refine (SO.out _ _ _ _ HN2.out).mono ?_
  rintro e w3 ⟨rfl, hb3⟩
  have hC3 := below_of hC2 hb3
  have B3 := HB2.out.below hb3 HB2.out.lt
  have HB3 := Lib.hid B3
  have g0 := B3.cell 0
  have g1 := B3.cell 1
  have g2 := B3.cell 2
  simp at g0 g1 g2
  clear B3 hb3 HN2
  go_wp2_with fail
  refine (toCluster_any c _ _ _ _ (HC.out.below hC3)).mono ?_
  rintro e w4 ⟨b0, b1, b2, rfl, hN4, hb4⟩
  have hC4 := below_of hC3 hb4
  have HB4 := Lib.hid (HB3.out.below hb4 HB3.out.lt)
  have HN4 := Lib.hid hN4.clu
  clear hN4 hb4 g0 g1 g2
  go_wp2_with fail
  have hX4 : Below w4.heap.size w4 (w4.alloc (.cells #[.slice (some ⟨b0, 0, none⟩) c.tasks.length c.tasks.length, .slice (some ⟨b1, 0, none⟩) c.nodes.length c.nodes.length, .slice (some ⟨b2, 0, none⟩) c.binds.length c.binds.length] 35)) := (by repeat' (first | exact Below.refl _ _ | refine Below.alloc ?_ ?_ _ | refine Below.setCell ?_ ?_ _ | refine Below.drew ?_ | (apply below_step; assumption) | (simp; done) | (simp; omega) | omega))
  have hCX4 := below_of hC4 hX4
  refine (IO.out _ _ _ _ (HG.out.below hCX4 (Nat.le_refl _)) (HY.out.below hCX4 (Nat.le_refl _)) (HN4.out.below hX4)).mono ?_
  rintro e w5 ⟨rfl, hb5⟩
  have hD5 := below_of hX4 hb5
  have hC5 := below_of hC4 hD5
  have B5 := HB4.out.below hD5 HB4.out.lt
  have X5 := (BlockIs.new w4 35 #[.slice (some ⟨b0, 0, none⟩) c.tasks.length c.tasks.length, .slice (some ⟨b1, 0, none⟩) c.nodes.length c.nodes.length, .slice (some ⟨b2, 0, none⟩) c.binds.length c.binds.length]).below hb5 (by simp)
  have HN5 := Lib.hid (HN4.out.below hD5)
  have HK := Lib.hid (show ∀ w', Below w5.heap.size w5 w' → Below w5.heap.size w5 w' ∧ (∀ o, w'.cell? ⟨w.heap.size, o, none⟩ = (#[.slice D0 c.tasks.length e0, .slice D1 c.nodes.length e1, .slice D2 c.binds.length e2] : Array Value)[o]?) ∧ (∀ o, w'.cell? ⟨w4.heap.size, o, none⟩ = (#[.slice (some ⟨b0, 0, none⟩) c.tasks.length c.tasks.length, .slice (some ⟨b1, 0, none⟩) c.nodes.length c.nodes.length, .slice (some ⟨b2, 0, none⟩) c.binds.length c.binds.length] : Array Value)[o]?) from
    fun w' hb => ⟨hb, (B5.below hb B5.lt).cell, (X5.below hb X5.lt).cell⟩)
  clear B5 X5 hb5 HB4 HN4 hX4 hCX4
  go_wp2_with fail
  refine wp_region_held_drew (S := (fun w' => Below w5.heap.size w5 w' ∧ (∀ o, w'.cell? ⟨w.heap.size, o, none⟩ = (#[.slice D0 c.tasks.length e0, .slice D1 c.nodes.length e1, .slice D2 c.binds.length e2] : Array Value)[o]?) ∧ (∀ o, w'.cell? ⟨w4.heap.size, o, none⟩ = (#[.slice (some ⟨b0, 0, none⟩) c.tasks.length c.tasks.length, .slice (some ⟨b1, 0, none⟩) c.nodes.length c.nodes.length, .slice (some ⟨b2, 0, none⟩) c.binds.length c.binds.length] : Array Value)[o]?))) (by kernel_rfl) (by (try dsimp only); exact HK.out _ (by repeat' (first | exact Below.refl _ _ | refine Below.alloc ?_ ?_ _ | refine Below.setCell ?_ ?_ _ | refine Below.drew ?_ | (apply below_step; assumption) | (simp; done) | (simp; omega) | omega))) (fun hHeld => ?_)
  refine hT 0 ?_; simp only [Act.put, rhA, rhS, rhT]
  refine hT 1 ?_; simp only [Act.put, rhA, rhS, rhT]
  refine hCall (i := 2) (o := ?a5) ?b5 (by kernel_rfl) ?c5 (fun K hK => ?d5)
  case b5 => simp only [rhN, rhM]; try rfl
  case c5 => rfl
  go_simp
  refine (toCluster_any c _ _ _ _ (HC.out.below (below_of hC5 (by repeat' (first | exact Below.refl _ _ | refine Below.alloc ?_ ?_ _ | refine Below.setCell ?_ ?_ _ | refine Below.drew ?_ | (apply below_step; assumption) | (simp; done) | (simp; omega) | omega))))).mono ?_
  rintro e w6 ⟨d0, d1, d2, rfl, hN6, hb6⟩
  have hz6 := hb6.size
  (try simp at hz6)
  go_wp2_with fail
  refine hK.out _ _ (by (try dsimp only); exact HK.out _ (by repeat' (first | exact Below.refl _ _ | refine Below.alloc ?_ ?_ _ | refine Below.setCell ?_ ?_ _ | refine Below.drew ?_ | (apply below_step; assumption) | (simp; done) | (simp; omega) | omega))) (fun hHeld => ?_)
  clear hK K
  try simp only [Act.put, rhA, rhS, rhT]
  refine hCall (i := 3) (o := ?a6) ?b6 (by kernel_rfl) ?c6 (fun K hK => ?d6)
  case b6 => simp only [rhN, rhM]; try rfl
  case c6 => rfl
  go_simp
  refine (eqCluster_same c _ _ _ _ _ _ _ (HN5.out.below (by repeat' (first | exact Below.refl _ _ | refine Below.alloc ?_ ?_ _ | refine Below.setCell ?_ ?_ _ | refine Below.drew ?_ | (apply below_step; assumption) | (simp; done) | (simp; omega) | omega))) hN6.clu).mono ?_
  rintro e w7 ⟨rfl, hb7⟩
  have hz7 := hb7.size
  (try simp at hz7)
  go_wp2_with fail
  refine hK.out _ _ (by (try dsimp only); exact HK.out _ (by repeat' (first | exact Below.refl _ _ | refine Below.alloc ?_ ?_ _ | refine Below.setCell ?_ ?_ _ | refine Below.drew ?_ | (apply below_step; assumption) | (simp; done) | (simp; omega) | omega))) (fun hHeld => ?_)
  clear hK K
  try simp only [Act.put, rhA, rhS, rhT]
  refine hT 4 ?_; simp only [Act.put, rhA, rhS, rhT]
  refine wpAnyH_done (by kernel_rfl) ?_ _
  go_wp2_with fail
  go_ret
  exact ⟨rfl, below_of hC5 (by repeat' (first | exact Below.refl _ _ | refine Below.alloc ?_ ?_ _ | refine Below.setCell ?_ ?_ _ | refine Below.drew ?_ | (apply below_step; assumption) | (simp; done) | (simp; omega) | omega))⟩

theorem rowVars : ∀ n ∈ Rows.fnExactPickSpec.vars, ∃ g t ms, Tryz.prog.globalNamed n = some g ∧ (Tryz.prog.globals[g]?).map (·.type) = some t ∧ Tryz.prog.underlying t = some (.interface ms) := capVars
set_option maxRecDepth 100000 in
theorem contract (H : Type) (enc : TypeId × Value → H) (W : World) (base : Nat) (args : Array Value) (ds gs : List (DataW H)) (before : List MemPlace)
    (hval : ∀ (j : Nat) t v, Tryz.f11.params[j]? = some t → args[j]? = some v → Value.okWide Tryz.prog W .any base t v)
    (hW : DataW.Whole enc Tryz.prog Tryz.f11.params.toList Rows.fnExactPickSpec.vars false W args.toList ds gs before) (hL : laidMetH Tryz.prog Rows.fnExactPickRow.laid W) :
    Calls Tryz.prog 11 args W fun e W' => ∃ v, e = .returned v ∧ Rows.fnExactPickSpec.post enc Tryz.prog Tryz.f11 false true false false W args v W' := by
  have hW' := hW
  obtain ⟨p, q, hA0, hV, rfl, hfz, hnd⟩ := hW
  have hA : DataW.TrodAll enc Tryz.prog W 0 (fun _ => true) true Tryz.f11.params.toList args.toList ds p := hA0
  rw [Tryz.params11] at hA hval
  obtain ⟨v0, vs0, d0, ds0, p0, q0, hargs, rfl, rfl, h0, r0⟩ := trodAll_cons hA
  obtain ⟨v1, vs1, d1, ds1, p1, q1, rfl, rfl, rfl, h1, r1⟩ := trodAll_cons r0
  obtain ⟨rfl, rfl, rfl⟩ := trodAll_nil r1
  obtain rfl : args = #[v0, v1] := by cases args; simp_all
  rw [MakeChecks.laidMetH_plain _ _ _ (by kernel_rfl)] at hL
  obtain ⟨a0, x0, y0, z0, rfl, q0⟩ := open_cluster (hval 0 _ v0 rfl rfl) h0
  obtain ⟨a1, rfl, rfl, rfl, wn1⟩ := open_int Tryz.underlying3 (hval 1 _ v1 rfl rfl) h1
  obtain ⟨gg0, gg1, rfl⟩ : ∃ g0 g1, gs = [g0, g1] := by
    match gs, hV with
    | [g0, g1], _ => exact ⟨g0, g1, rfl⟩
  obtain ⟨x, hg⟩ := errAt_of_laid hL
  obtain ⟨y, hy⟩ := capAt_of_laid hL.tail
  have fin := walk a0 x0 y0 z0 a1 W x y hg hy q0
  refine fin.mono fun e W' ⟨he, hb⟩ => ?_
  subst he
  exact ⟨_, rfl, law_post Tryz.laidOut (by rw [Tryz.params11]; intro t ht; have k0 : Tryz.prog.readableRec 26 = true ∧ 26 < Tryz.prog.types.size := ⟨by kernel_rfl, of_decide_eq_true (by kernel_rfl)⟩; have k1 : Tryz.prog.readableRec 3 = true ∧ 3 < Tryz.prog.types.size := ⟨by kernel_rfl, of_decide_eq_true (by kernel_rfl)⟩; simp at ht; rcases ht with rfl | rfl; all_goals (first | with_reducible exact k0 | with_reducible exact k1)) rowVars (tb := 4) rfl Tryz.underlying4 hW' rfl hb⟩

theorem door_met (os : Os) (args : Array Value) : laidMet Tryz.prog Rows.fnExactPickRow.laid ((World.doorLaid Tryz.prog 400 os).forCall (fun _ _ => 0) ⟨#[], args, []⟩).memory :=
  laidMet_of_run' 8 (by kernel_rfl) (by kernel_rfl)
set_option maxRecDepth 100000 in
theorem lifted (os : Os) (started : os.Started) (H : Type) (enc : TypeId × Value → H) (F : Stop.Interp) :
    ReturnsInHanded {} Tryz.checked os 11 .any ((OpenSpec.ofChange Rows.fnExactPickSpec).preRow enc Tryz.prog Tryz.f11 Rows.fnExactPickRow.domain false Rows.fnExactPickRow.laid) (((OpenSpec.ofChange Rows.fnExactPickSpec).at F).post enc Tryz.prog Tryz.f11 false true false false) := by
  refine returnsInHanded_of_row (C := Tryz.checked) (s := OpenSpec.ofChange Rows.fnExactPickSpec) Tryz.own started (by kernel_rfl) Tryz.func11
    (witness_row_atRef (enc := enc) (C := Tryz.checked) false (World.doorLaid Tryz.prog 400 os) #[.agg #[.slice none 0 0, .slice none 0 0, .slice none 0 0], .int .i64 0] rfl (by kernel_rfl) (by kernel_rfl) (by kernel_rfl)
      (OpenSpec.preRow_of_B rfl 8 (by kernel_rfl) (by kernel_rfl) (door_met os _))) ?_
  intro W base args ds gs before hval hW _ _ _ hL _ _
  exact contract H enc W base args ds gs before hval hW hL

theorem jIn : (Rows.fnExactPickRow.inPlace == Tryz.prog.inPlace 11) = true := by kernel_rfl
theorem jUn : (Rows.fnExactPickRow.unfollowed == Tryz.prog.unfollowed 11) = true := by kernel_rfl
theorem jRe : (Rows.fnExactPickRow.recurses == Tryz.prog.recurses 11) = true := by kernel_rfl
theorem jNa : (Rows.fnExactPickRow.named == Tryz.prog.varsNamed 11) = true := by kernel_rfl
theorem joined : joinedFacts Tryz.prog 11 Tryz.f11 (OpenSpec.ofChange Rows.fnExactPickSpec).bare Rows.fnExactPickRow = true :=
  joined_mk (by kernel_rfl) Tryz.laidOut pRowed (by kernel_rfl) (by kernel_rfl) rfl pStops rfl pKnobs jIn jUn jRe jNa (by kernel_rfl) (by kernel_rfl) (by kernel_rfl) (by kernel_rfl) (by kernel_rfl) (by kernel_rfl) (by kernel_rfl) (by kernel_rfl) (by kernel_rfl) pKeys (by kernel_rfl) pHeard pEnter pLifts pMake (by kernel_rfl) (by kernel_rfl) (by kernel_rfl) (by kernel_rfl)
theorem said : Rows.FnExactPickSaid :=
  OpenClaim.holds_of_cond 11 Tryz.f11 rfl rfl rfl rfl rfl rfl rfl ⟨rfl, rfl, rfl, rfl, rfl⟩ rfl rfl rfl rfl rfl (by kernel_rfl) Tryz.func11 joined
    (of_decide_eq_true (by kernel_rfl)) (by unfold Func.isWrapper; first | (rw [if_pos (by decide +kernel)]; kernel_rfl) | (rw [if_neg (by decide +kernel)]; exact ⟨rfl, rfl⟩))
    (fun os started H enc _ F => by rw [OpenClaim.pre_eq_preRow]; exact lifted os started H enc F)

theorem plain (f : FuncId) (fn : Func) (hf : Tryz.pinned.checked.prog.funcNamed "loop.example/g00718/laws.FnExactPick" = some f) (hfn : Tryz.pinned.checked.prog.funcs[f]? = some fn) :
    true = Tryz.pinned.checked.prog.looks [] ∧ ∀ (j : Nat) t, fn.params[j]? = some t → Tryz.pinned.checked.prog.wantsStandIn t = false := by
  obtain rfl : f = 11 := Option.some.inj ((show Tryz.prog.funcNamed "loop.example/g00718/laws.FnExactPick" = some 11 by kernel_rfl).symm.trans hf) |>.symm
  obtain rfl : fn = Tryz.f11 := (Option.some.inj (Tryz.func11.symm.trans hfn)).symm
  refine ⟨by kernel_rfl, fun j t ht => ?_⟩
  rw [Tryz.params11] at ht
  have hm := Array.mem_of_getElem? ht
  have k0 : Tryz.pinned.checked.prog.wantsStandIn 26 = false := (show Tryz.prog.wantsStandIn 26 = false by kernel_rfl)
  have k1 : Tryz.pinned.checked.prog.wantsStandIn 3 = false := (show Tryz.prog.wantsStandIn 3 = false by kernel_rfl)
  simp at hm
  rcases hm with rfl | rfl
  all_goals (first | with_reducible exact k0 | with_reducible exact k1)

theorem card : Rows.FnExactPickCardSaid :=
  Claim7.holds_tied_plain_at .later [] _ _ _ _ said (fun _ h => by cases h) (by kernel_rfl) (fun _ h => by cases h) fnExactPick_row_tie rfl ⟨rfl, rfl⟩ (by kernel_rfl) rfl plain (by kernel_rfl)
end Go.Proofs.YtmkpajjnjgnmkaaGreatDoor.fnExactPick
