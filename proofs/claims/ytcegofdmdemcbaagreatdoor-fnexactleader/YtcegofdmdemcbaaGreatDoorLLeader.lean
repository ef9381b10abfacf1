/- FnExactLeader answers true at every world: Leader and its model agree, and the world is left as it was. Tied to impl.errRange's text. (mklworld.py) -/
import Derived.Test.YtcegofdmdemcbaaGreatDoorMg01
import Derived.Test.YtcegofdmdemcbaaGreatDoorMg05
import Derived.Test.YtcegofdmdemcbaaGreatDoorMg10
import Derived.Test.YtcegofdmdemcbaaGreatDoorMg08
namespace Go.Proofs.YtcegofdmdemcbaaGreatDoor.fnExactLeader
open Go.ChangeShapes Go.WideShapes Go.ChangeAt Go.RowKit Go.Joins

set_option maxHeartbeats 6400000 in
set_option maxRecDepth 20000 in
theorem walk (t : WV) (s : WS) (w : World) (x : Addr) (hg : ErrAt x w) (hq : WldQ w t s) :
    Calls Tryz.prog 5 #[.agg #[.int .i64 t.now, .int .i64 t.span, .int .i64 t.kind, .int .i64 t.limit, .int .i64 t.next, .int .i64 t.lease.c, .int .i64 t.lease.m, .int .i64 t.lease.p, s.ep, s.po, s.ta, s.no, s.bi, s.wa, s.en, .int .i64 t.seen, s.ins, s.ms]] w fun e w' => e = .returned (.bool true) ∧ Below w.heap.size w w' := by
  have HQ := Lib.hid hq
  have HG := Lib.hid hg
  obtain ⟨A0, A1, A2, A3, A4, A5, A6, A7, A8, c0, c1, c2, c3, c4, c5, c6, c7, c8, rfl⟩ := hq.form
  have so := fun s w h => sLeader_any t s w h
  have io := fun s w hg h => Leader_any t s w x hg h
  generalize leaderG t = ans at so io
  have hne : (ans != ans) = false := by simp
  have SO := Lib.hid so
  have IO := Lib.hid io
  clear so io hq hg
  go_enter Tryz.func5, Tryz.ntmps5
  have HB := Lib.hid (BlockIs.new w 60 #[.int .i64 t.now, .int .i64 t.span, .int .i64 t.kind, .int .i64 t.limit, .int .i64 t.next, .int .i64 t.lease.c, .int .i64 t.lease.m, .int .i64 t.lease.p, .slice A0 t.epochs.length c0, .slice A1 t.pools.length c1, .slice A2 t.clu.tasks.length c2, .slice A3 t.clu.nodes.length c3, .slice A4 t.clu.binds.length c4, .slice A5 t.wants.length c5, .slice A6 t.ends.length c6, .int .i64 t.seen, .slice A7 t.insts.length c7, .slice A8 t.msgs.length c8])
  have hX : Below w.heap.size w (w.alloc (.cells #[.int .i64 t.now, .int .i64 t.span, .int .i64 t.kind, .int .i64 t.limit, .int .i64 t.next, .int .i64 t.lease.c, .int .i64 t.lease.m, .int .i64 t.lease.p, .slice A0 t.epochs.length c0, .slice A1 t.pools.length c1, .slice A2 t.clu.tasks.length c2, .slice A3 t.clu.nodes.length c3, .slice A4 t.clu.binds.length c4, .slice A5 t.wants.length c5, .slice A6 t.ends.length c6, .int .i64 t.seen, .slice A7 t.insts.length c7, .slice A8 t.msgs.length c8] 60)) := (by repeat' (first | exact Below.refl _ _ | refine Below.alloc ?_ ?_ _ | refine Below.setCell ?_ ?_ _ | refine Below.drew ?_ | (apply below_step; assumption) | (simp; done) | (simp; omega) | omega))
  go_wp2_with (refine wpList_load_row rfl 60 _ rfl _ rfl 60 _ (0, 0) _ HB.out Tryz.underlying60 rfl (by kernel_rfl) ?_)
  refine (szWorld_any t _ 1048576 _ (HQ.out.below hX) (by omega) (by omega)).mono ?_
  rintro e w1 ⟨⟨y, rfl, hy⟩, hb1⟩
  have hC1 := below_of hX hb1
  have HB := Lib.hid (HB.out.below hb1 HB.out.lt)
  clear hX hb1
  rcases hy with rfl | ⟨y0, y1, hs⟩
  · go_wp2_with fail
    go_ret
    exact ⟨rfl, hC1⟩
  have HC := Lib.hid (HQ.out.wld hs)
  have hyl : decide (y < 0) = false := decide_eq_false (by omega)
  clear hs HQ
  go_wp2_with (refine wpList_load_row rfl 60 _ rfl _ rfl 60 _ (0, 0) _ HB.out Tryz.underlying60 rfl (by kernel_rfl) ?_)
  refine (toWorld_o t _ _ (HC.out.below hC1)).mono ?_
  rintro e w2 ⟨s2, x1, x2, x3, x6, rfl, hO2, -, -, hb2⟩
  have hC2 := below_of hC1 hb2
  have HB := Lib.hid (HB.out.below hb2 HB.out.lt)
  have HS2 := Lib.hid hO2.wld
  clear hO2 hb2 hC1
  go_wp2_with fail
  refine (SO.out _ _ HS2.out).mono ?_
  rintro e w3 ⟨rfl, hb3⟩
  have hC3 := below_of hC2 hb3
  have HB := Lib.hid (HB.out.below hb3 HB.out.lt)
  clear hb3 hC2 HS2
  go_wp2_with (refine wpList_load_row rfl 60 _ rfl _ rfl 60 _ (0, 0) _ HB.out Tryz.underlying60 rfl (by kernel_rfl) ?_)
  refine (toWorld_o t _ _ (HC.out.below hC3)).mono ?_
  rintro e w4 ⟨s4, x1, x2, x3, x6, rfl, hO4, -, -, hb4⟩
  have hC4 := below_of hC3 hb4
  have HB := Lib.hid (HB.out.below hb4 HB.out.lt)
  have hS4 := hO4.wld
  obtain ⟨E0, E1, E2, E3, E4, E5, E6, E7, E8, e0, e1, e2, e3, e4, e5, e6, e7, e8, rfl⟩ := hS4.form
  have HS4 := Lib.hid hS4
  have HZ := Lib.hid (BlockIs.new w4 39 #[.int .i64 0, .int .i64 0, .int .i64 0, .int .i64 0, .int .i64 0, .int .i64 0, .int .i64 0, .int .i64 0, .slice none 0 0, .slice none 0 0, .slice none 0 0, .slice none 0 0, .slice none 0 0, .slice none 0 0, .slice none 0 0, .int .i64 0, .slice none 0 0, .slice none 0 0])
  have HXB := Lib.hid (HZ.out.row (cs := #[.int .i64 t.now, .int .i64 t.span, .int .i64 t.kind, .int .i64 t.limit, .int .i64 t.next, .int .i64 t.lease.c, .int .i64 t.lease.m, .int .i64 t.lease.p, .slice E0 t.epochs.length e0, .slice E1 t.pools.length e1, .slice E2 t.clu.tasks.length e2, .slice E3 t.clu.nodes.length e3, .slice E4 t.clu.binds.length e4, .slice E5 t.wants.length e5, .slice E6 t.ends.length e6, .int .i64 t.seen, .slice E7 t.insts.length e7, .slice E8 t.msgs.length e8]))
  have hX4 : Below w4.heap.size w4 ((w4.alloc (.cells #[.int .i64 0, .int .i64 0, .int .i64 0, .int .i64 0, .int .i64 0, .int .i64 0, .int .i64 0, .int .i64 0, .slice none 0 0, .slice none 0 0, .slice none 0 0, .slice none 0 0, .slice none 0 0, .slice none 0 0, .slice none 0 0, .int .i64 0, .slice none 0 0, .slice none 0 0] 39)).setRow w4.heap.size #[.int .i64 t.now, .int .i64 t.span, .int .i64 t.kind, .int .i64 t.limit, .int .i64 t.next, .int .i64 t.lease.c, .int .i64 t.lease.m, .int .i64 t.lease.p, .slice E0 t.epochs.length e0, .slice E1 t.pools.length e1, .slice E2 t.clu.tasks.length e2, .slice E3 t.clu.nodes.length e3, .slice E4 t.clu.binds.length e4, .slice E5 t.wants.length e5, .slice E6 t.ends.length e6, .int .i64 t.seen, .slice E7 t.insts.length e7, .slice E8 t.msgs.length e8]) := below_setRow (by exact (by repeat' (first | exact Below.refl _ _ | refine Below.alloc ?_ ?_ _ | refine Below.setCell ?_ ?_ _ | refine Below.drew ?_ | (apply below_step; assumption) | (simp; done) | (simp; omega) | omega))) (Nat.le_refl _) _
  clear hO4 hb4 hC3 hS4
  go_wp2_with (first
    | (refine wpList_store_row rfl 39 _ _ rfl _ _ rfl rfl 39 _ HZ.out (by kernel_rfl) rfl (by simp [Value.oneCell']) ?_)
    | (refine wpList_load_row rfl 39 _ rfl _ rfl 39 _ (0, 0) _ HXB.out Tryz.underlying39 rfl (by kernel_rfl) ?_)
    | (refine wpList_load_row rfl 60 _ rfl _ rfl 60 _ (0, 0) _ HB.out Tryz.underlying60 rfl (by kernel_rfl) ?_))
  have hCX4 := below_of hC4 hX4
  refine (IO.out _ _ (HG.out.below hCX4 (Nat.le_refl _)) (HS4.out.below hX4)).mono ?_
  rintro e w5 ⟨rfl, hb5⟩
  have hD5 := below_of hX4 hb5
  have hC5 := below_of hC4 hD5
  have B5 := HB.out.below hD5 HB.out.lt
  have X5 := HXB.out.below hb5 HXB.out.lt
  have HS5 := Lib.hid (HS4.out.below hD5)
  have HK := Lib.hid (show ∀ w', Below w5.heap.size w5 w' → (fun w' => Below w5.heap.size w5 w' ∧ BlockIs w' w.heap.size 60 #[.int .i64 t.now, .int .i64 t.span, .int .i64 t.kind, .int .i64 t.limit, .int .i64 t.next, .int .i64 t.lease.c, .int .i64 t.lease.m, .int .i64 t.lease.p, .slice A0 t.epochs.length c0, .slice A1 t.pools.length c1, .slice A2 t.clu.tasks.length c2, .slice A3 t.clu.nodes.length c3, .slice A4 t.clu.binds.length c4, .slice A5 t.wants.length c5, .slice A6 t.ends.length c6, .int .i64 t.seen, .slice A7 t.insts.length c7, .slice A8 t.msgs.length c8] ∧ BlockIs w' w4.heap.size 39 #[.int .i64 t.now, .int .i64 t.span, .int .i64 t.kind, .int .i64 t.limit, .int .i64 t.next, .int .i64 t.lease.c, .int .i64 t.lease.m, .int .i64 t.lease.p, .slice E0 t.epochs.length e0, .slice E1 t.pools.length e1, .slice E2 t.clu.tasks.length e2, .slice E3 t.clu.nodes.length e3, .slice E4 t.clu.binds.length e4, .slice E5 t.wants.length e5, .slice E6 t.ends.length e6, .int .i64 t.seen, .slice E7 t.insts.length e7, .slice E8 t.msgs.length e8]) w' from fun w' hb => ⟨hb, B5.below hb B5.lt, X5.below hb X5.lt⟩)
  clear B5 X5 hb5 HB HZ HXB HS4 hX4 hCX4 hC4
  go_wp2_with fail
  refine wp_region_held_drew (S := (fun w' => Below w5.heap.size w5 w' ∧ BlockIs w' w.heap.size 60 #[.int .i64 t.now, .int .i64 t.span, .int .i64 t.kind, .int .i64 t.limit, .int .i64 t.next, .int .i64 t.lease.c, .int .i64 t.lease.m, .int .i64 t.lease.p, .slice A0 t.epochs.length c0, .slice A1 t.pools.length c1, .slice A2 t.clu.tasks.length c2, .slice A3 t.clu.nodes.length c3, .slice A4 t.clu.binds.length c4, .slice A5 t.wants.length c5, .slice A6 t.ends.length c6, .int .i64 t.seen, .slice A7 t.insts.length c7, .slice A8 t.msgs.length c8] ∧ BlockIs w' w4.heap.size 39 #[.int .i64 t.now, .int .i64 t.span, .int .i64 t.kind, .int .i64 t.limit, .int .i64 t.next, .int .i64 t.lease.c, .int .i64 t.lease.m, .int .i64 t.lease.p, .slice E0 t.epochs.length e0, .slice E1 t.pools.length e1, .slice E2 t.clu.tasks.length e2, .slice E3 t.clu.nodes.length e3, .slice E4 t.clu.binds.length e4, .slice E5 t.wants.length e5, .slice E6 t.ends.length e6, .int .i64 t.seen, .slice E7 t.insts.length e7, .slice E8 t.msgs.length e8])) (by kernel_rfl) (by (try dsimp only); exact HK.out _ (by repeat' (first | exact Below.refl _ _ | refine Below.alloc ?_ ?_ _ | refine Below.setCell ?_ ?_ _ | refine Below.drew ?_ | (apply below_step; assumption) | (simp; done) | (simp; omega) | omega))) (fun hHeld => ?_)
  refine hTake (i := 0) (oi := ?a2) (v := ?f2) (d := ?g2) ?b2 ?c2 (by kernel_rfl) ?d2 ?e2 ?h2 (by assumption) ?_; (case b2 => simp only [rhN]; try rfl); (case c2 => (try dsimp only); rfl); (case e2 => rfl); (case d2 => exact fun _ _ _ h => h); (case h2 => intro wq hSw; refine (run_load_rowE 39 (.tmp 5) ?_ _ ?_ 39 _ (0, 0) _ hSw.2.2 Tryz.underlying39 rfl (by kernel_rfl)).trans ?_ <;> rfl); simp only [Act.put, rhA, rhS, rhT]
  refine hTake (i := 1) (oi := ?a4) (v := ?f4) (d := ?g4) ?b4 ?c4 (by kernel_rfl) ?d4 ?e4 ?h4 (by assumption) ?_; (case b4 => simp only [rhN, rhM]; try rfl); (case c4 => (try dsimp only); rfl); (case e4 => rfl); (case d4 => exact fun _ _ _ h => h); (case h4 => intro wq hSw; refine (run_load_rowE 60 (.tmp 1) ?_ _ ?_ 60 _ (0, 0) _ hSw.2.1 Tryz.underlying60 rfl (by kernel_rfl)).trans ?_ <;> rfl); simp only [Act.put, rhA, rhS, rhT]
  refine hCall (i := 2) (o := ?a5) ?b5 (by kernel_rfl) ?c5 (fun K hK => ?d5)
  case b5 => simp only [rhN, rhM]; try rfl
  case c5 => rfl
  go_simp
  refine (toWorld_o t _ _ (HC.out.below (below_of hC5 (by repeat' (first | exact Below.refl _ _ | refine Below.alloc ?_ ?_ _ | refine Below.setCell ?_ ?_ _ | refine Below.drew ?_ | (apply below_step; assumption) | (simp; done) | (simp; omega) | omega))))).mono ?_
  rintro e w6 ⟨s6, x1, x2, x3, x6, rfl, hO6, -, -, hb6⟩
  have HS6 := Lib.hid hO6.wld
  have hz6 := hb6.size
  (try simp at hz6)
  clear hO6
  go_wp2_with fail
  refine hK.out _ _ (by (try dsimp only); exact HK.out _ (by repeat' (first | exact Below.refl _ _ | refine Below.alloc ?_ ?_ _ | refine Below.setCell ?_ ?_ _ | refine Below.drew ?_ | (apply below_step; assumption) | (simp; done) | (simp; omega) | omega))) (fun hHeld => ?_)
  clear hK K
  try simp only [Act.put, rhA, rhS, rhT]
  refine hCall (i := 3) (o := ?a6) ?b6 (by kernel_rfl) ?c6 (fun K hK => ?d6)
  case b6 => simp only [rhN, rhM]; try rfl
  case c6 => rfl
  go_simp
  refine (eqWorld_same t _ _ _ (HS5.out.below (by repeat' (first | exact Below.refl _ _ | refine Below.alloc ?_ ?_ _ | refine Below.setCell ?_ ?_ _ | refine Below.drew ?_ | (apply below_step; assumption) | (simp; done) | (simp; omega) | omega))) HS6.out).mono ?_
  rintro e w7 ⟨rfl, hb7⟩
  have hz7 := hb7.size
  (try simp at hz7)
  go_wp2_with fail
  refine hK.out _ _ (by (try dsimp only); exact HK.out _ (by repeat' (first | exact Below.refl _ _ | refine Below.alloc ?_ ?_ _ | refine Below.setCell ?_ ?_ _ | refine Below.drew ?_ | (apply below_step; assumption) | (simp; done) | (simp; omega) | omega))) (fun hHeld => ?_)
  clear hK K
  try simp only [Act.put, rhA, rhS, rhT]
  refine hT 4 ?_; simp only [Act.put, rhA, rhS, rhT]
  refine wpAnyH_done (by kernel_rfl) ?_ _
  go_wp2_with fail
  go_ret
  exact ⟨rfl, below_of hC5 (by repeat' (first | exact Below.refl _ _ | refine Below.alloc ?_ ?_ _ | refine Below.setCell ?_ ?_ _ | refine Below.drew ?_ | (apply below_step; assumption) | (simp; done) | (simp; omega) | omega))⟩

theorem rowVars : ∀ n ∈ Rows.fnExactLeaderSpec.vars, ∃ g t ms, Tryz.prog.globalNamed n = some g ∧ (Tryz.prog.globals[g]?).map (·.type) = some t ∧ Tryz.prog.underlying t = some (.interface ms) := errVars
set_option maxRecDepth 100000 in
theorem contract (H : Type) (enc : TypeId × Value → H) (W : World) (base : Nat) (args : Array Value) (ds gs : List (DataW H)) (before : List MemPlace)
    (hval : ∀ (j : Nat) t v, Tryz.f5.params[j]? = some t → args[j]? = some v → Value.okWide Tryz.prog W .any base t v)
    (hW : DataW.Whole enc Tryz.prog Tryz.f5.params.toList Rows.fnExactLeaderSpec.vars false W args.toList ds gs before) (hL : laidMetH Tryz.prog Rows.fnExactLeaderRow.laid W) :
    Calls Tryz.prog 5 args W fun e W' => ∃ v, e = .returned v ∧ Rows.fnExactLeaderSpec.post enc Tryz.prog Tryz.f5 false true false false W args v W' := by
  have hW' := hW
  obtain ⟨p, q, hA0, hV, rfl, hfz, hnd⟩ := hW
  have hA : DataW.TrodAll enc Tryz.prog W 0 (fun _ => true) true Tryz.f5.params.toList args.toList ds p := hA0
  rw [Tryz.params5] at hA hval
  obtain ⟨v0, vs0, d0, ds0, p0, q0, hargs, rfl, rfl, h0, r0⟩ := trodAll_cons hA
  obtain ⟨rfl, rfl, rfl⟩ := trodAll_nil r0
  obtain rfl : args = #[v0] := by cases args; simp_all
  rw [MakeChecks.laidMetH_plain _ _ _ (by kernel_rfl)] at hL
  obtain ⟨a0, x0, rfl, q0⟩ := open_world (hval 0 _ v0 rfl rfl) h0
  obtain ⟨gg, tt, cs, fuel, d, pp, rfl, _⟩ := trodVars_one hV
  obtain ⟨x, hg⟩ := errAt_of_laid hL
  have fin := walk a0 x0 W x hg q0
  refine fin.mono fun e W' ⟨he, hb⟩ => ?_
  subst he
  exact ⟨_, rfl, law_post Tryz.laidOut (by rw [Tryz.params5]; intro t ht; have k0 : Tryz.prog.readableRec 60 = true ∧ 60 < Tryz.prog.types.size := ⟨by kernel_rfl, of_decide_eq_true (by kernel_rfl)⟩; simp at ht; subst ht; exact k0) rowVars (tb := 4) rfl Tryz.underlying4 hW' rfl hb⟩

theorem door_met (os : Os) (args : Array Value) : laidMet Tryz.prog Rows.fnExactLeaderRow.laid ((World.doorLaid Tryz.prog 400 os).forCall (fun _ _ => 0) ⟨#[], args, []⟩).memory :=
  laidMet_of_run' 8 (by kernel_rfl) (by kernel_rfl)
set_option maxRecDepth 100000 in
theorem lifted (os : Os) (started : os.Started) (H : Type) (enc : TypeId × Value → H) (F : Stop.Interp) :
    ReturnsInHanded {} Tryz.checked os 5 .any ((OpenSpec.ofChange Rows.fnExactLeaderSpec).preRow enc Tryz.prog Tryz.f5 Rows.fnExactLeaderRow.domain false Rows.fnExactLeaderRow.laid) (((OpenSpec.ofChange Rows.fnExactLeaderSpec).at F).post enc Tryz.prog Tryz.f5 false true false false) := by
  refine returnsInHanded_of_row (C := Tryz.checked) (s := OpenSpec.ofChange Rows.fnExactLeaderSpec) Tryz.own started (by kernel_rfl) Tryz.func5
    (witness_row_atRef (enc := enc) (C := Tryz.checked) false (World.doorLaid Tryz.prog 400 os) #[.agg #[.int .i64 0, .int .i64 0, .int .i64 0, .int .i64 0, .int .i64 0, .int .i64 0, .int .i64 0, .int .i64 0, .slice none 0 0, .slice none 0 0, .slice none 0 0, .slice none 0 0, .slice none 0 0, .slice none 0 0, .slice none 0 0, .int .i64 0, .slice none 0 0, .slice none 0 0]] rfl (by kernel_rfl) (by kernel_rfl) (by kernel_rfl)
      (OpenSpec.preRow_of_B rfl 8 (by kernel_rfl) (by kernel_rfl) (door_met os _))) ?_
  intro W base args ds gs before hval hW _ _ _ hL _ _
  exact contract H enc W base args ds gs before hval hW hL

theorem jIn : (Rows.fnExactLeaderRow.inPlace == Tryz.prog.inPlace 5) = true := by kernel_rfl
theorem jUn : (Rows.fnExactLeaderRow.unfollowed == Tryz.prog.unfollowed 5) = true := by kernel_rfl
theorem jRe : (Rows.fnExactLeaderRow.recurses == Tryz.prog.recurses 5) = true := by kernel_rfl
theorem jNa : (Rows.fnExactLeaderRow.named == Tryz.prog.varsNamed 5) = true := by kernel_rfl
theorem joined : joinedFacts Tryz.prog 5 Tryz.f5 (OpenSpec.ofChange Rows.fnExactLeaderSpec).bare Rows.fnExactLeaderRow = true :=
  joined_mk (by kernel_rfl) Tryz.laidOut pRowed (by kernel_rfl) (by kernel_rfl) rfl pStops rfl pKnobs jIn jUn jRe jNa (by kernel_rfl) (by kernel_rfl) (by kernel_rfl) (by kernel_rfl) (by kernel_rfl) (by kernel_rfl) (by kernel_rfl) (by kernel_rfl) (by kernel_rfl) pKeys (by kernel_rfl) pHeard pEnter pLifts pMake (by kernel_rfl) (by kernel_rfl) (by kernel_rfl) (by kernel_rfl)
theorem said : Rows.FnExactLeaderSaid :=
  OpenClaim.holds_of_cond 5 Tryz.f5 rfl rfl rfl rfl rfl rfl rfl ⟨rfl, rfl, rfl, rfl, rfl⟩ rfl rfl rfl rfl rfl (by kernel_rfl) Tryz.func5 joined
    (of_decide_eq_true (by kernel_rfl)) (by unfold Func.isWrapper; first | (rw [if_pos (by decide +kernel)]; kernel_rfl) | (rw [if_neg (by decide +kernel)]; exact ⟨rfl, rfl⟩))
    (fun os started H enc _ F => by rw [OpenClaim.pre_eq_preRow]; exact lifted os started H enc F)

theorem plain (f : FuncId) (fn : Func) (hf : Tryz.pinned.checked.prog.funcNamed "loop.example/g00718/laws.FnExactLeader" = some f) (hfn : Tryz.pinned.checked.prog.funcs[f]? = some fn) :
    true = Tryz.pinned.checked.prog.looks [] ∧ ∀ (j : Nat) t, fn.params[j]? = some t → Tryz.pinned.checked.prog.wantsStandIn t = false := by
  obtain rfl : f = 5 := Option.some.inj ((show Tryz.prog.funcNamed "loop.example/g00718/laws.FnExactLeader" = some 5 by kernel_rfl).symm.trans hf) |>.symm
  obtain rfl : fn = Tryz.f5 := (Option.some.inj (Tryz.func5.symm.trans hfn)).symm
  refine ⟨by kernel_rfl, fun j t ht => ?_⟩
  rw [Tryz.params5] at ht
  have hm := Array.mem_of_getElem? ht
  have k0 : Tryz.pinned.checked.prog.wantsStandIn 60 = false := (show Tryz.prog.wantsStandIn 60 = false by kernel_rfl)
  simp at hm
  subst hm; exact k0

theorem card : Rows.FnExactLeaderCardSaid :=
  Claim7.holds_tied_plain_at .later [] _ _ _ _ said (fun _ h => by cases h) (by kernel_rfl) (fun _ h => by cases h) fnExactLeader_row_tie rfl ⟨rfl, rfl⟩ (by kernel_rfl) rfl plain (by kernel_rfl)
end Go.Proofs.YtcegofdmdemcbaaGreatDoor.fnExactLeader
