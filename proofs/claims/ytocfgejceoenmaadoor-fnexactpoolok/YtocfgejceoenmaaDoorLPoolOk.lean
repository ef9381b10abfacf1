/- FnExactPoolOk answers true at every pool: PoolOk and its model agree, and the pool is left as it was. Tied to impl.errRange's text. -/
import Derived.Test.YtocfgejceoenmaaDoorTaskRow
import Derived.Test.YtocfgejceoenmaaDoorResRow
import Derived.Test.YtocfgejceoenmaaDoorPoolTo
namespace Go.Proofs.YtocfgejceoenmaaDoor.fnExactPoolOk
open Go.ChangeShapes Go.WideShapes Go.ChangeAt Go.RowKit Go.Joins

set_option maxHeartbeats 1600000 in
theorem walk_long (t : PV) (v1 v2 : Value) (w : World) (h1 : LabSl w v1 t.shape.labs) (h2 : IntSl w v2 t.shape.taints) (m1 : t.shape.labs.length ≤ maxLen) (m2 : t.shape.taints.length ≤ maxLen) (h : 1048576 < t.shape.labs.length + t.shape.taints.length) :
    Calls Tryd.prog 3 #[.agg #[.int .i64 t.id, .int .i64 t.min, .int .i64 t.max, .int .i64 t.prio, .int .i64 t.shape.id, .int .i64 t.shape.pool, .int .i64 t.shape.cap.c, .int .i64 t.shape.cap.m, .int .i64 t.shape.cap.p, v1, v2, .bool t.shape.cordon]] w fun e w' => e = .returned (.bool true) ∧ Below w.heap.size w w' := by
  obtain ⟨A1, c1, rfl, _⟩ := h1.form
  obtain ⟨A2, c2, rfl, _⟩ := h2.form
  have HSZ := Lib.hid (show szTV 1048576 t.shape.labs.length t.shape.taints.length = -1 by
    unfold szTV szLeft
    split
    · rw [if_neg (by omega)]
    · rfl)
  have M := Lib.hid (And.intro m1 m2)
  clear h1 h2 m1 m2 h
  go_enter Tryd.func3, Tryd.ntmps3
  go_wp2_with fail
  refine (szPool_any _ _ _ _ _ _ _ _ _ _ A1 A2 _ c1 _ c2 1048576 _ (by omega) (by omega) M.out.1 M.out.2).mono ?_
  rintro e w1 ⟨rfl, hb1⟩
  rw [HSZ.out]
  have hz1 := hb1.size
  simp at hz1
  go_wp2_with fail
  go_ret
  exact ⟨rfl, (by repeat' (first | exact Below.refl _ _ | refine Below.alloc ?_ ?_ _ | refine Below.setCell ?_ ?_ _ | refine Below.drew ?_ | (apply below_step; assumption) | (simp; done) | (simp; omega) | omega))⟩

set_option maxHeartbeats 1600000 in
theorem walk (t : PV) (v1 v2 : Value) (w : World) (x : Addr) (hg : ErrAt x w) (h1 : LabSl w v1 t.shape.labs) (h2 : IntSl w v2 t.shape.taints) (h : t.shape.labs.length + t.shape.taints.length ≤ 1048576) :
    Calls Tryd.prog 3 #[.agg #[.int .i64 t.id, .int .i64 t.min, .int .i64 t.max, .int .i64 t.prio, .int .i64 t.shape.id, .int .i64 t.shape.pool, .int .i64 t.shape.cap.c, .int .i64 t.shape.cap.m, .int .i64 t.shape.cap.p, v1, v2, .bool t.shape.cordon]] w fun e w' => e = .returned (.bool true) ∧ Below w.heap.size w w' := by
  have H1 := Lib.hid h1
  have H2 := Lib.hid h2
  have L1 := Lib.hid (show t.shape.labs.length ≤ 1048576 by omega)
  have L2 := Lib.hid (show t.shape.taints.length ≤ 1048576 by omega)
  obtain ⟨A1, c1, e1, _⟩ := h1.form
  obtain ⟨A2, c2, e2, _⟩ := h2.form
  have HSZ := Lib.hid (show szTV 1048576 t.shape.labs.length t.shape.taints.length = 1048576 - t.shape.labs.length - t.shape.taints.length by
    unfold szTV szLeft
    rw [if_pos (by omega), if_pos (by omega)])
  have hle : (0 : Int) ≤ 1048576 - t.shape.labs.length - t.shape.taints.length := by omega
  have HG := Lib.hid hg
  have hsz := fun w => szPool_any (.int .i64 t.id) (.int .i64 t.min) (.int .i64 t.max) (.int .i64 t.prio) (.int .i64 t.shape.id) (.int .i64 t.shape.pool) (.int .i64 t.shape.cap.c) (.int .i64 t.shape.cap.m) (.int .i64 t.shape.cap.p) (.bool t.shape.cordon) A1 A2 t.shape.labs.length c1 t.shape.taints.length c2 1048576 w (by omega) (by omega) (by unfold maxLen; omega) (by unfold maxLen; omega)
  rw [← e1, ← e2, HSZ.out] at hsz
  have HS := Lib.hid hsz
  have hso := fun w a b => sPoolOk_any t a b w
  have hio := fun w a b x hg => PoolOk_any t a b w x hg
  generalize t.ok = ok at hso hio
  have hne : (ok != ok) = false := by simp
  have HSO := Lib.hid hso
  have HIO := Lib.hid hio
  generalize (1048576 - (t.shape.labs.length : Int) - t.shape.taints.length) = z at hle HS
  clear h1 h2 h hg e1 e2 hsz hso hio HSZ
  go_enter Tryd.func3, Tryd.ntmps3
  go_wp2_with fail
  refine (HS.out _).mono ?_
  rintro e w1 ⟨rfl, hb1⟩
  have hz1 := hb1.size
  simp at hz1
  have B1 := (BlockIs.new w 29 #[.int .i64 t.id, .int .i64 t.min, .int .i64 t.max, .int .i64 t.prio, .int .i64 t.shape.id, .int .i64 t.shape.pool, .int .i64 t.shape.cap.c, .int .i64 t.shape.cap.m, .int .i64 t.shape.cap.p, v1, v2, .bool t.shape.cordon]).below hb1 (by simp)
  have hC1 : Below w.heap.size w w1 := (by repeat' (first | exact Below.refl _ _ | refine Below.alloc ?_ ?_ _ | refine Below.setCell ?_ ?_ _ | refine Below.drew ?_ | (apply below_step; assumption) | (simp; done) | (simp; omega) | omega))
  have hg1 : ErrAt x w1 := (HG.out.alloc _).below hb1 (Nat.le_refl _)
  have hx1 := B1.cell
  have HB1 := Lib.hid B1
  have HG1 := Lib.hid hg1
  clear B1 hg1
  go_wp2_with fail
  refine (toPool_o t v1 v2 _ (H1.out.below hC1) (H2.out.below hC1) L1.out L2.out).mono ?_
  rintro e w2 ⟨g1, g2, rfl, k1, k2, k3, bl, it, hb2⟩
  have SL := Lib.hid (show LabSl w2 (.slice (some ⟨g1, 0, none⟩) t.shape.labs.length t.shape.labs.length) t.shape.labs from .inr ⟨g1, 0, _, rfl, bl.lt, LabAt.of_cells bl⟩)
  have SI := Lib.hid (show IntSl w2 (.slice (some ⟨g2, 0, none⟩) t.shape.taints.length t.shape.taints.length) t.shape.taints from (intO_of it L2.out).sl)
  have hC2 : Below w.heap.size w w2 := hC1.trans (hb2.mono hC1.size)
  have HB2 := Lib.hid (HB1.out.below hb2 HB1.out.lt)
  have HG2 := Lib.hid (HG1.out.below hb2 (Nat.le_refl _))
  clear bl it
  go_wp2_with fail
  refine (HSO.out _ _ _ SL.out SI.out L1.out L2.out).mono ?_
  rintro e w3 ⟨rfl, hb3⟩
  have hC3 : Below w.heap.size w w3 := hC2.trans (hb3.mono hC2.size)
  have B3 := HB2.out.below hb3 HB2.out.lt
  have HG3 := Lib.hid (HG2.out.below hb3 (Nat.le_refl _))
  have hx3 := B3.cell
  have HB3 := Lib.hid B3
  clear B3 hx1 k1 k2 k3 hb2 hb1 HB1 HB2 HG1 HG2 SL SI hC1 hC2
  go_wp2_with fail
  refine (toPool_o t v1 v2 _ (H1.out.below hC3) (H2.out.below hC3) L1.out L2.out).mono ?_
  rintro e w4 ⟨g1, g2, rfl, k1, k2, k3, bl, it, hb4⟩
  have SL4 := Lib.hid (show LabSl w4 (.slice (some ⟨g1, 0, none⟩) t.shape.labs.length t.shape.labs.length) t.shape.labs from .inr ⟨g1, 0, _, rfl, bl.lt, LabAt.of_cells bl⟩)
  have SI4 := Lib.hid (show IntSl w4 (.slice (some ⟨g2, 0, none⟩) t.shape.taints.length t.shape.taints.length) t.shape.taints from (intO_of it L2.out).sl)
  have hC4 : Below w.heap.size w w4 := hC3.trans (hb4.mono hC3.size)
  have HB4 := Lib.hid (HB3.out.below hb4 HB3.out.lt)
  have HG4 := Lib.hid (HG3.out.below hb4 (Nat.le_refl _))
  clear bl it
  go_wp2_with fail
  have hA4 : Below w4.heap.size w4 (w4.alloc (.cells #[.int .i64 t.id, .int .i64 t.min, .int .i64 t.max, .int .i64 t.prio, .int .i64 t.shape.id, .int .i64 t.shape.pool, .int .i64 t.shape.cap.c, .int .i64 t.shape.cap.m, .int .i64 t.shape.cap.p, .slice (some ⟨g1, 0, none⟩) t.shape.labs.length t.shape.labs.length, .slice (some ⟨g2, 0, none⟩) t.shape.taints.length t.shape.taints.length, .bool t.shape.cordon] 37)) := (by repeat' (first | exact Below.refl _ _ | refine Below.alloc ?_ ?_ _ | refine Below.setCell ?_ ?_ _ | refine Below.drew ?_ | (apply below_step; assumption) | (simp; done) | (simp; omega) | omega))
  refine (HIO.out _ _ _ x (HG4.out.alloc _) (SL4.out.below hA4) (SI4.out.below hA4) L1.out L2.out).mono ?_
  rintro e w5 ⟨rfl, hb5⟩
  have hz5 := hb5.size
  simp at hz5
  have hD5 : Below w4.heap.size w4 w5 := hA4.trans (hb5.mono hA4.size)
  have hC5 : Below w.heap.size w w5 := hC4.trans (hD5.mono hC4.size)
  have B5 := HB4.out.below hD5 HB4.out.lt
  have X5 : BlockIs w5 w4.heap.size 37 #[.int .i64 t.id, .int .i64 t.min, .int .i64 t.max, .int .i64 t.prio, .int .i64 t.shape.id, .int .i64 t.shape.pool, .int .i64 t.shape.cap.c, .int .i64 t.shape.cap.m, .int .i64 t.shape.cap.p, .slice (some ⟨g1, 0, none⟩) t.shape.labs.length t.shape.labs.length, .slice (some ⟨g2, 0, none⟩) t.shape.taints.length t.shape.taints.length, .bool t.shape.cordon] := (BlockIs.new w4 _ _).below hb5 (by simp)
  have SL5 := Lib.hid (SL4.out.below hD5)
  have SI5 := Lib.hid (SI4.out.below hD5)
  have b5 := B5.cell
  have x5 := X5.cell
  have HK := Lib.hid (show ∀ w', Below w5.heap.size w5 w' → Below w5.heap.size w5 w' ∧ (∀ o, w'.cell? ⟨w.heap.size, o, none⟩ = (#[.int .i64 t.id, .int .i64 t.min, .int .i64 t.max, .int .i64 t.prio, .int .i64 t.shape.id, .int .i64 t.shape.pool, .int .i64 t.shape.cap.c, .int .i64 t.shape.cap.m, .int .i64 t.shape.cap.p, v1, v2, .bool t.shape.cordon] : Array Value)[o]?) ∧ (∀ o, w'.cell? ⟨w4.heap.size, o, none⟩ = (#[.int .i64 t.id, .int .i64 t.min, .int .i64 t.max, .int .i64 t.prio, .int .i64 t.shape.id, .int .i64 t.shape.pool, .int .i64 t.shape.cap.c, .int .i64 t.shape.cap.m, .int .i64 t.shape.cap.p, .slice (some ⟨g1, 0, none⟩) t.shape.labs.length t.shape.labs.length, .slice (some ⟨g2, 0, none⟩) t.shape.taints.length t.shape.taints.length, .bool t.shape.cordon] : Array Value)[o]?) from
    fun w' hb => ⟨hb, (B5.below hb B5.lt).cell, (X5.below hb X5.lt).cell⟩)
  have LT := Lib.hid (And.intro B5.lt X5.lt)
  clear B5 X5 hx3 SL4 SI4 HB3 HB4 HG3 HG4
  go_wp2_with fail
  go_region_held3 (fun w' => Below w5.heap.size w5 w' ∧ (∀ o, w'.cell? ⟨w.heap.size, o, none⟩ = (#[.int .i64 t.id, .int .i64 t.min, .int .i64 t.max, .int .i64 t.prio, .int .i64 t.shape.id, .int .i64 t.shape.pool, .int .i64 t.shape.cap.c, .int .i64 t.shape.cap.m, .int .i64 t.shape.cap.p, v1, v2, .bool t.shape.cordon] : Array Value)[o]?) ∧ (∀ o, w'.cell? ⟨w4.heap.size, o, none⟩ = (#[.int .i64 t.id, .int .i64 t.min, .int .i64 t.max, .int .i64 t.prio, .int .i64 t.shape.id, .int .i64 t.shape.pool, .int .i64 t.shape.cap.c, .int .i64 t.shape.cap.m, .int .i64 t.shape.cap.p, .slice (some ⟨g1, 0, none⟩) t.shape.labs.length t.shape.labs.length, .slice (some ⟨g2, 0, none⟩) t.shape.taints.length t.shape.taints.length, .bool t.shape.cordon] : Array Value)[o]?))
    (exact HK.out _ (by repeat' (first | exact Below.refl _ _ | refine Below.alloc ?_ ?_ _ | refine Below.setCell ?_ ?_ _ | refine Below.drew ?_ | (apply below_step; assumption) | (simp; done) | (simp; omega) | omega)))
    (first
      | (go_at_call 8; refine (toPool_o t v1 v2 _ (H1.out.below (below_of hC5 (by repeat' (first | exact Below.refl _ _ | refine Below.alloc ?_ ?_ _ | refine Below.setCell ?_ ?_ _ | refine Below.drew ?_ | (apply below_step; assumption) | (simp; done) | (simp; omega) | omega)))) (H2.out.below (below_of hC5 (by repeat' (first | exact Below.refl _ _ | refine Below.alloc ?_ ?_ _ | refine Below.setCell ?_ ?_ _ | refine Below.drew ?_ | (apply below_step; assumption) | (simp; done) | (simp; omega) | omega)))) L1.out L2.out).mono ?_; rintro e w6 ⟨j1, j2, rfl, i1, i2, i3, bl, it, hb6⟩; have hz6 := hb6.size; try simp at hz6)
      | (go_at_call 10; refine (eqPool_same t _ _ _ _ _ (SL5.out.below (by repeat' (first | exact Below.refl _ _ | refine Below.alloc ?_ ?_ _ | refine Below.setCell ?_ ?_ _ | refine Below.drew ?_ | (apply below_step; assumption) | (simp; done) | (simp; omega) | omega))) (SI5.out.below (by repeat' (first | exact Below.refl _ _ | refine Below.alloc ?_ ?_ _ | refine Below.setCell ?_ ?_ _ | refine Below.drew ?_ | (apply below_step; assumption) | (simp; done) | (simp; omega) | omega))) (show LabSl w6 (.slice (some ⟨j1, 0, none⟩) t.shape.labs.length t.shape.labs.length) t.shape.labs from .inr ⟨j1, 0, _, rfl, bl.lt, LabAt.of_cells bl⟩) (show IntSl w6 (.slice (some ⟨j2, 0, none⟩) t.shape.taints.length t.shape.taints.length) t.shape.taints from (intO_of it L2.out).sl) L1.out L2.out).mono ?_; rintro e w7 ⟨rfl, hb7⟩; have hz7 := hb7.size; try simp at hz7))
  all_goals
    go_wp2_with fail
    go_ret
    exact ⟨rfl, below_of hC5 (by repeat' (first | exact Below.refl _ _ | refine Below.alloc ?_ ?_ _ | refine Below.setCell ?_ ?_ _ | refine Below.drew ?_ | (apply below_step; assumption) | (simp; done) | (simp; omega) | omega))⟩

theorem rowVars : ∀ n ∈ Rows.fnExactPoolOkSpec.vars, ∃ g t ms, Tryd.prog.globalNamed n = some g ∧ (Tryd.prog.globals[g]?).map (·.type) = some t ∧ Tryd.prog.underlying t = some (.interface ms) := errVars
set_option maxRecDepth 100000 in
theorem contract (H : Type) (enc : TypeId × Value → H) (W : World) (base : Nat) (args : Array Value) (ds gs : List (DataW H)) (before : List MemPlace)
    (hval : ∀ (j : Nat) t v, Tryd.f3.params[j]? = some t → args[j]? = some v → Value.okWide Tryd.prog W .any base t v)
    (hW : DataW.Whole enc Tryd.prog Tryd.f3.params.toList Rows.fnExactPoolOkSpec.vars false W args.toList ds gs before) (hL : laidMetH Tryd.prog Rows.fnExactPoolOkRow.laid W) :
    Calls Tryd.prog 3 args W fun e W' => ∃ v, e = .returned v ∧ Rows.fnExactPoolOkSpec.post enc Tryd.prog Tryd.f3 false true false false W args v W' := by
  have hW' := hW
  obtain ⟨p, q, hA0, hV, rfl, hfz, hnd⟩ := hW
  have hA : DataW.TrodAll enc Tryd.prog W 0 (fun _ => true) true Tryd.f3.params.toList args.toList ds p := hA0
  rw [Tryd.params3] at hA hval
  obtain ⟨v0, vs0, d0, ds0, p0, q0, hargs, rfl, rfl, h0, r0⟩ := trodAll_cons hA
  obtain ⟨rfl, rfl, rfl⟩ := trodAll_nil r0
  obtain rfl : args = #[v0] := by cases args; simp_all
  rw [MakeChecks.laidMetH_plain _ _ _ (by kernel_rfl)] at hL
  obtain ⟨a0, x0, y0, rfl, sl0, si0, ml0, mi0⟩ := open_pool (hval 0 _ v0 rfl rfl) h0
  obtain ⟨gg, tt, cs, fuel, d, pp, rfl, _⟩ := trodVars_one hV
  obtain ⟨x, hg⟩ := errAt_of_laid hL
  have fin : Calls Tryd.prog 3 #[.agg #[.int .i64 a0.id, .int .i64 a0.min, .int .i64 a0.max, .int .i64 a0.prio, .int .i64 a0.shape.id, .int .i64 a0.shape.pool, .int .i64 a0.shape.cap.c, .int .i64 a0.shape.cap.m, .int .i64 a0.shape.cap.p, x0, y0, .bool a0.shape.cordon]] W fun e w' => e = .returned (.bool true) ∧ Below W.heap.size W w' := by
    by_cases hs : a0.shape.labs.length + a0.shape.taints.length ≤ 1048576
    · exact walk a0 x0 y0 W x hg sl0 si0 hs
    · exact walk_long a0 x0 y0 W sl0 si0 ml0 mi0 (by omega)
  refine fin.mono fun e W' ⟨he, hb⟩ => ?_
  subst he
  exact ⟨_, rfl, law_post Tryd.laidOut (by rw [Tryd.params3]; intro t ht; have k0 : Tryd.prog.readableRec 29 = true ∧ 29 < Tryd.prog.types.size := ⟨by kernel_rfl, of_decide_eq_true (by kernel_rfl)⟩; simp at ht; subst ht; exact k0) rowVars (tb := 4) rfl Tryd.underlying4 hW' rfl hb⟩

theorem door_met (os : Os) (args : Array Value) : laidMet Tryd.prog Rows.fnExactPoolOkRow.laid ((World.doorLaid Tryd.prog 400 os).forCall (fun _ _ => 0) ⟨#[], args, []⟩).memory :=
  laidMet_of_run' 8 (by kernel_rfl) (by kernel_rfl)
set_option maxRecDepth 100000 in
theorem lifted (os : Os) (started : os.Started) (H : Type) (enc : TypeId × Value → H) (F : Stop.Interp) :
    ReturnsInHanded {} Tryd.checked os 3 .any ((OpenSpec.ofChange Rows.fnExactPoolOkSpec).preRow enc Tryd.prog Tryd.f3 Rows.fnExactPoolOkRow.domain false Rows.fnExactPoolOkRow.laid) (((OpenSpec.ofChange Rows.fnExactPoolOkSpec).at F).post enc Tryd.prog Tryd.f3 false true false false) := by
  refine returnsInHanded_of_row (C := Tryd.checked) (s := OpenSpec.ofChange Rows.fnExactPoolOkSpec) Tryd.own started (by kernel_rfl) Tryd.func3
    (witness_row_atRef (enc := enc) (C := Tryd.checked) false (World.doorLaid Tryd.prog 400 os) #[.agg #[.int .i64 0, .int .i64 0, .int .i64 0, .int .i64 0, .int .i64 0, .int .i64 0, .int .i64 0, .int .i64 0, .int .i64 0, .slice none 0 0, .slice none 0 0, .bool false]] rfl (by kernel_rfl) (by kernel_rfl) (by kernel_rfl)
      (OpenSpec.preRow_of_B rfl 8 (by kernel_rfl) (by kernel_rfl) (door_met os _))) ?_
  intro W base args ds gs before hval hW _ _ _ hL _ _
  exact contract H enc W base args ds gs before hval hW hL

theorem jIn : (Rows.fnExactPoolOkRow.inPlace == Tryd.prog.inPlace 3) = true := by kernel_rfl
theorem jUn : (Rows.fnExactPoolOkRow.unfollowed == Tryd.prog.unfollowed 3) = true := by kernel_rfl
theorem jRe : (Rows.fnExactPoolOkRow.recurses == Tryd.prog.recurses 3) = true := by kernel_rfl
theorem jNa : (Rows.fnExactPoolOkRow.named == Tryd.prog.varsNamed 3) = true := by kernel_rfl
theorem joined : joinedFacts Tryd.prog 3 Tryd.f3 (OpenSpec.ofChange Rows.fnExactPoolOkSpec).bare Rows.fnExactPoolOkRow = true :=
  joined_mk (by kernel_rfl) Tryd.laidOut pRowed (by kernel_rfl) (by kernel_rfl) rfl pStops rfl pKnobs jIn jUn jRe jNa (by kernel_rfl) (by kernel_rfl) (by kernel_rfl) (by kernel_rfl) (by kernel_rfl) (by kernel_rfl) (by kernel_rfl) (by kernel_rfl) (by kernel_rfl) pKeys (by kernel_rfl) pHeard pEnter pLifts pMake (by kernel_rfl) (by kernel_rfl) (by kernel_rfl) (by kernel_rfl)
theorem said : Rows.FnExactPoolOkSaid :=
  OpenClaim.holds_of_cond 3 Tryd.f3 rfl rfl rfl rfl rfl rfl rfl ⟨rfl, rfl, rfl, rfl, rfl⟩ rfl rfl rfl rfl rfl (by kernel_rfl) Tryd.func3 joined
    (of_decide_eq_true (by kernel_rfl)) (by unfold Func.isWrapper; first | (rw [if_pos (by decide +kernel)]; kernel_rfl) | (rw [if_neg (by decide +kernel)]; exact ⟨rfl, rfl⟩))
    (fun os started H enc _ F => by rw [OpenClaim.pre_eq_preRow]; exact lifted os started H enc F)

theorem plain (f : FuncId) (fn : Func) (hf : Tryd.pinned.checked.prog.funcNamed "loop.example/g00718/laws.FnExactPoolOk" = some f) (hfn : Tryd.pinned.checked.prog.funcs[f]? = some fn) :
    true = Tryd.pinned.checked.prog.looks [] ∧ ∀ (j : Nat) t, fn.params[j]? = some t → Tryd.pinned.checked.prog.wantsStandIn t = false := by
  obtain rfl : f = 3 := Option.some.inj ((show Tryd.prog.funcNamed "loop.example/g00718/laws.FnExactPoolOk" = some 3 by kernel_rfl).symm.trans hf) |>.symm
  obtain rfl : fn = Tryd.f3 := (Option.some.inj (Tryd.func3.symm.trans hfn)).symm
  refine ⟨by kernel_rfl, fun j t ht => ?_⟩
  rw [Tryd.params3] at ht
  have hm := Array.mem_of_getElem? ht
  have k0 : Tryd.pinned.checked.prog.wantsStandIn 29 = false := (show Tryd.prog.wantsStandIn 29 = false by kernel_rfl)
  simp at hm
  subst hm; exact k0

/-- The card. -/
theorem card : Rows.FnExactPoolOkCardSaid :=
  Claim7.holds_tied_plain_at .later [] _ _ _ _ said (fun _ h => by cases h) (by kernel_rfl) (fun _ h => by cases h) fnExactPoolOk_row_tie rfl ⟨rfl, rfl⟩ (by kernel_rfl) rfl plain (by kernel_rfl)
end Go.Proofs.YtocfgejceoenmaaDoor.fnExactPoolOk
