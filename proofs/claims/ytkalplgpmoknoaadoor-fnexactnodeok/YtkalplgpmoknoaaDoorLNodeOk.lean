/- FnExactNodeOk answers true at every node: NodeOk and its model agree, and the node is left as it was. Tied to impl.errRange's text. -/
import Derived.Test.YtkalplgpmoknoaaDoorTaskRow
import Derived.Test.YtkalplgpmoknoaaDoorResRow
import Derived.Test.YtkalplgpmoknoaaDoorSlTask
import Derived.Test.YtkalplgpmoknoaaDoorTaskS
namespace Go.Proofs.YtkalplgpmoknoaaDoor.fnExactNodeOk
open Go.ChangeShapes Go.WideShapes Go.ChangeAt Go.RowKit Go.Joins

set_option maxHeartbeats 1600000 in
theorem walk_long (t : NV) (v1 v2 : Value) (w : World) (h1 : LabSl w v1 t.labs) (h2 : IntSl w v2 t.taints) (m1 : t.labs.length ≤ maxLen) (m2 : t.taints.length ≤ maxLen) (h : 1048576 < t.labs.length + t.taints.length) :
    Calls Tryd.prog 4 #[.agg #[.int .i64 t.id, .int .i64 t.pool, .int .i64 t.cap.c, .int .i64 t.cap.m, .int .i64 t.cap.p, v1, v2, .bool t.cordon]] w fun e w' => e = .returned (.bool true) ∧ Below w.heap.size w w' := by
  obtain ⟨A1, c1, rfl, _⟩ := h1.form
  obtain ⟨A2, c2, rfl, _⟩ := h2.form
  have HSZ := Lib.hid (show szTV 1048576 t.labs.length t.taints.length = -1 by
    unfold szTV szLeft
    split
    · rw [if_neg (by omega)]
    · rfl)
  have M := Lib.hid (And.intro m1 m2)
  clear h1 h2 m1 m2 h
  go_enter Tryd.func4, Tryd.ntmps4
  go_wp2_with fail
  refine (szNode_any _ _ _ _ _ _ A1 A2 _ c1 _ c2 1048576 _ (by omega) (by omega) M.out.1 M.out.2).mono ?_
  rintro e w1 ⟨rfl, hb1⟩
  rw [HSZ.out]
  have hz1 := hb1.size
  simp at hz1
  go_wp2_with fail
  go_ret
  exact ⟨rfl, (by repeat' (first | exact Below.refl _ _ | refine Below.alloc ?_ ?_ _ | refine Below.setCell ?_ ?_ _ | refine Below.drew ?_ | (apply below_step; assumption) | (simp; done) | (simp; omega) | omega))⟩

set_option maxHeartbeats 1600000 in
theorem walk (t : NV) (v1 v2 : Value) (w : World) (x : Addr) (hg : ErrAt x w) (h1 : LabSl w v1 t.labs) (h2 : IntSl w v2 t.taints) (h : t.labs.length + t.taints.length ≤ 1048576) :
    Calls Tryd.prog 4 #[.agg #[.int .i64 t.id, .int .i64 t.pool, .int .i64 t.cap.c, .int .i64 t.cap.m, .int .i64 t.cap.p, v1, v2, .bool t.cordon]] w fun e w' => e = .returned (.bool true) ∧ Below w.heap.size w w' := by
  have H1 := Lib.hid h1
  have H2 := Lib.hid h2
  have L1 := Lib.hid (show t.labs.length ≤ 1048576 by omega)
  have L2 := Lib.hid (show t.taints.length ≤ 1048576 by omega)
  obtain ⟨A1, c1, e1, _⟩ := h1.form
  obtain ⟨A2, c2, e2, _⟩ := h2.form
  have HSZ := Lib.hid (show szTV 1048576 t.labs.length t.taints.length = 1048576 - t.labs.length - t.taints.length by
    unfold szTV szLeft
    rw [if_pos (by omega), if_pos (by omega)])
  have hle : (0 : Int) ≤ 1048576 - t.labs.length - t.taints.length := by omega
  have HG := Lib.hid hg
  have hsz := fun w => szNode_any (.int .i64 t.id) (.int .i64 t.pool) (.int .i64 t.cap.c) (.int .i64 t.cap.m) (.int .i64 t.cap.p) (.bool t.cordon) A1 A2 t.labs.length c1 t.taints.length c2 1048576 w (by omega) (by omega) (by unfold maxLen; omega) (by unfold maxLen; omega)
  rw [← e1, ← e2, HSZ.out] at hsz
  have HS := Lib.hid hsz
  have hso := fun w a b => sNodeOk_any t a b w
  have hio := fun w a b x hg => NodeOk_any t a b w x hg
  generalize t.ok = ok at hso hio
  have hne : (ok != ok) = false := by simp
  have HSO := Lib.hid hso
  have HIO := Lib.hid hio
  generalize (1048576 - (t.labs.length : Int) - t.taints.length) = z at hle HS
  clear h1 h2 h hg e1 e2 hsz hso hio HSZ
  go_enter Tryd.func4, Tryd.ntmps4
  go_wp2_with fail
  refine (HS.out _).mono ?_
  rintro e w1 ⟨rfl, hb1⟩
  have hz1 := hb1.size
  simp at hz1
  have B1 := (BlockIs.new w 38 #[.int .i64 t.id, .int .i64 t.pool, .int .i64 t.cap.c, .int .i64 t.cap.m, .int .i64 t.cap.p, v1, v2, .bool t.cordon]).below hb1 (by simp)
  have hC1 : Below w.heap.size w w1 := (by repeat' (first | exact Below.refl _ _ | refine Below.alloc ?_ ?_ _ | refine Below.setCell ?_ ?_ _ | refine Below.drew ?_ | (apply below_step; assumption) | (simp; done) | (simp; omega) | omega))
  have hg1 : ErrAt x w1 := (HG.out.alloc _).below hb1 (Nat.le_refl _)
  have hx1 := B1.cell
  have HB1 := Lib.hid B1
  have HG1 := Lib.hid hg1
  clear B1 hg1
  go_wp2_with fail
  refine (toNode_any t v1 v2 _ (H1.out.below hC1) (H2.out.below hC1) L1.out L2.out).mono ?_
  rintro e w2 ⟨g1, g2, rfl, k1, k2, k3, bl, it, hb2⟩
  have SL := Lib.hid (show LabSl w2 (.slice (some ⟨g1, 0, none⟩) t.labs.length t.labs.length) t.labs from .inr ⟨g1, 0, _, rfl, bl.lt, LabAt.of_cells bl⟩)
  have SI := Lib.hid (show IntSl w2 (.slice (some ⟨g2, 0, none⟩) t.taints.length t.taints.length) t.taints from .inr ⟨g2, 0, _, rfl, k3, it⟩)
  have hC2 : Below w.heap.size w w2 := hC1.trans (hb2.mono hC1.size)
  have HB2 := Lib.hid (HB1.out.below hb2 HB1.out.lt)
  have HG2 := Lib.hid (HG1.out.below hb2 (Nat.le_refl _))
  clear bl it
  go_wp2_with fail
  refine (HSO.out _ _ _ SL.out SI.out L1.out L2.out).mono ?_
  rintro e w3 ⟨rfl, hb3⟩
  have hC3 : Below w.heap.size w w3 := hC2.trans (hb3.mono hC2.size)
  have B3 := HB2.out.below hb3 HB2.out.lt
  have HG3 := Lib.hid (HG2.out.below hb3 (Nat.le_refl _))
  have hx3 := B3.cell
  have HB3 := Lib.hid B3
  clear B3 hx1 k1 k2 k3 hb2 hb1 HB1 HB2 HG1 HG2 SL SI hC1 hC2
  go_wp2_with fail
  refine (toNode_any t v1 v2 _ (H1.out.below hC3) (H2.out.below hC3) L1.out L2.out).mono ?_
  rintro e w4 ⟨g1, g2, rfl, k1, k2, k3, bl, it, hb4⟩
  have SL4 := Lib.hid (show LabSl w4 (.slice (some ⟨g1, 0, none⟩) t.labs.length t.labs.length) t.labs from .inr ⟨g1, 0, _, rfl, bl.lt, LabAt.of_cells bl⟩)
  have SI4 := Lib.hid (show IntSl w4 (.slice (some ⟨g2, 0, none⟩) t.taints.length t.taints.length) t.taints from .inr ⟨g2, 0, _, rfl, k3, it⟩)
  have hC4 : Below w.heap.size w w4 := hC3.trans (hb4.mono hC3.size)
  have HB4 := Lib.hid (HB3.out.below hb4 HB3.out.lt)
  have HG4 := Lib.hid (HG3.out.below hb4 (Nat.le_refl _))
  clear bl it
  go_wp2_with fail
  have hA4 : Below w4.heap.size w4 (w4.alloc (.cells #[.int .i64 t.id, .int .i64 t.pool, .int .i64 t.cap.c, .int .i64 t.cap.m, .int .i64 t.cap.p, .slice (some ⟨g1, 0, none⟩) t.labs.length t.labs.length, .slice (some ⟨g2, 0, none⟩) t.taints.length t.taints.length, .bool t.cordon] 42)) := (by repeat' (first | exact Below.refl _ _ | refine Below.alloc ?_ ?_ _ | refine Below.setCell ?_ ?_ _ | refine Below.drew ?_ | (apply below_step; assumption) | (simp; done) | (simp; omega) | omega))
  refine (HIO.out _ _ _ x (HG4.out.alloc _) (SL4.out.below hA4) (SI4.out.below hA4) L1.out L2.out).mono ?_
  rintro e w5 ⟨rfl, hb5⟩
  have hz5 := hb5.size
  simp at hz5
  have hD5 : Below w4.heap.size w4 w5 := hA4.trans (hb5.mono hA4.size)
  have hC5 : Below w.heap.size w w5 := hC4.trans (hD5.mono hC4.size)
  have B5 := HB4.out.below hD5 HB4.out.lt
  have X5 : BlockIs w5 w4.heap.size 42 #[.int .i64 t.id, .int .i64 t.pool, .int .i64 t.cap.c, .int .i64 t.cap.m, .int .i64 t.cap.p, .slice (some ⟨g1, 0, none⟩) t.labs.length t.labs.length, .slice (some ⟨g2, 0, none⟩) t.taints.length t.taints.length, .bool t.cordon] := (BlockIs.new w4 _ _).below hb5 (by simp)
  have SL5 := Lib.hid (SL4.out.below hD5)
  have SI5 := Lib.hid (SI4.out.below hD5)
  have b5 := B5.cell
  have x5 := X5.cell
  have HK := Lib.hid (show ∀ w', Below w5.heap.size w5 w' → Below w5.heap.size w5 w' ∧ (∀ o, w'.cell? ⟨w.heap.size, o, none⟩ = (#[.int .i64 t.id, .int .i64 t.pool, .int .i64 t.cap.c, .int .i64 t.cap.m, .int .i64 t.cap.p, v1, v2, .bool t.cordon] : Array Value)[o]?) ∧ (∀ o, w'.cell? ⟨w4.heap.size, o, none⟩ = (#[.int .i64 t.id, .int .i64 t.pool, .int .i64 t.cap.c, .int .i64 t.cap.m, .int .i64 t.cap.p, .slice (some ⟨g1, 0, none⟩) t.labs.length t.labs.length, .slice (some ⟨g2, 0, none⟩) t.taints.length t.taints.length, .bool t.cordon] : Array Value)[o]?) from
    fun w' hb => ⟨hb, (B5.below hb B5.lt).cell, (X5.below hb X5.lt).cell⟩)
  have LT := Lib.hid (And.intro B5.lt X5.lt)
  clear B5 X5 hx3 SL4 SI4 HB3 HB4 HG3 HG4
  go_wp2_with fail
  go_region_held3 (fun w' => Below w5.heap.size w5 w' ∧ (∀ o, w'.cell? ⟨w.heap.size, o, none⟩ = (#[.int .i64 t.id, .int .i64 t.pool, .int .i64 t.cap.c, .int .i64 t.cap.m, .int .i64 t.cap.p, v1, v2, .bool t.cordon] : Array Value)[o]?) ∧ (∀ o, w'.cell? ⟨w4.heap.size, o, none⟩ = (#[.int .i64 t.id, .int .i64 t.pool, .int .i64 t.cap.c, .int .i64 t.cap.m, .int .i64 t.cap.p, .slice (some ⟨g1, 0, none⟩) t.labs.length t.labs.length, .slice (some ⟨g2, 0, none⟩) t.taints.length t.taints.length, .bool t.cordon] : Array Value)[o]?))
    (exact HK.out _ (by repeat' (first | exact Below.refl _ _ | refine Below.alloc ?_ ?_ _ | refine Below.setCell ?_ ?_ _ | refine Below.drew ?_ | (apply below_step; assumption) | (simp; done) | (simp; omega) | omega)))
    (first
      | (go_at_call 13; refine (toNode_any t v1 v2 _ (H1.out.below (below_of hC5 (by repeat' (first | exact Below.refl _ _ | refine Below.alloc ?_ ?_ _ | refine Below.setCell ?_ ?_ _ | refine Below.drew ?_ | (apply below_step; assumption) | (simp; done) | (simp; omega) | omega)))) (H2.out.below (below_of hC5 (by repeat' (first | exact Below.refl _ _ | refine Below.alloc ?_ ?_ _ | refine Below.setCell ?_ ?_ _ | refine Below.drew ?_ | (apply below_step; assumption) | (simp; done) | (simp; omega) | omega)))) L1.out L2.out).mono ?_; rintro e w6 ⟨j1, j2, rfl, i1, i2, i3, bl, it, hb6⟩; have hz6 := hb6.size; try simp at hz6)
      | (go_at_call 15; refine (eqNode_same t _ _ _ _ _ (SL5.out.below (by repeat' (first | exact Below.refl _ _ | refine Below.alloc ?_ ?_ _ | refine Below.setCell ?_ ?_ _ | refine Below.drew ?_ | (apply below_step; assumption) | (simp; done) | (simp; omega) | omega))) (SI5.out.below (by repeat' (first | exact Below.refl _ _ | refine Below.alloc ?_ ?_ _ | refine Below.setCell ?_ ?_ _ | refine Below.drew ?_ | (apply below_step; assumption) | (simp; done) | (simp; omega) | omega))) (show LabSl w6 (.slice (some ⟨j1, 0, none⟩) t.labs.length t.labs.length) t.labs from .inr ⟨j1, 0, _, rfl, bl.lt, LabAt.of_cells bl⟩) (show IntSl w6 (.slice (some ⟨j2, 0, none⟩) t.taints.length t.taints.length) t.taints from .inr ⟨j2, 0, _, rfl, i3, it⟩) L1.out L2.out).mono ?_; rintro e w7 ⟨rfl, hb7⟩; have hz7 := hb7.size; try simp at hz7))
  all_goals
    go_wp2_with fail
    go_ret
    exact ⟨rfl, below_of hC5 (by repeat' (first | exact Below.refl _ _ | refine Below.alloc ?_ ?_ _ | refine Below.setCell ?_ ?_ _ | refine Below.drew ?_ | (apply below_step; assumption) | (simp; done) | (simp; omega) | omega))⟩

theorem rowVars : ∀ n ∈ Rows.fnExactNodeOkSpec.vars, ∃ g t ms, Tryd.prog.globalNamed n = some g ∧ (Tryd.prog.globals[g]?).map (·.type) = some t ∧ Tryd.prog.underlying t = some (.interface ms) := errVars
set_option maxRecDepth 100000 in
theorem contract (H : Type) (enc : TypeId × Value → H) (W : World) (base : Nat) (args : Array Value) (ds gs : List (DataW H)) (before : List MemPlace)
    (hval : ∀ (j : Nat) t v, Tryd.f4.params[j]? = some t → args[j]? = some v → Value.okWide Tryd.prog W .any base t v)
    (hW : DataW.Whole enc Tryd.prog Tryd.f4.params.toList Rows.fnExactNodeOkSpec.vars false W args.toList ds gs before) (hL : laidMetH Tryd.prog Rows.fnExactNodeOkRow.laid W) :
    Calls Tryd.prog 4 args W fun e W' => ∃ v, e = .returned v ∧ Rows.fnExactNodeOkSpec.post enc Tryd.prog Tryd.f4 false true false false W args v W' := by
  have hW' := hW
  obtain ⟨p, q, hA0, hV, rfl, hfz, hnd⟩ := hW
  have hA : DataW.TrodAll enc Tryd.prog W 0 (fun _ => true) true Tryd.f4.params.toList args.toList ds p := hA0
  rw [Tryd.params4] at hA hval
  obtain ⟨v0, vs0, d0, ds0, p0, q0, hargs, rfl, rfl, h0, r0⟩ := trodAll_cons hA
  obtain ⟨rfl, rfl, rfl⟩ := trodAll_nil r0
  obtain rfl : args = #[v0] := by cases args; simp_all
  rw [MakeChecks.laidMetH_plain _ _ _ (by kernel_rfl)] at hL
  obtain ⟨a0, x0, y0, rfl, sl0, si0, ml0, mi0⟩ := open_node (hval 0 _ v0 rfl rfl) h0
  obtain ⟨gg, tt, cs, fuel, d, pp, rfl, _⟩ := trodVars_one hV
  obtain ⟨x, hg⟩ := errAt_of_laid hL
  have fin : Calls Tryd.prog 4 #[.agg #[.int .i64 a0.id, .int .i64 a0.pool, .int .i64 a0.cap.c, .int .i64 a0.cap.m, .int .i64 a0.cap.p, x0, y0, .bool a0.cordon]] W fun e w' => e = .returned (.bool true) ∧ Below W.heap.size W w' := by
    by_cases hs : a0.labs.length + a0.taints.length ≤ 1048576
    · exact walk a0 x0 y0 W x hg sl0 si0 hs
    · exact walk_long a0 x0 y0 W sl0 si0 ml0 mi0 (by omega)
  refine fin.mono fun e W' ⟨he, hb⟩ => ?_
  subst he
  exact ⟨_, rfl, law_post Tryd.laidOut (by rw [Tryd.params4]; intro t ht; have k0 : Tryd.prog.readableRec 38 = true ∧ 38 < Tryd.prog.types.size := ⟨by kernel_rfl, of_decide_eq_true (by kernel_rfl)⟩; simp at ht; subst ht; exact k0) rowVars (tb := 4) rfl Tryd.underlying4 hW' rfl hb⟩

theorem door_met (os : Os) (args : Array Value) : laidMet Tryd.prog Rows.fnExactNodeOkRow.laid ((World.doorLaid Tryd.prog 400 os).forCall (fun _ _ => 0) ⟨#[], args, []⟩).memory :=
  laidMet_of_run' 8 (by kernel_rfl) (by kernel_rfl)
set_option maxRecDepth 100000 in
theorem lifted (os : Os) (started : os.Started) (H : Type) (enc : TypeId × Value → H) (F : Stop.Interp) :
    ReturnsInHanded {} Tryd.checked os 4 .any ((OpenSpec.ofChange Rows.fnExactNodeOkSpec).preRow enc Tryd.prog Tryd.f4 Rows.fnExactNodeOkRow.domain false Rows.fnExactNodeOkRow.laid) (((OpenSpec.ofChange Rows.fnExactNodeOkSpec).at F).post enc Tryd.prog Tryd.f4 false true false false) := by
  refine returnsInHanded_of_row (C := Tryd.checked) (s := OpenSpec.ofChange Rows.fnExactNodeOkSpec) Tryd.own started (by kernel_rfl) Tryd.func4
    (witness_row_atRef (enc := enc) (C := Tryd.checked) false (World.doorLaid Tryd.prog 400 os) #[.agg #[.int .i64 0, .int .i64 0, .int .i64 0, .int .i64 0, .int .i64 0, .slice none 0 0, .slice none 0 0, .bool false]] rfl (by kernel_rfl) (by kernel_rfl) (by kernel_rfl)
      (OpenSpec.preRow_of_B rfl 8 (by kernel_rfl) (by kernel_rfl) (door_met os _))) ?_
  intro W base args ds gs before hval hW _ _ _ hL _ _
  exact contract H enc W base args ds gs before hval hW hL

theorem said : Rows.FnExactNodeOkSaid :=
  OpenClaim.holds_of_cond 4 Tryd.f4 rfl rfl rfl rfl rfl rfl rfl ⟨rfl, rfl, rfl, rfl, rfl⟩ rfl rfl rfl rfl rfl (by kernel_rfl) Tryd.func4 (by kernel_rfl)
    (of_decide_eq_true (by kernel_rfl)) (by unfold Func.isWrapper; first | (rw [if_pos (by decide +kernel)]; kernel_rfl) | (rw [if_neg (by decide +kernel)]; exact ⟨rfl, rfl⟩))
    (fun os started H enc _ F => by rw [OpenClaim.pre_eq_preRow]; exact lifted os started H enc F)

theorem plain (f : FuncId) (fn : Func) (hf : Tryd.pinned.checked.prog.funcNamed "loop.example/g00718/laws.FnExactNodeOk" = some f) (hfn : Tryd.pinned.checked.prog.funcs[f]? = some fn) :
    true = Tryd.pinned.checked.prog.looks [] ∧ ∀ (j : Nat) t, fn.params[j]? = some t → Tryd.pinned.checked.prog.wantsStandIn t = false := by
  obtain rfl : f = 4 := Option.some.inj ((show Tryd.prog.funcNamed "loop.example/g00718/laws.FnExactNodeOk" = some 4 by kernel_rfl).symm.trans hf) |>.symm
  obtain rfl : fn = Tryd.f4 := (Option.some.inj (Tryd.func4.symm.trans hfn)).symm
  refine ⟨by kernel_rfl, fun j t ht => ?_⟩
  rw [Tryd.params4] at ht
  have hm := Array.mem_of_getElem? ht
  have k0 : Tryd.pinned.checked.prog.wantsStandIn 38 = false := (show Tryd.prog.wantsStandIn 38 = false by kernel_rfl)
  simp at hm
  subst hm; exact k0

/-- The card. -/
theorem card : Rows.FnExactNodeOkCardSaid :=
  Claim7.holds_tied_plain_at .later [] _ _ _ _ said (fun _ h => by cases h) (by kernel_rfl) (fun _ h => by cases h) fnExactNodeOk_row_tie rfl ⟨rfl, rfl⟩ (by kernel_rfl) rfl plain (by kernel_rfl)
end Go.Proofs.YtkalplgpmoknoaaDoor.fnExactNodeOk
