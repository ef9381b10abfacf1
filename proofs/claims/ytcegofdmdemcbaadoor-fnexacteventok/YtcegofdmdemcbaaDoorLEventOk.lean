/- FnExactEventOk answers true at every event: EventOk and its model agree, and the event is left as it was. Tied to impl.errRange's text. -/
import Derived.Test.YtcegofdmdemcbaaDoorEventTo
import Derived.Test.YtcegofdmdemcbaaDoorEventS
import Derived.Test.YtcegofdmdemcbaaDoorResRow
namespace Go.Proofs.YtcegofdmdemcbaaDoor.fnExactEventOk
open Go.ChangeShapes Go.WideShapes Go.ChangeAt Go.RowKit Go.Joins

set_option maxHeartbeats 1600000 in
theorem walk_long (t : EV) (v1 v2 : Value) (w : World) (h1 : LabSl w v1 t.task.want) (h2 : IntSl w v2 t.task.tols) (m1 : t.task.want.length ≤ maxLen) (m2 : t.task.tols.length ≤ maxLen) (h : 1048576 < t.task.want.length + t.task.tols.length) :
    Calls Tryd.prog 3 #[.agg #[.int .i64 t.kind, .int .i64 t.who, .int .i64 t.n, .bool t.works, .bool t.keep, .int .i64 t.task.id, .int .i64 t.task.prio, .int .i64 t.task.need.c, .int .i64 t.task.need.m, .int .i64 t.task.need.p, v1, v2]] w fun e w' => e = .returned (.bool true) ∧ Below w.heap.size w w' := by
  obtain ⟨A1, c1, rfl, _⟩ := h1.form
  obtain ⟨A2, c2, rfl, _⟩ := h2.form
  have HSZ := Lib.hid (show szTV 1048576 t.task.want.length t.task.tols.length = -1 by
    unfold szTV szLeft
    split
    · rw [if_neg (by omega)]
    · rfl)
  have M := Lib.hid (And.intro m1 m2)
  clear h1 h2 m1 m2 h
  go_enter Tryd.func3, Tryd.ntmps3
  go_wp2_with fail
  refine (szEvent_any _ _ _ _ _ _ _ _ _ _ A1 A2 _ c1 _ c2 1048576 _ (by omega) (by omega) M.out.1 M.out.2).mono ?_
  rintro e w1 ⟨rfl, hb1⟩
  rw [HSZ.out]
  have hz1 := hb1.size
  simp at hz1
  go_wp2_with fail
  go_ret
  exact ⟨rfl, (by repeat' (first | exact Below.refl _ _ | refine Below.alloc ?_ ?_ _ | refine Below.setCell ?_ ?_ _ | refine Below.drew ?_ | (apply below_step; assumption) | (simp; done) | (simp; omega) | omega))⟩

set_option maxHeartbeats 3200000 in
theorem walk (t : EV) (v1 v2 : Value) (w : World) (x : Addr) (hg : ErrAt x w) (h1 : LabSl w v1 t.task.want) (h2 : IntSl w v2 t.task.tols) (h : t.task.want.length + t.task.tols.length ≤ 1048576) :
    Calls Tryd.prog 3 #[.agg #[.int .i64 t.kind, .int .i64 t.who, .int .i64 t.n, .bool t.works, .bool t.keep, .int .i64 t.task.id, .int .i64 t.task.prio, .int .i64 t.task.need.c, .int .i64 t.task.need.m, .int .i64 t.task.need.p, v1, v2]] w fun e w' => e = .returned (.bool true) ∧ Below w.heap.size w w' := by
  have H1 := Lib.hid h1
  have H2 := Lib.hid h2
  have L1 := Lib.hid (show t.task.want.length ≤ 1048576 by omega)
  have L2 := Lib.hid (show t.task.tols.length ≤ 1048576 by omega)
  obtain ⟨A1, c1, rfl, _⟩ := h1.form
  obtain ⟨A2, c2, rfl, _⟩ := h2.form
  have hsz := fun w => szEvent_any (.int .i64 t.kind) (.int .i64 t.who) (.int .i64 t.n) (.bool t.works) (.bool t.keep) (.int .i64 t.task.id) (.int .i64 t.task.prio) (.int .i64 t.task.need.c) (.int .i64 t.task.need.m) (.int .i64 t.task.need.p) A1 A2 t.task.want.length c1 t.task.tols.length c2 1048576 w (by omega) (by omega) (by unfold maxLen; omega) (by unfold maxLen; omega)
  have hle : (0 : Int) ≤ 1048576 - t.task.want.length - t.task.tols.length := by omega
  rw [show szTV 1048576 t.task.want.length t.task.tols.length = 1048576 - t.task.want.length - t.task.tols.length by
    unfold szTV szLeft
    rw [if_pos (by omega), if_pos (by omega)]] at hsz
  have HG := Lib.hid hg
  have HS := Lib.hid hsz
  have hso := fun w a b ha hb => sEventOk_any t a b w ha hb
  have hio := fun w a b x hg => EventOk_any t a b w x hg
  generalize eventOk t = ok at hso hio
  have hne : (ok != ok) = false := by simp
  have HSO := Lib.hid hso
  have HIO := Lib.hid hio
  generalize (1048576 - (t.task.want.length : Int) - t.task.tols.length) = z at hle HS
  clear h1 h2 h hg hsz hso hio
  go_enter Tryd.func3, Tryd.ntmps3
  go_wp2_with fail
  refine (HS.out _).mono ?_
  rintro e w1 ⟨rfl, hb1⟩
  have hX : Below w.heap.size w (w.alloc (.cells #[.int .i64 t.kind, .int .i64 t.who, .int .i64 t.n, .bool t.works, .bool t.keep, .int .i64 t.task.id, .int .i64 t.task.prio, .int .i64 t.task.need.c, .int .i64 t.task.need.m, .int .i64 t.task.need.p, .slice A1 t.task.want.length c1, .slice A2 t.task.tols.length c2] 29)) := (by repeat' (first | exact Below.refl _ _ | refine Below.alloc ?_ ?_ _ | refine Below.setCell ?_ ?_ _ | refine Below.drew ?_ | (apply below_step; assumption) | (simp; done) | (simp; omega) | omega))
  have hC1 := below_of hX hb1
  have B1 := (BlockIs.new w 29 #[.int .i64 t.kind, .int .i64 t.who, .int .i64 t.n, .bool t.works, .bool t.keep, .int .i64 t.task.id, .int .i64 t.task.prio, .int .i64 t.task.need.c, .int .i64 t.task.need.m, .int .i64 t.task.need.p, .slice A1 t.task.want.length c1, .slice A2 t.task.tols.length c2]).below hb1 (by simp)
  have HB1 := Lib.hid B1
  have hx1 := B1.cell
  clear B1 hb1 hX
  go_wp2_with fail
  refine (toEvent_any t _ _ _ (H1.out.below hC1) (H2.out.below hC1) L1.out L2.out).mono ?_
  rintro e w2 ⟨u1, u2, rfl, sl2, si2, hb2⟩
  obtain ⟨D1, d1, rfl, _⟩ := sl2.form
  obtain ⟨D2, d2, rfl, _⟩ := si2.form
  have SL := Lib.hid sl2
  have SI := Lib.hid si2
  have hC2 := below_of hC1 hb2
  have HB2 := Lib.hid (HB1.out.below hb2 HB1.out.lt)
  clear sl2 si2 hb2 hx1 HB1
  go_wp2_with fail
  refine (HSO.out _ _ _ SL.out SI.out L1.out L2.out).mono ?_
  rintro e w3 ⟨rfl, hb3⟩
  have hC3 := below_of hC2 hb3
  have B3 := HB2.out.below hb3 HB2.out.lt
  have hx3 := B3.cell
  have HB3 := Lib.hid B3
  clear B3 hb3 HB2 SL SI
  go_wp2_with fail
  refine (toEvent_any t _ _ _ (H1.out.below hC3) (H2.out.below hC3) L1.out L2.out).mono ?_
  rintro e w4 ⟨u1, u2, rfl, sl4, si4, hb4⟩
  obtain ⟨D1, d1, rfl, _⟩ := sl4.form
  obtain ⟨D2, d2, rfl, _⟩ := si4.form
  have SL4 := Lib.hid sl4
  have SI4 := Lib.hid si4
  have hC4 := below_of hC3 hb4
  have HB4 := Lib.hid (HB3.out.below hb4 HB3.out.lt)
  clear sl4 si4 hb4 hx3 HB3
  go_wp2_with fail
  have hA4 : Below w4.heap.size w4 (w4.alloc (.cells #[.int .i64 t.kind, .int .i64 t.who, .int .i64 t.n, .bool t.works, .bool t.keep, .int .i64 t.task.id, .int .i64 t.task.prio, .int .i64 t.task.need.c, .int .i64 t.task.need.m, .int .i64 t.task.need.p, .slice D1 t.task.want.length d1, .slice D2 t.task.tols.length d2] 37)) := (by repeat' (first | exact Below.refl _ _ | refine Below.alloc ?_ ?_ _ | refine Below.setCell ?_ ?_ _ | refine Below.drew ?_ | (apply below_step; assumption) | (simp; done) | (simp; omega) | omega))
  refine (HIO.out _ _ _ x (HG.out.below (below_of hC4 hA4) (Nat.le_refl _)) (SL4.out.below hA4) (SI4.out.below hA4) L1.out L2.out).mono ?_
  rintro e w5 ⟨rfl, hb5⟩
  have hD5 := below_of hA4 hb5
  have hC5 := below_of hC4 hD5
  have B5 := HB4.out.below hD5 HB4.out.lt
  have X5 : BlockIs w5 w4.heap.size 37 #[.int .i64 t.kind, .int .i64 t.who, .int .i64 t.n, .bool t.works, .bool t.keep, .int .i64 t.task.id, .int .i64 t.task.prio, .int .i64 t.task.need.c, .int .i64 t.task.need.m, .int .i64 t.task.need.p, .slice D1 t.task.want.length d1, .slice D2 t.task.tols.length d2] := (BlockIs.new w4 _ _).below hb5 (by simp)
  have SL5 := Lib.hid (SL4.out.below hD5)
  have SI5 := Lib.hid (SI4.out.below hD5)
  have HK := Lib.hid (show ∀ w', Below w5.heap.size w5 w' → (fun w' => Below w5.heap.size w5 w' ∧ (∀ o, w'.cell? ⟨w.heap.size, o, none⟩ = (#[.int .i64 t.kind, .int .i64 t.who, .int .i64 t.n, .bool t.works, .bool t.keep, .int .i64 t.task.id, .int .i64 t.task.prio, .int .i64 t.task.need.c, .int .i64 t.task.need.m, .int .i64 t.task.need.p, .slice A1 t.task.want.length c1, .slice A2 t.task.tols.length c2] : Array Value)[o]?) ∧ (∀ o, w'.cell? ⟨w4.heap.size, o, none⟩ = (#[.int .i64 t.kind, .int .i64 t.who, .int .i64 t.n, .bool t.works, .bool t.keep, .int .i64 t.task.id, .int .i64 t.task.prio, .int .i64 t.task.need.c, .int .i64 t.task.need.m, .int .i64 t.task.need.p, .slice D1 t.task.want.length d1, .slice D2 t.task.tols.length d2] : Array Value)[o]?)) w' from
    fun w' hb => ⟨hb, (B5.below hb B5.lt).cell, (X5.below hb X5.lt).cell⟩)
  clear B5 X5 hb5 HB4 SL4 SI4 hA4 hD5
  go_wp2_with fail
  go_region_held3 (fun w' => Below w5.heap.size w5 w' ∧ (∀ o, w'.cell? ⟨w.heap.size, o, none⟩ = (#[.int .i64 t.kind, .int .i64 t.who, .int .i64 t.n, .bool t.works, .bool t.keep, .int .i64 t.task.id, .int .i64 t.task.prio, .int .i64 t.task.need.c, .int .i64 t.task.need.m, .int .i64 t.task.need.p, .slice A1 t.task.want.length c1, .slice A2 t.task.tols.length c2] : Array Value)[o]?) ∧ (∀ o, w'.cell? ⟨w4.heap.size, o, none⟩ = (#[.int .i64 t.kind, .int .i64 t.who, .int .i64 t.n, .bool t.works, .bool t.keep, .int .i64 t.task.id, .int .i64 t.task.prio, .int .i64 t.task.need.c, .int .i64 t.task.need.m, .int .i64 t.task.need.p, .slice D1 t.task.want.length d1, .slice D2 t.task.tols.length d2] : Array Value)[o]?))
    (exact HK.out _ (by repeat' (first | exact Below.refl _ _ | refine Below.alloc ?_ ?_ _ | refine Below.setCell ?_ ?_ _ | refine Below.drew ?_ | (apply below_step; assumption) | (simp; done) | (simp; omega) | omega)))
    (first
      | (go_at_call 6; refine (toEvent_any t _ _ _ (H1.out.below (below_of hC5 (by repeat' (first | exact Below.refl _ _ | refine Below.alloc ?_ ?_ _ | refine Below.setCell ?_ ?_ _ | refine Below.drew ?_ | (apply below_step; assumption) | (simp; done) | (simp; omega) | omega)))) (H2.out.below (below_of hC5 (by repeat' (first | exact Below.refl _ _ | refine Below.alloc ?_ ?_ _ | refine Below.setCell ?_ ?_ _ | refine Below.drew ?_ | (apply below_step; assumption) | (simp; done) | (simp; omega) | omega)))) L1.out L2.out).mono ?_; rintro e w6 ⟨u1, u2, rfl, sl6, si6, hb6⟩; have hz6 := hb6.size; try simp at hz6)
      | (go_at_call 8; refine (eqEvent_same t _ _ _ _ _ (SL5.out.below (by repeat' (first | exact Below.refl _ _ | refine Below.alloc ?_ ?_ _ | refine Below.setCell ?_ ?_ _ | refine Below.drew ?_ | (apply below_step; assumption) | (simp; done) | (simp; omega) | omega))) (SI5.out.below (by repeat' (first | exact Below.refl _ _ | refine Below.alloc ?_ ?_ _ | refine Below.setCell ?_ ?_ _ | refine Below.drew ?_ | (apply below_step; assumption) | (simp; done) | (simp; omega) | omega))) sl6 si6 L1.out L2.out).mono ?_; rintro e w7 ⟨rfl, hb7⟩; have hz7 := hb7.size; try simp at hz7))
  all_goals
    go_wp2_with fail
    go_ret
    exact ⟨rfl, below_of hC5 (by repeat' (first | exact Below.refl _ _ | refine Below.alloc ?_ ?_ _ | refine Below.setCell ?_ ?_ _ | refine Below.drew ?_ | (apply below_step; assumption) | (simp; done) | (simp; omega) | omega))⟩

theorem rowVars : ∀ n ∈ Rows.fnExactEventOkSpec.vars, ∃ g t ms, Tryd.prog.globalNamed n = some g ∧ (Tryd.prog.globals[g]?).map (·.type) = some t ∧ Tryd.prog.underlying t = some (.interface ms) := errVars
set_option maxRecDepth 100000 in
theorem contract (H : Type) (enc : TypeId × Value → H) (W : World) (base : Nat) (args : Array Value) (ds gs : List (DataW H)) (before : List MemPlace)
    (hval : ∀ (j : Nat) t v, Tryd.f3.params[j]? = some t → args[j]? = some v → Value.okWide Tryd.prog W .any base t v)
    (hW : DataW.Whole enc Tryd.prog Tryd.f3.params.toList Rows.fnExactEventOkSpec.vars false W args.toList ds gs before) (hL : laidMetH Tryd.prog Rows.fnExactEventOkRow.laid W) :
    Calls Tryd.prog 3 args W fun e W' => ∃ v, e = .returned v ∧ Rows.fnExactEventOkSpec.post enc Tryd.prog Tryd.f3 false true false false W args v W' := by
  have hW' := hW
  obtain ⟨p, q, hA0, hV, rfl, hfz, hnd⟩ := hW
  have hA : DataW.TrodAll enc Tryd.prog W 0 (fun _ => true) true Tryd.f3.params.toList args.toList ds p := hA0
  rw [Tryd.params3] at hA hval
  obtain ⟨v0, vs0, d0, ds0, p0, q0, hargs, rfl, rfl, h0, r0⟩ := trodAll_cons hA
  obtain ⟨rfl, rfl, rfl⟩ := trodAll_nil r0
  obtain rfl : args = #[v0] := by cases args; simp_all
  rw [MakeChecks.laidMetH_plain _ _ _ (by kernel_rfl)] at hL
  obtain ⟨a0, x0, y0, rfl, sl0, si0, ml0, mi0⟩ := open_event (hval 0 _ v0 rfl rfl) h0
  obtain ⟨gg, tt, cs, fuel, d, pp, rfl, _⟩ := trodVars_one hV
  obtain ⟨x, hg⟩ := errAt_of_laid hL
  have fin : Calls Tryd.prog 3 #[.agg #[.int .i64 a0.kind, .int .i64 a0.who, .int .i64 a0.n, .bool a0.works, .bool a0.keep, .int .i64 a0.task.id, .int .i64 a0.task.prio, .int .i64 a0.task.need.c, .int .i64 a0.task.need.m, .int .i64 a0.task.need.p, x0, y0]] W fun e w' => e = .returned (.bool true) ∧ Below W.heap.size W w' := by
    by_cases hs : a0.task.want.length + a0.task.tols.length ≤ 1048576
    · exact walk a0 x0 y0 W x hg sl0 si0 hs
    · exact walk_long a0 x0 y0 W sl0 si0 ml0 mi0 (by omega)
  refine fin.mono fun e W' ⟨he, hb⟩ => ?_
  subst he
  exact ⟨_, rfl, law_post Tryd.laidOut (by rw [Tryd.params3]; intro t ht; have k0 : Tryd.prog.readableRec 29 = true ∧ 29 < Tryd.prog.types.size := ⟨by kernel_rfl, of_decide_eq_true (by kernel_rfl)⟩; simp at ht; subst ht; exact k0) rowVars (tb := 4) rfl Tryd.underlying4 hW' rfl hb⟩

theorem door_met (os : Os) (args : Array Value) : laidMet Tryd.prog Rows.fnExactEventOkRow.laid ((World.doorLaid Tryd.prog 400 os).forCall (fun _ _ => 0) ⟨#[], args, []⟩).memory :=
  laidMet_of_run' 8 (by kernel_rfl) (by kernel_rfl)
set_option maxRecDepth 100000 in
theorem lifted (os : Os) (started : os.Started) (H : Type) (enc : TypeId × Value → H) (F : Stop.Interp) :
    ReturnsInHanded {} Tryd.checked os 3 .any ((OpenSpec.ofChange Rows.fnExactEventOkSpec).preRow enc Tryd.prog Tryd.f3 Rows.fnExactEventOkRow.domain false Rows.fnExactEventOkRow.laid) (((OpenSpec.ofChange Rows.fnExactEventOkSpec).at F).post enc Tryd.prog Tryd.f3 false true false false) := by
  refine returnsInHanded_of_row (C := Tryd.checked) (s := OpenSpec.ofChange Rows.fnExactEventOkSpec) Tryd.own started (by kernel_rfl) Tryd.func3
    (witness_row_atRef (enc := enc) (C := Tryd.checked) false (World.doorLaid Tryd.prog 400 os) #[.agg #[.int .i64 0, .int .i64 0, .int .i64 0, .bool false, .bool false, .int .i64 0, .int .i64 0, .int .i64 0, .int .i64 0, .int .i64 0, .slice none 0 0, .slice none 0 0]] rfl (by kernel_rfl) (by kernel_rfl) (by kernel_rfl)
      (OpenSpec.preRow_of_B rfl 8 (by kernel_rfl) (by kernel_rfl) (door_met os _))) ?_
  intro W base args ds gs before hval hW _ _ _ hL _ _
  exact contract H enc W base args ds gs before hval hW hL

theorem jIn : (Rows.fnExactEventOkRow.inPlace == Tryd.prog.inPlace 3) = true := by kernel_rfl
theorem jUn : (Rows.fnExactEventOkRow.unfollowed == Tryd.prog.unfollowed 3) = true := by kernel_rfl
theorem jRe : (Rows.fnExactEventOkRow.recurses == Tryd.prog.recurses 3) = true := by kernel_rfl
theorem jNa : (Rows.fnExactEventOkRow.named == Tryd.prog.varsNamed 3) = true := by kernel_rfl
theorem joined : joinedFacts Tryd.prog 3 Tryd.f3 (OpenSpec.ofChange Rows.fnExactEventOkSpec).bare Rows.fnExactEventOkRow = true :=
  joined_mk (by kernel_rfl) Tryd.laidOut pRowed (by kernel_rfl) (by kernel_rfl) rfl pStops rfl pKnobs jIn jUn jRe jNa (by kernel_rfl) (by kernel_rfl) (by kernel_rfl) (by kernel_rfl) (by kernel_rfl) (by kernel_rfl) (by kernel_rfl) (by kernel_rfl) (by kernel_rfl) pKeys (by kernel_rfl) pHeard pEnter pLifts pMake (by kernel_rfl) (by kernel_rfl) (by kernel_rfl) (by kernel_rfl)
theorem said : Rows.FnExactEventOkSaid :=
  OpenClaim.holds_of_cond 3 Tryd.f3 rfl rfl rfl rfl rfl rfl rfl ⟨rfl, rfl, rfl, rfl, rfl⟩ rfl rfl rfl rfl rfl (by kernel_rfl) Tryd.func3 joined
    (of_decide_eq_true (by kernel_rfl)) (by unfold Func.isWrapper; first | (rw [if_pos (by decide +kernel)]; kernel_rfl) | (rw [if_neg (by decide +kernel)]; exact ⟨rfl, rfl⟩))
    (fun os started H enc _ F => by rw [OpenClaim.pre_eq_preRow]; exact lifted os started H enc F)

theorem plain (f : FuncId) (fn : Func) (hf : Tryd.pinned.checked.prog.funcNamed "loop.example/g00718/laws.FnExactEventOk" = some f) (hfn : Tryd.pinned.checked.prog.funcs[f]? = some fn) :
    true = Tryd.pinned.checked.prog.looks [] ∧ ∀ (j : Nat) t, fn.params[j]? = some t → Tryd.pinned.checked.prog.wantsStandIn t = false := by
  obtain rfl : f = 3 := Option.some.inj ((show Tryd.prog.funcNamed "loop.example/g00718/laws.FnExactEventOk" = some 3 by kernel_rfl).symm.trans hf) |>.symm
  obtain rfl : fn = Tryd.f3 := (Option.some.inj (Tryd.func3.symm.trans hfn)).symm
  refine ⟨by kernel_rfl, fun j t ht => ?_⟩
  rw [Tryd.params3] at ht
  have hm := Array.mem_of_getElem? ht
  have k0 : Tryd.pinned.checked.prog.wantsStandIn 29 = false := (show Tryd.prog.wantsStandIn 29 = false by kernel_rfl)
  simp at hm
  subst hm; exact k0

/-- The card. -/
theorem card : Rows.FnExactEventOkCardSaid :=
  Claim7.holds_tied_plain_at .later [] _ _ _ _ said (fun _ h => by cases h) (by kernel_rfl) (fun _ h => by cases h) fnExactEventOk_row_tie rfl ⟨rfl, rfl⟩ (by kernel_rfl) rfl plain (by kernel_rfl)
end Go.Proofs.YtcegofdmdemcbaaDoor.fnExactEventOk
