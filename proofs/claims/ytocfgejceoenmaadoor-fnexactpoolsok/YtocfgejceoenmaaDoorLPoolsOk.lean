/- FnExactPoolsOk answers true at every list of pools: PoolsOk and its model agree, and the list is left as it was. Tied to impl.errRange's text. -/
import Derived.Test.YtocfgejceoenmaaDoorResRow
import Derived.Test.YtocfgejceoenmaaDoorPoolS
namespace Go.Proofs.YtocfgejceoenmaaDoor.fnExactPoolsOk
open Go.ChangeShapes Go.WideShapes Go.ChangeAt Go.RowKit Go.Joins

set_option maxHeartbeats 3200000 in
theorem walk (v : Value) (l : List PV) (w : World) (x : Addr) (hg : ErrAt x w) (hq : GSl PoolQ 12 w v l) (hm : l.length ≤ maxLen) :
    Calls Tryd.prog 4 #[v] w fun e w' => e = .returned (.bool true) ∧ Below w.heap.size w w' := by
  have HQ := Lib.hid hq
  have HG := Lib.hid hg
  obtain ⟨A, c, rfl, _⟩ := hq.form
  have hs := fun hlen v w hv => sPoolsOk_any v l w hv hlen
  have hi := fun hlen v w hg hv => PoolsOk_any v l w x hg hv hlen
  generalize poolsOk l = ok at hs hi
  have hne : (ok != ok) = false := by simp
  have HS := Lib.hid hs
  have HI := Lib.hid hi
  clear hs hi hq hg
  go_enter Tryd.func4, Tryd.ntmps4
  go_wp2_with fail
  refine (szPoolS_any _ l 1048576 _ HQ.out hm (by omega) (by omega)).mono ?_
  rintro e w1 ⟨⟨y, rfl, hy⟩, hC1⟩
  rcases hy with rfl | ⟨y0, y1, hlen, hall⟩
  · go_wp2_with fail
    go_ret
    exact ⟨rfl, hC1⟩
  have HL := Lib.hid (show PoolSl w (.slice A l.length c) l from HQ.out.small (fun t ht cs h => by
    obtain ⟨v1, v2, e, a, b, _, _⟩ := h
    obtain ⟨s1, s2⟩ := hall t ht
    exact ⟨v1, v2, e, a, b, s1, s2⟩))
  have hy0 : decide (y < 0) = false := by simp; omega
  clear hall HQ hm
  go_wp2_with fail
  refine (toPoolS_any _ l _ (HL.out.below hC1) hlen).mono ?_
  rintro e w2 ⟨rfl, hN2, hb2⟩
  have hC2 := below_of hC1 hb2
  have S2 := Lib.hid (show PoolSl w2 _ l from hN2.sl (fun _ _ h => h.r))
  clear hN2 hb2
  go_wp2_with fail
  refine (HS.out hlen _ _ S2.out).mono ?_
  rintro e w3 ⟨rfl, hb3⟩
  have hC3 := below_of hC2 hb3
  clear hb3 S2
  go_wp2_with fail
  refine (toPoolS_any _ l _ (HL.out.below hC3) hlen).mono ?_
  rintro e w4 ⟨rfl, hN4, hb4⟩
  have hC4 := below_of hC3 hb4
  have S4 := Lib.hid (show PoolSl w4 _ l from hN4.sl (fun _ _ h => h.r))
  clear hN4 hb4
  go_wp2_with fail
  refine (HI.out hlen _ _ (HG.out.below hC4 (Nat.le_refl _)) S4.out).mono ?_
  rintro e w5 ⟨rfl, hb5⟩
  have hC5 := below_of hC4 hb5
  have S5 := Lib.hid (S4.out.below hb5)
  clear hb5 S4
  go_wp2_with fail
  refine (toPoolS_any _ l _ (HL.out.below hC5) hlen).mono ?_
  rintro e w6 ⟨rfl, hN6, hb6⟩
  have hC6 := below_of hC5 hb6
  have S6 := Lib.hid (show PoolSl w6 _ l from hN6.sl (fun _ _ h => h.r))
  have S56 := Lib.hid (S5.out.below hb6)
  clear hN6 hb6 S5
  go_wp2_with fail
  refine (eqPoolS_same _ _ l _ S56.out S6.out hlen).mono ?_
  rintro e w7 ⟨rfl, hb7⟩
  have hC7 := below_of hC6 hb7
  go_wp2_with fail
  go_ret
  exact ⟨rfl, hC7⟩

theorem rowVars : ∀ n ∈ Rows.fnExactPoolsOkSpec.vars, ∃ g t ms, Tryd.prog.globalNamed n = some g ∧ (Tryd.prog.globals[g]?).map (·.type) = some t ∧ Tryd.prog.underlying t = some (.interface ms) := errVars
set_option maxRecDepth 100000 in
theorem contract (H : Type) (enc : TypeId × Value → H) (W : World) (base : Nat) (args : Array Value) (ds gs : List (DataW H)) (before : List MemPlace)
    (hval : ∀ (j : Nat) t v, Tryd.f4.params[j]? = some t → args[j]? = some v → Value.okWide Tryd.prog W .any base t v)
    (hW : DataW.Whole enc Tryd.prog Tryd.f4.params.toList Rows.fnExactPoolsOkSpec.vars false W args.toList ds gs before) (hL : laidMetH Tryd.prog Rows.fnExactPoolsOkRow.laid W) :
    Calls Tryd.prog 4 args W fun e W' => ∃ v, e = .returned v ∧ Rows.fnExactPoolsOkSpec.post enc Tryd.prog Tryd.f4 false true false false W args v W' := by
  have hW' := hW
  obtain ⟨p, q, hA0, hV, rfl, hfz, hnd⟩ := hW
  have hA : DataW.TrodAll enc Tryd.prog W 0 (fun _ => true) true Tryd.f4.params.toList args.toList ds p := hA0
  rw [Tryd.params4] at hA hval
  obtain ⟨v0, vs0, d0, ds0, p0, q0, hargs, rfl, rfl, h0, r0⟩ := trodAll_cons hA
  obtain ⟨rfl, rfl, rfl⟩ := trodAll_nil r0
  obtain rfl : args = #[v0] := by cases args; simp_all
  rw [MakeChecks.laidMetH_plain _ _ _ (by kernel_rfl)] at hL
  obtain ⟨a0, m0, q0⟩ := open_pools (hval 0 _ v0 rfl rfl) h0
  obtain ⟨gg, tt, cs, fuel, d, pp, rfl, _⟩ := trodVars_one hV
  obtain ⟨x, hg⟩ := errAt_of_laid hL
  have fin := walk v0 a0 W x hg q0 m0
  refine fin.mono fun e W' ⟨he, hb⟩ => ?_
  subst he
  exact ⟨_, rfl, law_post Tryd.laidOut (by rw [Tryd.params4]; intro t ht; have k0 : Tryd.prog.readableRec 41 = true ∧ 41 < Tryd.prog.types.size := ⟨by kernel_rfl, of_decide_eq_true (by kernel_rfl)⟩; simp at ht; subst ht; exact k0) rowVars (tb := 4) rfl Tryd.underlying4 hW' rfl hb⟩

theorem door_met (os : Os) (args : Array Value) : laidMet Tryd.prog Rows.fnExactPoolsOkRow.laid ((World.doorLaid Tryd.prog 400 os).forCall (fun _ _ => 0) ⟨#[], args, []⟩).memory :=
  laidMet_of_run' 8 (by kernel_rfl) (by kernel_rfl)
set_option maxRecDepth 100000 in
theorem lifted (os : Os) (started : os.Started) (H : Type) (enc : TypeId × Value → H) (F : Stop.Interp) :
    ReturnsInHanded {} Tryd.checked os 4 .any ((OpenSpec.ofChange Rows.fnExactPoolsOkSpec).preRow enc Tryd.prog Tryd.f4 Rows.fnExactPoolsOkRow.domain false Rows.fnExactPoolsOkRow.laid) (((OpenSpec.ofChange Rows.fnExactPoolsOkSpec).at F).post enc Tryd.prog Tryd.f4 false true false false) := by
  refine returnsInHanded_of_row (C := Tryd.checked) (s := OpenSpec.ofChange Rows.fnExactPoolsOkSpec) Tryd.own started (by kernel_rfl) Tryd.func4
    (witness_row_atRef (enc := enc) (C := Tryd.checked) false (World.doorLaid Tryd.prog 400 os) #[.slice none 0 0] rfl (by kernel_rfl) (by kernel_rfl) (by kernel_rfl)
      (OpenSpec.preRow_of_B rfl 8 (by kernel_rfl) (by kernel_rfl) (door_met os _))) ?_
  intro W base args ds gs before hval hW _ _ _ hL _ _
  exact contract H enc W base args ds gs before hval hW hL

theorem jIn : (Rows.fnExactPoolsOkRow.inPlace == Tryd.prog.inPlace 4) = true := by kernel_rfl
theorem jUn : (Rows.fnExactPoolsOkRow.unfollowed == Tryd.prog.unfollowed 4) = true := by kernel_rfl
theorem jRe : (Rows.fnExactPoolsOkRow.recurses == Tryd.prog.recurses 4) = true := by kernel_rfl
theorem jNa : (Rows.fnExactPoolsOkRow.named == Tryd.prog.varsNamed 4) = true := by kernel_rfl
theorem joined : joinedFacts Tryd.prog 4 Tryd.f4 (OpenSpec.ofChange Rows.fnExactPoolsOkSpec).bare Rows.fnExactPoolsOkRow = true :=
  joined_mk (by kernel_rfl) Tryd.laidOut pRowed (by kernel_rfl) (by kernel_rfl) rfl pStops rfl pKnobs jIn jUn jRe jNa (by kernel_rfl) (by kernel_rfl) (by kernel_rfl) (by kernel_rfl) (by kernel_rfl) (by kernel_rfl) (by kernel_rfl) (by kernel_rfl) (by kernel_rfl) pKeys (by kernel_rfl) pHeard pEnter pLifts pMake (by kernel_rfl) (by kernel_rfl) (by kernel_rfl) (by kernel_rfl)
theorem said : Rows.FnExactPoolsOkSaid :=
  OpenClaim.holds_of_cond 4 Tryd.f4 rfl rfl rfl rfl rfl rfl rfl ⟨rfl, rfl, rfl, rfl, rfl⟩ rfl rfl rfl rfl rfl (by kernel_rfl) Tryd.func4 joined
    (of_decide_eq_true (by kernel_rfl)) (by unfold Func.isWrapper; first | (rw [if_pos (by decide +kernel)]; kernel_rfl) | (rw [if_neg (by decide +kernel)]; exact ⟨rfl, rfl⟩))
    (fun os started H enc _ F => by rw [OpenClaim.pre_eq_preRow]; exact lifted os started H enc F)

theorem plain (f : FuncId) (fn : Func) (hf : Tryd.pinned.checked.prog.funcNamed "loop.example/g00718/laws.FnExactPoolsOk" = some f) (hfn : Tryd.pinned.checked.prog.funcs[f]? = some fn) :
    true = Tryd.pinned.checked.prog.looks [] ∧ ∀ (j : Nat) t, fn.params[j]? = some t → Tryd.pinned.checked.prog.wantsStandIn t = false := by
  obtain rfl : f = 4 := Option.some.inj ((show Tryd.prog.funcNamed "loop.example/g00718/laws.FnExactPoolsOk" = some 4 by kernel_rfl).symm.trans hf) |>.symm
  obtain rfl : fn = Tryd.f4 := (Option.some.inj (Tryd.func4.symm.trans hfn)).symm
  refine ⟨by kernel_rfl, fun j t ht => ?_⟩
  rw [Tryd.params4] at ht
  have hm := Array.mem_of_getElem? ht
  have k0 : Tryd.pinned.checked.prog.wantsStandIn 41 = false := (show Tryd.prog.wantsStandIn 41 = false by kernel_rfl)
  simp at hm
  subst hm; exact k0

/-- The card. -/
theorem card : Rows.FnExactPoolsOkCardSaid :=
  Claim7.holds_tied_plain_at .later [] _ _ _ _ said (fun _ h => by cases h) (by kernel_rfl) (fun _ h => by cases h) fnExactPoolsOk_row_tie rfl ⟨rfl, rfl⟩ (by kernel_rfl) rfl plain (by kernel_rfl)
end Go.Proofs.YtocfgejceoenmaaDoor.fnExactPoolsOk
