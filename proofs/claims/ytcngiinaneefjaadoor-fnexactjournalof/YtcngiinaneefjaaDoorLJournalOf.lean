/- FnExactJournalOf answers true at every list of events: JournalOf and its model agree, the list is left as it was, and what is returned owns its memory. Tied to impl.errRange's text. -/
import Derived.Test.YtcngiinaneefjaaDoorMg02
import Derived.Test.YtcngiinaneefjaaDoorMg10
import Derived.Test.YtcngiinaneefjaaDoorMarkE
namespace Go.Proofs.YtcngiinaneefjaaDoor.fnExactJournalOf
open Go.ChangeShapes Go.WideShapes Go.ChangeAt Go.RowKit Go.Joins

theorem journalV_len (l : List EV) : (journalV l).length ≤ 41700 := by
  unfold journalV
  split
  · rename_i h
    have h1 := journalB_len l
    unfold journalOk at h
    simp only [Bool.and_eq_true, decide_eq_true_eq] at h
    omega
  · simp
set_option maxHeartbeats 6400000 in
set_option maxRecDepth 20000 in
theorem walk (v : Value) (l : List EV) (w : World) (x : Addr) (hg : ErrAt x w) (hq : GSl EventQ 12 w v l) (hm : l.length ≤ maxLen) :
    Calls Tryd.prog 7 #[v] w fun e w' => e = .returned (.bool true) ∧ Below w.heap.size w w' := by
  have HQ := Lib.hid hq
  have HG := Lib.hid hg
  obtain ⟨A, c, rfl, _⟩ := hq.form
  have so := fun hlen v w hv => sJournalOf_any v l w hv hlen
  have io := fun hlen v w hg hv => JournalOf_any v l w x hg hv hlen
  have hLn := journalV_len l
  have hsm0 := sumEvent_nonneg l
  unfold RetJour at so io
  generalize journalOk l = ok at so io
  generalize journalV l = L at so io hLn
  have hL : L.length ≤ 1048576 := by omega
  have hne : (ok != ok) = false := by simp
  have SO := Lib.hid so
  have IO := Lib.hid io
  clear so io hq hg hLn
  go_enter Tryd.func7, Tryd.ntmps7
  go_wp2_with fail
  refine (szEventS_any _ l 1048576 _ HQ.out hm (by omega) (by omega)).mono ?_
  rintro e w1 ⟨⟨y, rfl, hy⟩, hC1⟩
  rcases hy with rfl | ⟨y0, y1, hlen, hall⟩
  · go_wp2_with fail
    go_ret
    exact ⟨rfl, hC1⟩
  have HL := Lib.hid (show EventSl w (.slice A l.length c) l from HQ.out.small (fun t ht cs h => by
    obtain ⟨v1, v2, e, a, b, _, _⟩ := h
    obtain ⟨s1, s2⟩ := hall t ht
    exact ⟨v1, v2, e, a, b, s1, s2⟩))
  have hy0 : decide (y < 0) = false := by simp; omega
  clear hall HQ hm
  go_wp2_with fail
  refine (toEventS_any _ l _ (HL.out.below hC1) hlen).mono ?_
  rintro e w2 ⟨rfl, hN2, hb2⟩
  have hC2 := below_of hC1 hb2
  have S2 := Lib.hid (show EventSl w2 _ l from hN2.sl (fun _ _ h => h.r))
  clear hN2 hb2
  go_wp2_with fail
  refine (SO.out hlen _ _ S2.out).mono ?_
  rintro e w3 ⟨v0, rfl, hv0, hb3⟩
  have hC3 := below_of hC2 hb3
  have HV0 := Lib.hid hv0.o
  obtain ⟨V0, cp0, rfl, -⟩ := own_form hv0.o
  clear hb3 S2 hv0
  go_wp2_with fail
  refine (toEventS_o _ l _ (HL.out.below hC3) hlen).mono ?_
  rintro e w4 ⟨bs, rfl, hro, hnd, hlo, hb4⟩
  have hC4 := below_of hC3 hb4
  have HR4 := Lib.hid hro
  have HBS := Lib.hid (show ∀ b ∈ bs, w3.heap.size ≤ b ∧ b < w4.heap.size from fun b hb => ⟨hlo b hb, rowO_lt (fun _ _ _ h => h.lt) hro b hb⟩)
  have HND := Lib.hid hnd
  have HVL := Lib.hid (own_lt HV0.out)
  have HV4 := Lib.hid (show BytO w4 _ L from own_agree HV0.out (Agree.of_below hb4 HVL.out))
  have hb4s := hb4.size
  clear hb4 hro hnd hlo HV0
  go_wp2_with fail
  refine (IO.out hlen _ _ (HG.out.below hC4 (Nat.le_refl _)) (show EventSl w4 _ l from HR4.out.sl (fun _ _ _ h => h.len) (fun _ _ _ h => h.r))).mono ?_
  rintro e w5 ⟨u1, rfl, hu1, hb5⟩
  have hC5 := below_of hC4 hb5
  have HR5 := Lib.hid (HR4.out.agree EventO.framed (Agree.of_below hb5 (fun b hb => (HBS.out b hb).2)))
  have HV5 := Lib.hid (show BytO w5 _ L from own_agree HV4.out (Agree.of_below hb5 (own_lt HV4.out)))
  have HG5 := Lib.hid hu1.o
  have HGL := Lib.hid hu1.low
  obtain ⟨V1, cp1, rfl, -⟩ := own_form hu1.o
  clear hb5 HR4 HV4 hu1
  go_wp2_with fail
  refine (eqByteS_same _ _ L _ HG5.out.sl HV5.out.sl hL).mono ?_
  rintro e w6 ⟨rfl, hb6⟩
  have hC6 := below_of hC5 hb6
  have HR6 := Lib.hid (HR5.out.agree EventO.framed (Agree.of_below hb6 (rowO_lt (fun _ _ _ h => h.lt) HR5.out)))
  have HV6 := Lib.hid (show BytO w6 _ L from own_agree HV5.out (Agree.of_below hb6 (own_lt HV5.out)))
  have HG6 := Lib.hid (show BytO w6 _ L from own_agree HG5.out (Agree.of_below hb6 (own_lt HG5.out)))
  clear hb6 HR5 HV5 HG5
  go_wp2_with fail
  refine (toEventS_any _ l _ (HL.out.below hC6) hlen).mono ?_
  rintro e w7 ⟨rfl, hN7, hb7⟩
  have hC7 := below_of hC6 hb7
  have S7 := Lib.hid (show EventSl w7 _ l from hN7.sl (fun _ _ h => h.r))
  have HR7 := Lib.hid (HR6.out.agree EventO.framed (Agree.of_below hb7 (rowO_lt (fun _ _ _ h => h.lt) HR6.out)))
  have HV7 := Lib.hid (show BytO w7 _ L from own_agree HV6.out (Agree.of_below hb7 (own_lt HV6.out)))
  have HG7 := Lib.hid (show BytO w7 _ L from own_agree HG6.out (Agree.of_below hb7 (own_lt HG6.out)))
  clear hN7 hb7 HR6 HV6 HG6
  go_wp2_with fail
  refine (eqEventS_same _ _ l _ (show EventSl w7 _ l from HR7.out.sl (fun _ _ _ h => h.len) (fun _ _ _ h => h.r)) S7.out hlen).mono ?_
  rintro e w8 ⟨rfl, hb8⟩
  have hC8 := below_of hC7 hb8
  have HR8 := Lib.hid (HR7.out.agree EventO.framed (Agree.of_below hb8 (rowO_lt (fun _ _ _ h => h.lt) HR7.out)))
  have HV8 := Lib.hid (show BytO w8 _ L from own_agree HV7.out (Agree.of_below hb8 (own_lt HV7.out)))
  have HG8 := Lib.hid (show BytO w8 _ L from own_agree HG7.out (Agree.of_below hb8 (own_lt HG7.out)))
  clear hb8 HR7 HV7 HG7 S7
  go_wp2_with fail
  refine (markEventS_any _ l bs 1 _ HR8.out HND.out (by omega) (by omega) (by omega)).mono ?_
  rintro e w9 ⟨rfl, hT9⟩
  have hC9 : Below w.heap.size w w9 := hC8.trans (hT9.below hC8.size (fun b hb => Nat.le_trans hC3.size (HBS.out b hb).1))
  have HV9 := Lib.hid (show BytO w9 _ L from own_agree HV8.out (hT9.agree (fun b hb => ⟨own_lt HV8.out b hb, fun hx => by have := (HBS.out b hx).1; have := HVL.out b hb; omega⟩)))
  have HG9 := Lib.hid (show BytO w9 _ L from own_agree HG8.out (hT9.agree (fun b hb => ⟨own_lt HG8.out b hb, fun hx => by have := (HBS.out b hx).2; have := HGL.out b hb; omega⟩)))
  have hm1 : decide (1 + sumEvent l < 0) = false := by simp; omega
  clear hT9 HV8 HG8 HR8
  go_wp2_with fail
  refine (eqByteS_same _ _ L _ HG9.out.sl HV9.out.sl hL).mono ?_
  rintro e w10 ⟨rfl, hb10⟩
  have hC10 := below_of hC9 hb10
  have HV10 := Lib.hid (show BytO w10 _ L from own_agree HV9.out (Agree.of_below hb10 (own_lt HV9.out)))
  have HG10 := Lib.hid (show BytO w10 _ L from own_agree HG9.out (Agree.of_below hb10 (own_lt HG9.out)))
  clear hb10 HV9 HG9 hm1
  go_wp2_with fail
  refine (markByteS_any _ L 1 _ HG10.out hL (by omega) (by omega)).mono ?_
  rintro e w11 ⟨rfl, hI11, hg11⟩
  have hT11 : TurnB (blk (.slice V1 L.length cp1)) w10 w11 := TurnB.of_grown hg11 (fun k e => blk_mem e)
  have hC11 : Below w.heap.size w w11 := hC10.trans (hT11.below hC10.size (fun b hb => by have := HGL.out b hb; have := hC4.size; omega))
  have HV11 := Lib.hid (show BytO w11 _ L from own_agree HV10.out (hT11.agree (fun b hb => ⟨own_lt HV10.out b hb, fun hx => by have := HGL.out b hx; have := HVL.out b hb; have := hb4s; omega⟩)))
  have HI11 := Lib.hid (show BytO w11 _ _ from hI11)
  clear hT11 HV10 HG10 hI11 hg11
  have hn11 : ((1 + (L.length : Int)) != (1 + (L.length : Int))) = false := by simp
  have hm11 : decide ((1 + (L.length : Int)) < 0) = false := by simp; omega
  have hHE := fun w1 (h : BytSl w1 (.slice V1 L.length cp1) (mByts 1 L.length)) => heldByteS_any (.slice V1 L.length cp1) L.length 1 w1 h hL (by omega) (by omega)
  have HHE := Lib.hid hHE
  clear hHE
  go_wp2_with fail
  refine (HHE.out _ HI11.out.sl).mono ?_
  rintro e w12 ⟨rfl, rfl⟩
  go_wp2_with fail
  refine (toEventS_any _ l _ (HL.out.below hC11) hlen).mono ?_
  rintro e w13 ⟨rfl, hN13, hb13⟩
  have hC13 := below_of hC11 hb13
  have S13 := Lib.hid (show EventSl w13 _ l from hN13.sl (fun _ _ h => h.r))
  have HV13 := Lib.hid (show BytO w13 _ L from own_agree HV11.out (Agree.of_below hb13 (own_lt HV11.out)))
  have HI13 := Lib.hid (show BytO w13 _ _ from own_agree HI11.out (Agree.of_below hb13 (own_lt HI11.out)))
  clear hb13 HV11 HI11 hN13
  go_wp2_with fail
  refine (IO.out hlen _ _ (HG.out.below hC13 (Nat.le_refl _)) S13.out).mono ?_
  rintro e w14 ⟨u2, rfl, hu2, hb14⟩
  have hC14 := below_of hC13 hb14
  have HV14 := Lib.hid (show BytO w14 _ L from own_agree HV13.out (Agree.of_below hb14 (own_lt HV13.out)))
  have HI14 := Lib.hid (show BytO w14 _ _ from own_agree HI13.out (Agree.of_below hb14 (own_lt HI13.out)))
  have HH14 := Lib.hid hu2.o
  obtain ⟨V2, cp2, rfl, -⟩ := own_form hu2.o
  clear hb14 hu2 HV13 HI13 S13
  go_wp2_with fail
  refine (eqByteS_same _ _ L _ HH14.out.sl HV14.out.sl hL).mono ?_
  rintro e w15 ⟨rfl, hb15⟩
  have hC15 := below_of hC14 hb15
  have HI15 := Lib.hid (show BytO w15 _ _ from own_agree HI14.out (Agree.of_below hb15 (own_lt HI14.out)))
  clear hb15 HV14 HI14 HH14
  go_wp2_with fail
  refine (HHE.out _ HI15.out.sl).mono ?_
  rintro e w16 ⟨rfl, rfl⟩
  go_wp2_with fail
  go_ret
  exact ⟨rfl, hC15⟩

theorem rowVars : ∀ n ∈ Rows.fnExactJournalOfSpec.vars, ∃ g t ms, Tryd.prog.globalNamed n = some g ∧ (Tryd.prog.globals[g]?).map (·.type) = some t ∧ Tryd.prog.underlying t = some (.interface ms) := errVars
set_option maxRecDepth 100000 in
theorem contract (H : Type) (enc : TypeId × Value → H) (W : World) (base : Nat) (args : Array Value) (ds gs : List (DataW H)) (before : List MemPlace)
    (hval : ∀ (j : Nat) t v, Tryd.f7.params[j]? = some t → args[j]? = some v → Value.okWide Tryd.prog W .any base t v)
    (hW : DataW.Whole enc Tryd.prog Tryd.f7.params.toList Rows.fnExactJournalOfSpec.vars false W args.toList ds gs before) (hL : laidMetH Tryd.prog Rows.fnExactJournalOfRow.laid W) :
    Calls Tryd.prog 7 args W fun e W' => ∃ v, e = .returned v ∧ Rows.fnExactJournalOfSpec.post enc Tryd.prog Tryd.f7 false true false false W args v W' := by
  have hW' := hW
  obtain ⟨p, q, hA0, hV, rfl, hfz, hnd⟩ := hW
  have hA : DataW.TrodAll enc Tryd.prog W 0 (fun _ => true) true Tryd.f7.params.toList args.toList ds p := hA0
  rw [Tryd.params7] at hA hval
  obtain ⟨v0, vs0, d0, ds0, p0, q0, hargs, rfl, rfl, h0, r0⟩ := trodAll_cons hA
  obtain ⟨rfl, rfl, rfl⟩ := trodAll_nil r0
  obtain rfl : args = #[v0] := by cases args; simp_all
  rw [MakeChecks.laidMetH_plain _ _ _ (by kernel_rfl)] at hL
  obtain ⟨a0, m0, q0⟩ := open_events (hval 0 _ v0 rfl rfl) h0
  obtain ⟨gg, tt, cs, fuel, d, pp, rfl, _⟩ := trodVars_one hV
  obtain ⟨x, hg⟩ := errAt_of_laid hL
  have fin := walk v0 a0 W x hg q0 m0
  refine fin.mono fun e W' ⟨he, hb⟩ => ?_
  subst he
  exact ⟨_, rfl, law_post Tryd.laidOut (by rw [Tryd.params7]; intro t ht; have k0 : Tryd.prog.readableRec 58 = true ∧ 58 < Tryd.prog.types.size := ⟨by kernel_rfl, of_decide_eq_true (by kernel_rfl)⟩; simp at ht; subst ht; exact k0) rowVars (tb := 4) rfl Tryd.underlying4 hW' rfl hb⟩

theorem door_met (os : Os) (args : Array Value) : laidMet Tryd.prog Rows.fnExactJournalOfRow.laid ((World.doorLaid Tryd.prog 400 os).forCall (fun _ _ => 0) ⟨#[], args, []⟩).memory :=
  laidMet_of_run' 8 (by kernel_rfl) (by kernel_rfl)
set_option maxRecDepth 100000 in
theorem lifted (os : Os) (started : os.Started) (H : Type) (enc : TypeId × Value → H) (F : Stop.Interp) :
    ReturnsInHanded {} Tryd.checked os 7 .any ((OpenSpec.ofChange Rows.fnExactJournalOfSpec).preRow enc Tryd.prog Tryd.f7 Rows.fnExactJournalOfRow.domain false Rows.fnExactJournalOfRow.laid) (((OpenSpec.ofChange Rows.fnExactJournalOfSpec).at F).post enc Tryd.prog Tryd.f7 false true false false) := by
  refine returnsInHanded_of_row (C := Tryd.checked) (s := OpenSpec.ofChange Rows.fnExactJournalOfSpec) Tryd.own started (by kernel_rfl) Tryd.func7
    (witness_row_atRef (enc := enc) (C := Tryd.checked) false (World.doorLaid Tryd.prog 400 os) #[.slice none 0 0] rfl (by kernel_rfl) (by kernel_rfl) (by kernel_rfl)
      (OpenSpec.preRow_of_B rfl 8 (by kernel_rfl) (by kernel_rfl) (door_met os _))) ?_
  intro W base args ds gs before hval hW _ _ _ hL _ _
  exact contract H enc W base args ds gs before hval hW hL

theorem jIn : (Rows.fnExactJournalOfRow.inPlace == Tryd.prog.inPlace 7) = true := by kernel_rfl
theorem jUn : (Rows.fnExactJournalOfRow.unfollowed == Tryd.prog.unfollowed 7) = true := by kernel_rfl
theorem jRe : (Rows.fnExactJournalOfRow.recurses == Tryd.prog.recurses 7) = true := by kernel_rfl
theorem jNa : (Rows.fnExactJournalOfRow.named == Tryd.prog.varsNamed 7) = true := by kernel_rfl
theorem joined : joinedFacts Tryd.prog 7 Tryd.f7 (OpenSpec.ofChange Rows.fnExactJournalOfSpec).bare Rows.fnExactJournalOfRow = true :=
  joined_mk (by kernel_rfl) Tryd.laidOut pRowed (by kernel_rfl) (by kernel_rfl) rfl pStops rfl pKnobs jIn jUn jRe jNa (by kernel_rfl) (by kernel_rfl) (by kernel_rfl) (by kernel_rfl) (by kernel_rfl) (by kernel_rfl) (by kernel_rfl) (by kernel_rfl) (by kernel_rfl) pKeys (by kernel_rfl) pHeard pEnter pLifts pMake (by kernel_rfl) (by kernel_rfl) (by kernel_rfl) (by kernel_rfl)
theorem said : Rows.FnExactJournalOfSaid :=
  OpenClaim.holds_of_cond 7 Tryd.f7 rfl rfl rfl rfl rfl rfl rfl ⟨rfl, rfl, rfl, rfl, rfl⟩ rfl rfl rfl rfl rfl (by kernel_rfl) Tryd.func7 joined
    (of_decide_eq_true (by kernel_rfl)) (by unfold Func.isWrapper; first | (rw [if_pos (by decide +kernel)]; kernel_rfl) | (rw [if_neg (by decide +kernel)]; exact ⟨rfl, rfl⟩))
    (fun os started H enc _ F => by rw [OpenClaim.pre_eq_preRow]; exact lifted os started H enc F)

theorem plain (f : FuncId) (fn : Func) (hf : Tryd.pinned.checked.prog.funcNamed "loop.example/g00718/laws.FnExactJournalOf" = some f) (hfn : Tryd.pinned.checked.prog.funcs[f]? = some fn) :
    true = Tryd.pinned.checked.prog.looks [] ∧ ∀ (j : Nat) t, fn.params[j]? = some t → Tryd.pinned.checked.prog.wantsStandIn t = false := by
  obtain rfl : f = 7 := Option.some.inj ((show Tryd.prog.funcNamed "loop.example/g00718/laws.FnExactJournalOf" = some 7 by kernel_rfl).symm.trans hf) |>.symm
  obtain rfl : fn = Tryd.f7 := (Option.some.inj (Tryd.func7.symm.trans hfn)).symm
  refine ⟨by kernel_rfl, fun j t ht => ?_⟩
  rw [Tryd.params7] at ht
  have hm := Array.mem_of_getElem? ht
  have k0 : Tryd.pinned.checked.prog.wantsStandIn 58 = false := (show Tryd.prog.wantsStandIn 58 = false by kernel_rfl)
  simp at hm
  subst hm; exact k0

theorem card : Rows.FnExactJournalOfCardSaid :=
  Claim7.holds_tied_plain_at .later [] _ _ _ _ said (fun _ h => by cases h) (by kernel_rfl) (fun _ h => by cases h) fnExactJournalOf_row_tie rfl ⟨rfl, rfl⟩ (by kernel_rfl) rfl plain (by kernel_rfl)
end Go.Proofs.YtcngiinaneefjaaDoor.fnExactJournalOf
