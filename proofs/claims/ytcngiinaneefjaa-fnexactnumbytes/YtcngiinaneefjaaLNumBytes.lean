/- FnExactNumBytes answers true at every integer: NumBytes and its model give the same bytes, and each answer owns its memory. No condition. -/
import Derived.Test.YtcngiinaneefjaaNumS
import Derived.Test.YtcngiinaneefjaaRowBase
import Derived.Test.YtcngiinaneefjaaRowStep
namespace Go.Proofs.Ytcngiinaneefjaa.fnExactNumBytes
open Go.ChangeShapes Go.WideShapes Go.ChangeAt Go.RowKit Go.Joins

set_option maxHeartbeats 3200000 in
theorem walk (n : Int) (w : World) :
    Calls Try.prog 4 #[.int .i64 n] w fun e w' => e = .returned (.bool true) ∧ Below w.heap.size w w' := by
  have so := fun w => sNumBytes_any n w
  have io := fun w => NumBytes_any n w
  have hL := numBytes_len n
  generalize numBytes n = L at so io hL
  have SO := Lib.hid so
  have IO := Lib.hid io
  clear so io
  go_enter Try.func4, Try.ntmps4
  go_wp2_with fail
  refine (SO.out _).mono ?_
  rintro e w1 ⟨v0, rfl, hv0, hb1⟩
  have HV1 := Lib.hid hv0.o
  have HVL := Lib.hid (own_lt hv0.o)
  obtain ⟨V0, cp0, rfl, -⟩ := own_form hv0.o
  clear hv0
  go_wp2_with fail
  refine (IO.out _).mono ?_
  rintro e w2 ⟨v1, rfl, hv1, hb2⟩
  have hC2 := below_of hb1 hb2
  have HV2 := Lib.hid (show BytO w2 _ L from own_agree HV1.out (Agree.of_below hb2 HVL.out))
  have HG2 := Lib.hid hv1.o
  have HGL := Lib.hid (show ∀ b ∈ blk v1, w1.heap.size ≤ b from hv1.low)
  obtain ⟨V1, cp1, rfl, -⟩ := own_form hv1.o
  have hw1 := hb1.size
  clear hv1 hb1 hb2 HV1
  go_wp2_with fail
  refine (eqByteS_same _ _ L _ HG2.out.sl HV2.out.sl (by omega)).mono ?_
  rintro e w3 ⟨rfl, hb3⟩
  have hC3 := below_of hC2 hb3
  have HV3 := Lib.hid (show BytO w3 _ L from own_agree HV2.out (Agree.of_below hb3 (own_lt HV2.out)))
  have HG3 := Lib.hid (show BytO w3 _ L from own_agree HG2.out (Agree.of_below hb3 (own_lt HG2.out)))
  clear hb3 HV2 HG2 hC2
  go_wp2_with fail
  refine (markByteS_any _ L 1 _ HG3.out (by omega) (by omega) (by omega)).mono ?_
  rintro e w4 ⟨rfl, hI4, hg4⟩
  have hT4 : TurnB (blk (.slice V1 L.length cp1)) w3 w4 := TurnB.of_grown hg4 (fun k e => by unfold blk; rw [e]; exact List.mem_singleton_self k)
  have hC4 : Below w.heap.size w w4 := hC3.trans (hT4.below hC3.size (fun b hb => by have := HGL.out b hb; omega))
  have HV4 := Lib.hid (show BytO w4 _ L from own_agree HV3.out (hT4.agree (fun b hb => ⟨own_lt HV3.out b hb, fun hx => by have := HGL.out b hx; have := HVL.out b hb; omega⟩)))
  have HI4 := Lib.hid (show BytO w4 _ _ from hI4)
  clear hT4 hI4 hg4 HV3 HG3 hC3
  have hn11 : ((1 + (L.length : Int)) != (1 + (L.length : Int))) = false := by simp
  have hm11 : ¬ ((1 + (L.length : Int)) < 0) := by omega
  have hHE := fun w1 (h : BytSl w1 (.slice V1 L.length cp1) (mByts 1 L.length)) => heldByteS_any (.slice V1 L.length cp1) L.length 1 w1 h (by omega) (by omega) (by omega)
  have HHE := Lib.hid hHE
  clear hHE
  go_wp2_with fail
  refine (HHE.out _ HI4.out.sl).mono ?_
  rintro e w5 ⟨rfl, rfl⟩
  go_wp2_with fail
  refine (IO.out _).mono ?_
  rintro e w6 ⟨v2, rfl, hv2, hb6⟩
  have hC6 := below_of hC4 hb6
  have HV6 := Lib.hid (show BytO w6 _ L from own_agree HV4.out (Agree.of_below hb6 (own_lt HV4.out)))
  have HI6 := Lib.hid (show BytO w6 _ _ from own_agree HI4.out (Agree.of_below hb6 (own_lt HI4.out)))
  have HH6 := Lib.hid hv2.o
  obtain ⟨V2, cp2, rfl, -⟩ := own_form hv2.o
  clear hb6 hv2 HV4 HI4 hC4
  go_wp2_with fail
  refine (eqByteS_same _ _ L _ HH6.out.sl HV6.out.sl (by omega)).mono ?_
  rintro e w7 ⟨rfl, hb7⟩
  have hC7 := below_of hC6 hb7
  have HI7 := Lib.hid (show BytO w7 _ _ from own_agree HI6.out (Agree.of_below hb7 (own_lt HI6.out)))
  clear hb7 HV6 HI6 HH6 hC6
  go_wp2_with fail
  refine (HHE.out _ HI7.out.sl).mono ?_
  rintro e w8 ⟨rfl, rfl⟩
  go_wp2_with fail
  go_ret
  exact ⟨rfl, hC7⟩

theorem rowVars : ∀ n ∈ Rows.fnExactNumBytesSpec.vars, ∃ g t ms, Try.prog.globalNamed n = some g ∧ (Try.prog.globals[g]?).map (·.type) = some t ∧ Try.prog.underlying t = some (.interface ms) := fun n hn => by cases hn
set_option maxRecDepth 100000 in
theorem contract (H : Type) (enc : TypeId × Value → H) (W : World) (base : Nat) (args : Array Value) (ds gs : List (DataW H)) (before : List MemPlace)
    (hval : ∀ (j : Nat) t v, Try.f4.params[j]? = some t → args[j]? = some v → Value.okWide Try.prog W .any base t v)
    (hW : DataW.Whole enc Try.prog Try.f4.params.toList Rows.fnExactNumBytesSpec.vars false W args.toList ds gs before) (_hL : laidMetH Try.prog Rows.fnExactNumBytesRow.laid W) :
    Calls Try.prog 4 args W fun e W' => ∃ v, e = .returned v ∧ Rows.fnExactNumBytesSpec.post enc Try.prog Try.f4 false true false false W args v W' := by
  have hW' := hW
  obtain ⟨p, q, hA0, hV, rfl, hfz, hnd⟩ := hW
  have hA : DataW.TrodAll enc Try.prog W 0 (fun _ => true) true Try.f4.params.toList args.toList ds p := hA0
  rw [Try.params4] at hA hval
  obtain ⟨v0, vs0, d0, ds0, p0, q0, hargs, rfl, rfl, h0, r0⟩ := trodAll_cons hA
  obtain ⟨rfl, rfl, rfl⟩ := trodAll_nil r0
  obtain rfl : args = #[v0] := by cases args; simp_all
  obtain rfl : gs = [] := by cases gs with | nil => rfl | cons _ _ => exact (show False from hV).elim
  obtain ⟨a0, rfl, rfl, rfl, wn0⟩ := open_int Try.underlying3 (hval 0 _ v0 rfl rfl) h0
  refine (walk a0 W).mono fun e W' ⟨he, hb⟩ => ?_
  subst he
  exact ⟨_, rfl, law_post Try.laidOut (by rw [Try.params4]; intro t ht; have k0 : Try.prog.readableRec 3 = true ∧ 3 < Try.prog.types.size := ⟨by kernel_rfl, of_decide_eq_true (by kernel_rfl)⟩; simp at ht; subst ht; exact k0) rowVars (tb := 4) rfl Try.underlying4 hW' rfl hb⟩

theorem door_met (os : Os) (args : Array Value) : laidMet Try.prog Rows.fnExactNumBytesRow.laid ((World.doorLaid Try.prog 400 os).forCall (fun _ _ => 0) ⟨#[], args, []⟩).memory :=
  laidMet_of_run' 8 (by kernel_rfl) (by kernel_rfl)
set_option maxRecDepth 100000 in
theorem lifted (os : Os) (started : os.Started) (H : Type) (enc : TypeId × Value → H) (F : Stop.Interp) :
    ReturnsInHanded {} Try.checked os 4 .any ((OpenSpec.ofChange Rows.fnExactNumBytesSpec).preRow enc Try.prog Try.f4 Rows.fnExactNumBytesRow.domain false Rows.fnExactNumBytesRow.laid) (((OpenSpec.ofChange Rows.fnExactNumBytesSpec).at F).post enc Try.prog Try.f4 false true false false) := by
  refine returnsInHanded_of_row (C := Try.checked) (s := OpenSpec.ofChange Rows.fnExactNumBytesSpec) Try.own started (by kernel_rfl) Try.func4
    (witness_row_atRef (enc := enc) (C := Try.checked) false (World.doorLaid Try.prog 400 os) #[.int .i64 0] rfl (by kernel_rfl) (by kernel_rfl) (by kernel_rfl)
      (OpenSpec.preRow_of_B rfl 8 (by kernel_rfl) (by kernel_rfl) (door_met os _))) ?_
  intro W base args ds gs before hval hW _ _ _ hL _ _
  exact contract H enc W base args ds gs before hval hW hL

theorem jIn : (Rows.fnExactNumBytesRow.inPlace == Try.prog.inPlace 4) = true := by kernel_rfl
theorem jUn : (Rows.fnExactNumBytesRow.unfollowed == Try.prog.unfollowed 4) = true := by kernel_rfl
theorem jRe : (Rows.fnExactNumBytesRow.recurses == Try.prog.recurses 4) = true := by kernel_rfl
theorem jNa : (Rows.fnExactNumBytesRow.named == Try.prog.varsNamed 4) = true := by kernel_rfl
theorem joined : joinedFacts Try.prog 4 Try.f4 (OpenSpec.ofChange Rows.fnExactNumBytesSpec).bare Rows.fnExactNumBytesRow = true :=
  joined_mk (by kernel_rfl) Try.laidOut pRowed (by kernel_rfl) (by kernel_rfl) rfl pStops rfl pKnobs jIn jUn jRe jNa (by kernel_rfl) (by kernel_rfl) (by kernel_rfl) (by kernel_rfl) (by kernel_rfl) (by kernel_rfl) (by kernel_rfl) (by kernel_rfl) (by kernel_rfl) pKeys (by kernel_rfl) pHeard pEnter pLifts pMake (by kernel_rfl) (by kernel_rfl) (by kernel_rfl) (by kernel_rfl)
theorem said : Rows.FnExactNumBytesSaid :=
  OpenClaim.holds_of_cond 4 Try.f4 rfl rfl rfl rfl rfl rfl rfl ⟨rfl, rfl, rfl, rfl, rfl⟩ rfl rfl rfl rfl rfl (by kernel_rfl) Try.func4 joined
    (of_decide_eq_true (by kernel_rfl)) (by unfold Func.isWrapper; first | (rw [if_pos (by decide +kernel)]; kernel_rfl) | (rw [if_neg (by decide +kernel)]; exact ⟨rfl, rfl⟩))
    (fun os started H enc _ F => by rw [OpenClaim.pre_eq_preRow]; exact lifted os started H enc F)

end Go.Proofs.Ytcngiinaneefjaa.fnExactNumBytes
