/- FnExactProvState answers true at every argument: ProvState and its model agree, and the provider is left as it was. No condition. -/
import Derived.Test.YtbmiefhgkagcgaaProvRow
import Derived.Test.YtbmiefhgkagcgaaProvS2
import Derived.Test.YtbmiefhgkagcgaaProvTo
namespace Go.Proofs.Ytbmiefhgkagcgaa.fnExactProvState
open Go.ChangeShapes Go.WideShapes Go.ChangeAt Go.RowKit Go.Joins

set_option maxHeartbeats 1600000 in
theorem walk_long (ep : Int) (A : Option Addr) (n c : Nat) (id : Int) (w : World) (h : 1048576 < n) (hm : n ≤ maxLen) :
    Calls Try.prog 8 #[.agg #[.int .i64 ep, .slice A n c], .int .i64 id] w fun e w' => e = .returned (.bool true) ∧ Below w.heap.size w w' := by
  have HS := Lib.hid (fun w => szProv_no ep A n c w h hm)
  clear h hm
  go_enter Try.func8, Try.ntmps8
  go_wp2_with fail
  refine (HS.out _).mono ?_
  rintro e w1 ⟨rfl, hb1⟩
  have hz1 := hb1.size
  simp at hz1
  go_wp2_with fail
  go_ret
  exact ⟨rfl, (by repeat' (first | exact Below.refl _ _ | refine Below.alloc ?_ ?_ _ | refine Below.setCell ?_ ?_ _ | refine Below.drew ?_ | (apply below_step; assumption) | (simp; done) | (simp; omega) | omega))⟩

set_option maxHeartbeats 3200000 in
theorem walk (ep : Int) (A : Option Addr) (c : Nat) (l : List RV) (id : Int) (w : World) (hv : InSl w (.slice A l.length c) l) (hlen : l.length ≤ 1048576) :
    Calls Try.prog 8 #[.agg #[.int .i64 ep, .slice A l.length c], .int .i64 id] w fun e w' => e = .returned (.bool true) ∧ Below w.heap.size w w' := by
  have HV := Lib.hid hv
  have HSZ := Lib.hid (fun w => szProv_yes ep A l.length c w hlen)
  have hle : decide ((1048576 : Int) - l.length < 0) = false := decide_eq_false (by omega)
  generalize ((1048576 : Int) - l.length) = z at *
  have hso := fun v w h => sProvState_any ep v l id w h hlen
  have hio := fun v w h => ProvState_any ep v l id w h hlen
  generalize provState ep l id = ok at *
  have hne : (ok != ok) = false := by simp
  have HSO := Lib.hid hso
  have HIO := Lib.hid hio
  clear hso hio
  have HTO := Lib.hid (fun w h => toProv_any ep (.slice A l.length c) l w h hlen)
  have HL := Lib.hid hlen
  clear hv hlen
  go_enter Try.func8, Try.ntmps8
  go_wp2_with fail
  refine (HSZ.out _).mono ?_
  rintro e w1 ⟨rfl, hb1⟩
  have hX : Below w.heap.size w (w.alloc (.cells #[.int .i64 ep, .slice A l.length c] 41)) := (by repeat' (first | exact Below.refl _ _ | refine Below.alloc ?_ ?_ _ | refine Below.setCell ?_ ?_ _ | refine Below.drew ?_ | (apply below_step; assumption) | (simp; done) | (simp; omega) | omega))
  have hC1 := below_of hX hb1
  have HB1 := Lib.hid ((BlockIs.new w 41 #[.int .i64 ep, .slice A l.length c]).below hb1 (by simp))
  have x1 := HB1.out.cell
  clear hX hb1
  go_wp2_with fail
  refine (HTO.out _ (HV.out.below hC1)).mono ?_
  rintro e w2 ⟨g2, rfl, _, hg2, hs2, _, hb2⟩
  have hC2 := below_of hC1 hb2
  have HB2 := Lib.hid (HB1.out.below hb2 HB1.out.lt)
  have HS2 := Lib.hid hs2
  clear hs2 x1 HB1 hb2
  go_wp2_with fail
  refine (HSO.out _ _ HS2.out).mono ?_
  rintro e w3 ⟨rfl, hb3⟩
  have hC3 := below_of hC2 hb3
  have HB3 := Lib.hid (HB2.out.below hb3 HB2.out.lt)
  have x3 := HB3.out.cell
  have l3 := HB3.out.lt
  clear HB2 hb3 HS2
  go_wp2_with fail
  refine (HTO.out _ (HV.out.below hC3)).mono ?_
  rintro e w4 ⟨g4, rfl, _, hg4, hs4, _, hb4⟩
  have hC4 := below_of hC3 hb4
  have HB4 := Lib.hid (HB3.out.below hb4 HB3.out.lt)
  have HS4 := Lib.hid hs4
  clear hs4 hb4 HB3 x3
  go_wp2_with fail
  have hA4 : Below w4.heap.size w4 (w4.alloc (.cells #[.int .i64 ep, .slice (some ⟨g4, 0, none⟩) l.length l.length] 26)) := (by repeat' (first | exact Below.refl _ _ | refine Below.alloc ?_ ?_ _ | refine Below.setCell ?_ ?_ _ | refine Below.drew ?_ | (apply below_step; assumption) | (simp; done) | (simp; omega) | omega))
  refine (HIO.out _ _ (HS4.out.below hA4)).mono ?_
  rintro e w6 ⟨rfl, hb6⟩
  have hD6 := below_of hA4 hb6
  have hC6 := below_of hC4 hD6
  have HB6 := Lib.hid (HB4.out.below hD6 HB4.out.lt)
  have HX6 := Lib.hid ((BlockIs.new w4 26 #[.int .i64 ep, .slice (some ⟨g4, 0, none⟩) l.length l.length]).below hb6 (by simp))
  have HS6 := Lib.hid (HS4.out.below hD6)
  have b6 := HB6.out.cell
  have x6 := HX6.out.cell
  have HK := Lib.hid (show ∀ w', Below w6.heap.size w6 w' → Below w6.heap.size w6 w' ∧ (∀ o, w'.cell? ⟨w.heap.size, o, none⟩ = (#[.int .i64 ep, .slice A l.length c] : Array Value)[o]?) ∧ (∀ o, w'.cell? ⟨w4.heap.size, o, none⟩ = (#[.int .i64 ep, .slice (some ⟨g4, 0, none⟩) l.length l.length] : Array Value)[o]?) from
    fun w' hb => ⟨hb, (HB6.out.below hb HB6.out.lt).cell, (HX6.out.below hb HX6.out.lt).cell⟩)
  have LT := Lib.hid (And.intro HB6.out.lt HX6.out.lt)
  clear hA4 hb6 hD6 HS4 HB4
  go_wp2_with fail
  go_region_held3 (fun w' => Below w6.heap.size w6 w' ∧ (∀ o, w'.cell? ⟨w.heap.size, o, none⟩ = (#[.int .i64 ep, .slice A l.length c] : Array Value)[o]?) ∧ (∀ o, w'.cell? ⟨w4.heap.size, o, none⟩ = (#[.int .i64 ep, .slice (some ⟨g4, 0, none⟩) l.length l.length] : Array Value)[o]?))
    (exact HK.out _ (by repeat' (first | exact Below.refl _ _ | refine Below.alloc ?_ ?_ _ | refine Below.setCell ?_ ?_ _ | refine Below.drew ?_ | (apply below_step; assumption) | (simp; done) | (simp; omega) | omega)))
    (first
      | (go_at_call 24; refine (HTO.out _ (HV.out.below (below_of hC6 (by repeat' (first | exact Below.refl _ _ | refine Below.alloc ?_ ?_ _ | refine Below.setCell ?_ ?_ _ | refine Below.drew ?_ | (apply below_step; assumption) | (simp; done) | (simp; omega) | omega))))).mono ?_; rintro e w7 ⟨g7, rfl, _, hg7, hs7, _, hb7⟩; have HS7 := Lib.hid hs7; clear hs7; have hz7 := hb7.size; try simp at hz7)
      | (go_at_call 26; refine (eqProv_same ep _ _ l _ (HS6.out.below (by repeat' (first | exact Below.refl _ _ | refine Below.alloc ?_ ?_ _ | refine Below.setCell ?_ ?_ _ | refine Below.drew ?_ | (apply below_step; assumption) | (simp; done) | (simp; omega) | omega))) HS7.out HL.out).mono ?_; rintro e w8 ⟨rfl, hb8⟩; have hz8 := hb8.size; try simp at hz8))
  all_goals
    go_wp2_with fail
    go_ret
    exact ⟨rfl, below_of hC6 (by repeat' (first | exact Below.refl _ _ | refine Below.alloc ?_ ?_ _ | refine Below.setCell ?_ ?_ _ | refine Below.drew ?_ | (apply below_step; assumption) | (simp; done) | (simp; omega) | omega))⟩

theorem rowVars : ∀ n ∈ Rows.fnExactProvStateSpec.vars, ∃ g t ms, Try.prog.globalNamed n = some g ∧ (Try.prog.globals[g]?).map (·.type) = some t ∧ Try.prog.underlying t = some (.interface ms) := fun n hn => by cases hn
set_option maxRecDepth 100000 in
theorem contract (H : Type) (enc : TypeId × Value → H) (W : World) (base : Nat) (args : Array Value) (ds gs : List (DataW H)) (before : List MemPlace)
    (hval : ∀ (j : Nat) t v, Try.f8.params[j]? = some t → args[j]? = some v → Value.okWide Try.prog W .any base t v)
    (hW : DataW.Whole enc Try.prog Try.f8.params.toList Rows.fnExactProvStateSpec.vars false W args.toList ds gs before) (_hL : laidMetH Try.prog Rows.fnExactProvStateRow.laid W) :
    Calls Try.prog 8 args W fun e W' => ∃ v, e = .returned v ∧ Rows.fnExactProvStateSpec.post enc Try.prog Try.f8 false true false false W args v W' := by
  have hW' := hW
  obtain ⟨p, q, hA0, hV, rfl, hfz, hnd⟩ := hW
  have hA : DataW.TrodAll enc Try.prog W 0 (fun _ => true) true Try.f8.params.toList args.toList ds p := hA0
  rw [Try.params8] at hA hval
  obtain ⟨v0, vs0, d0, ds0, p0, q0, hargs, rfl, rfl, h0, r0⟩ := trodAll_cons hA
  obtain ⟨v1, vs1, d1, ds1, p1, q1, rfl, rfl, rfl, h1, r1⟩ := trodAll_cons r0
  obtain ⟨rfl, rfl, rfl⟩ := trodAll_nil r1
  obtain rfl : args = #[v0, v1] := by cases args; simp_all
  obtain rfl : gs = [] := by cases gs with | nil => rfl | cons _ _ => exact (show False from hV).elim
  obtain ⟨a0, x0, n0, rfl, wn0, q0⟩ := open_prov (hval 0 _ v0 rfl rfl) h0
  obtain ⟨a1, rfl, rfl, rfl, wn1⟩ := open_int Try.underlying3 (hval 1 _ v1 rfl rfl) h1
  have fin : Calls Try.prog 8 #[.agg #[.int .i64 a0, x0], .int .i64 a1] W fun e w' => e = .returned (.bool true) ∧ Below W.heap.size W w' := by
    obtain ⟨A, c, rfl, _⟩ := q0.1.form
    by_cases hlong : n0.length ≤ 1048576
    · exact walk a0 A c n0 a1 W q0.1 hlong
    · exact walk_long a0 A n0.length c a1 W (by omega) q0.2
  refine fin.mono fun e W' ⟨he, hb⟩ => ?_
  subst he
  exact ⟨_, rfl, law_post Try.laidOut (by rw [Try.params8]; intro t ht; have k0 : Try.prog.readableRec 41 = true ∧ 41 < Try.prog.types.size := ⟨by kernel_rfl, of_decide_eq_true (by kernel_rfl)⟩; have k1 : Try.prog.readableRec 3 = true ∧ 3 < Try.prog.types.size := ⟨by kernel_rfl, of_decide_eq_true (by kernel_rfl)⟩; simp at ht; rcases ht with rfl | rfl; all_goals (first | with_reducible exact k0 | with_reducible exact k1)) rowVars (tb := 4) rfl Try.underlying4 hW' rfl hb⟩

theorem door_met (os : Os) (args : Array Value) : laidMet Try.prog Rows.fnExactProvStateRow.laid ((World.doorLaid Try.prog 400 os).forCall (fun _ _ => 0) ⟨#[], args, []⟩).memory :=
  laidMet_of_run' 8 (by kernel_rfl) (by kernel_rfl)
set_option maxRecDepth 100000 in
theorem lifted (os : Os) (started : os.Started) (H : Type) (enc : TypeId × Value → H) (F : Stop.Interp) :
    ReturnsInHanded {} Try.checked os 8 .any ((OpenSpec.ofChange Rows.fnExactProvStateSpec).preRow enc Try.prog Try.f8 Rows.fnExactProvStateRow.domain false Rows.fnExactProvStateRow.laid) (((OpenSpec.ofChange Rows.fnExactProvStateSpec).at F).post enc Try.prog Try.f8 false true false false) := by
  refine returnsInHanded_of_row (C := Try.checked) (s := OpenSpec.ofChange Rows.fnExactProvStateSpec) Try.own started (by kernel_rfl) Try.func8
    (witness_row_atRef (enc := enc) (C := Try.checked) false (World.doorLaid Try.prog 400 os) #[.agg #[.int .i64 0, .slice none 0 0], .int .i64 0] rfl (by kernel_rfl) (by kernel_rfl) (by kernel_rfl)
      (OpenSpec.preRow_of_B rfl 8 (by kernel_rfl) (by kernel_rfl) (door_met os _))) ?_
  intro W base args ds gs before hval hW _ _ _ hL _ _
  exact contract H enc W base args ds gs before hval hW hL

theorem jIn : (Rows.fnExactProvStateRow.inPlace == Try.prog.inPlace 8) = true := by kernel_rfl
theorem jUn : (Rows.fnExactProvStateRow.unfollowed == Try.prog.unfollowed 8) = true := by kernel_rfl
theorem jRe : (Rows.fnExactProvStateRow.recurses == Try.prog.recurses 8) = true := by kernel_rfl
theorem jNa : (Rows.fnExactProvStateRow.named == Try.prog.varsNamed 8) = true := by kernel_rfl
theorem joined : joinedFacts Try.prog 8 Try.f8 (OpenSpec.ofChange Rows.fnExactProvStateSpec).bare Rows.fnExactProvStateRow = true :=
  joined_mk (by kernel_rfl) Try.laidOut pRowed (by kernel_rfl) (by kernel_rfl) rfl pStops rfl pKnobs jIn jUn jRe jNa (by kernel_rfl) (by kernel_rfl) (by kernel_rfl) (by kernel_rfl) (by kernel_rfl) (by kernel_rfl) (by kernel_rfl) (by kernel_rfl) (by kernel_rfl) pKeys (by kernel_rfl) pHeard pEnter pLifts pMake (by kernel_rfl) (by kernel_rfl) (by kernel_rfl) (by kernel_rfl)
theorem said : Rows.FnExactProvStateSaid :=
  OpenClaim.holds_of_cond 8 Try.f8 rfl rfl rfl rfl rfl rfl rfl ⟨rfl, rfl, rfl, rfl, rfl⟩ rfl rfl rfl rfl rfl (by kernel_rfl) Try.func8 joined
    (of_decide_eq_true (by kernel_rfl)) (by unfold Func.isWrapper; first | (rw [if_pos (by decide +kernel)]; kernel_rfl) | (rw [if_neg (by decide +kernel)]; exact ⟨rfl, rfl⟩))
    (fun os started H enc _ F => by rw [OpenClaim.pre_eq_preRow]; exact lifted os started H enc F)

end Go.Proofs.Ytbmiefhgkagcgaa.fnExactProvState
