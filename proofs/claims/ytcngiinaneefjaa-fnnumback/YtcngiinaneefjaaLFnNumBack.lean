/- FnNumBack answers true at every code: what NumBytes writes NumRead reads, behind another byte and ahead of another. No condition. -/
import Derived.Test.YtcngiinaneefjaaMg00
import Derived.Test.YtcngiinaneefjaaMg02
namespace Go.Proofs.Ytcngiinaneefjaa.fnNumBack
open Go.ChangeShapes Go.WideShapes Go.ChangeAt Go.RowKit Go.Joins

theorem own_cap {w : World} {base : Nat} {v : Value} {l : List Int} (h : OwnsY w base v l) : ∃ A c, v = .slice A l.length c ∧ l.length ≤ c := by
  rcases h.2 with ⟨rfl, h0⟩ | ⟨g, cap, cur, rfl, _, _, hc, _⟩
  · exact ⟨none, 0, by rw [h0], by omega⟩
  · exact ⟨_, cap, rfl, hc⟩
theorem walk_big (A : Option Addr) (n c : Nat) (w : World) (h : 1048576 < n) :
    Calls Try.prog 3 #[.slice A n c] w fun e w' => e = .returned (.bool true) ∧ Below w.heap.size w w' := by
  go_enter Try.func3, Try.ntmps3
  go_wp2_with fail
  refine (big_yes A n c _ h).mono ?_
  rintro e w1 ⟨rfl, rfl⟩
  go_wp2_with fail
  go_ret
  exact ⟨rfl, (by repeat' (first | exact Below.refl _ _ | refine Below.alloc ?_ ?_ _ | refine Below.setCell ?_ ?_ _ | refine Below.drew ?_ | (apply below_step; assumption) | (simp; done) | (simp; omega) | omega))⟩
set_option maxHeartbeats 3200000 in
set_option maxRecDepth 20000 in
theorem walk (A : Option Addr) (n c : Nat) (w : World) (hn : n ≤ 1048576) (hc : CodeAt w A n) (he : HasAt 1 w) (hu : HasAt 0 w) :
    Calls Try.prog 3 #[.slice A n c] w fun e w' => e = .returned (.bool true) ∧ Below w.heap.size w w' := by
  have HD := Lib.hid (drawNum_any A n c w hn hc)
  have HE := Lib.hid he
  have HU := Lib.hid hu
  clear he hu hc
  go_enter Try.func3, Try.ntmps3
  go_wp2_with fail
  refine (big_no A n c _ hn).mono ?_
  rintro e w1 ⟨rfl, rfl⟩
  go_wp2_with fail
  refine HD.out.mono ?_
  rintro e w1 ⟨z, rfl, hb1⟩
  go_wp2_with fail
  refine (NumBytes_any z _).mono ?_
  rintro e w2 ⟨v1, rfl, hv1, hb2⟩
  have hC2 := below_of hb1 hb2
  have HO2 := Lib.hid hv1
  obtain ⟨V1, cp1, rfl, hcp⟩ := own_cap hv1
  have hlen := numBytes_len z
  clear hv1
  go_wp2_with fail
  refine (sNumBytes_any z _).mono ?_
  rintro e w3 ⟨v2, rfl, hv2, hb3⟩
  have hC3 := below_of hC2 hb3
  have HO3 := Lib.hid (HO2.out.below hb3 (Nat.le_refl _))
  obtain ⟨V2, cp2, rfl, -⟩ := own_cap hv2
  have hz3 := hb3.size
  have hz2 := hb2.size
  clear hv2 hb3
  by_cases hz : 0 ≤ z ∧ z ≤ 4294967295
  · have hpos : 0 < (numBytes z).length := by
      unfold numBytes; rw [if_pos hz]; exact numB_pos _
    have hne : (((numBytes z).length : Int) == 0) = false := by simp; intro h; rw [h] at hpos; simp at hpos
    have HNB := Lib.hid (num_back hz [200] [9])
    have HBY := Lib.hid (numBytes_bytes z)
    clear hz
    generalize numBytes z = L at *
    go_upto_region 8 with (first
      | (at_builtin; refine wpList_spread_y _ rfl (.tmp 22) (.tmp 23) rfl w3.heap.size _ [200] L _ _ rfl rfl (OwnsY.one_blk (Nat.le_refl _)) (HO3.out.o.sl.below (by repeat' (first | exact Below.refl _ _ | refine Below.alloc ?_ ?_ _ | refine Below.setCell ?_ ?_ _ | refine Below.drew ?_ | (apply below_step; assumption) | (simp; done) | (simp; omega) | omega))) (by simp; omega) (by simp) ?_; intro v5 w5 hown5 hb5 hg5; have HO5 := Lib.hid hown5; have hz5 := hb5.size; simp at hz5)
      | (at_builtin; refine wpList_append_y _ rfl (.tmp 24) (.tmp 25) rfl w3.heap.size _ ([200] ++ L) 9 w5.heap.size rfl (HO5.out.alloc _) rfl (by simp) (by simp; omega) (by simp; omega) ?_; intro v6 w6 hown6 hb6; have HO6 := Lib.hid hown6))
    have hD5 : Below w3.heap.size w3 w5 := (show Below w3.heap.size w3 (w3.alloc _) from (by repeat' (first | exact Below.refl _ _ | refine Below.alloc ?_ ?_ _ | refine Below.setCell ?_ ?_ _ | refine Below.drew ?_ | (apply below_step; assumption) | (simp; done) | (simp; omega) | omega))).trans hb5
    have hD6 : Below w3.heap.size w3 w6 := (hD5.alloc (by omega) _).trans hb6
    have hC6 := below_of hC3 hD6
    have hne6 : numRead ([200] ++ L ++ [9]) 1 = some (z, 1 + L.length) := HNB.out
    have hlen6 : ([200] ++ L ++ [9]).length ≤ 1048576 := by simp; omega
    have hby6 : ∀ b ∈ [200] ++ L ++ [9], 0 ≤ b ∧ b ≤ 255 := by
      intro b hb
      simp at hb
      rcases hb with rfl | hb | rfl
      · omega
      · exact HBY.out b hb
      · omega
    have hown := HO6.out
    clear HO6 hown6
    generalize ([200] ++ L ++ [9] : List Int) = M at hown hne6 hlen6 hby6
    obtain ⟨A6, c6, e6, h6⟩ := own_cap hown
    subst e6
    have hrd := NumRead_any w6 A6 M c6 1 hown.o.sl hlen6 h6 hby6 (by omega) (HE.out.below hC6) (HU.out.below hC6) (.inr (by rw [hne6]; rfl))
    rw [hne6] at hrd
    have HRD := Lib.hid hrd
    have hzz : (z == z) = true := by simp
    have hll : ((((1 + L.length : Nat) : Int)) == 1 + (L.length : Int)) = true := by simp
    clear hrd hne6 hby6 hlen6 h6 hown hown5 HO5 hD5 hD6 hb5 hb6
    go_wp2_with fail
    refine HRD.out.mono ?_
    rintro e w7 ⟨rfl, hb7⟩
    have hC7 := below_of hC6 hb7
    unfold decI
    go_wp2_with fail
    go_ret
    exact ⟨rfl, hC7⟩
  · have hem : numBytes z = [] := by unfold numBytes; rw [if_neg hz]
    rw [hem] at *
    go_wp2_with fail
    go_ret
    exact ⟨rfl, hC3⟩

theorem shaped_has {W : World} (hsh : W.ShapedOpen Try.prog) : HasAt 1 W ∧ HasAt 0 W := by
  have f : ∀ g zero t, g < Try.prog.globals.size → ((begin Try.prog (fun _ _ => 0) default).world.heap[g]?).bind Obj.row? = some (zero, t) → 0 < zero.size → HasAt g W := by
    intro g zero t hg h0 hz
    obtain ⟨cs, hc, hs, -⟩ := hsh.1 g zero t hg h0
    have h0' : 0 < cs.size := by omega
    exact ⟨cs[0], by simp [World.cell?, hc, h0']⟩
  exact ⟨f 1 #[.nilIface] 53 (by decide +kernel) (by kernel_rfl) (by decide), f 0 #[.nilIface] 53 (by decide +kernel) (by kernel_rfl) (by decide)⟩
theorem rowVars : ∀ n ∈ Rows.fnNumBackSpec.vars, ∃ g t ms, Try.prog.globalNamed n = some g ∧ (Try.prog.globals[g]?).map (·.type) = some t ∧ Try.prog.underlying t = some (.interface ms) := fun n hn => by cases hn
set_option maxRecDepth 100000 in
theorem contract (H : Type) (enc : TypeId × Value → H) (W : World) (base : Nat) (args : Array Value) (ds gs : List (DataW H)) (before : List MemPlace)
    (hval : ∀ (j : Nat) t v, Try.f3.params[j]? = some t → args[j]? = some v → Value.okWide Try.prog W .any base t v)
    (hW : DataW.Whole enc Try.prog Try.f3.params.toList Rows.fnNumBackSpec.vars false W args.toList ds gs before) (_hL : laidMetH Try.prog Rows.fnNumBackRow.laid W) (hsh : W.ShapedOpen Try.prog) :
    Calls Try.prog 3 args W fun e W' => ∃ v, e = .returned v ∧ Rows.fnNumBackSpec.post enc Try.prog Try.f3 false true false false W args v W' := by
  have hW' := hW
  obtain ⟨p, q, hA0, hV, rfl, hfz, hnd⟩ := hW
  have hA : DataW.TrodAll enc Try.prog W 0 (fun _ => true) true Try.f3.params.toList args.toList ds p := hA0
  rw [Try.params3] at hA hval
  obtain ⟨v0, vs0, d0, ds0, p0, q0, hargs, rfl, rfl, h0, r0⟩ := trodAll_cons hA
  obtain ⟨rfl, rfl, rfl⟩ := trodAll_nil r0
  obtain rfl : args = #[v0] := by cases args; simp_all
  obtain rfl : gs = [] := by cases gs with | nil => rfl | cons _ _ => exact (show False from hV).elim
  have hs0 := hval 0 _ v0 rfl rfl
  have fin : Calls Try.prog 3 #[v0] W fun e w' => e = .returned (.bool true) ∧ Below W.heap.size W w' := by
    obtain ⟨A, n, c, rfl, hn, _, hcode⟩ := open_code hs0 h0
    obtain ⟨he, hu⟩ := shaped_has hsh
    by_cases hlong : n ≤ 1048576
    · exact walk A n c W hlong hcode he hu
    · exact walk_big A n c W (by omega)
  refine fin.mono fun e W' ⟨he, hb⟩ => ?_
  subst he
  exact ⟨_, rfl, law_post Try.laidOut (by rw [Try.params3]; intro t ht; have k0 : Try.prog.readableRec 22 = true ∧ 22 < Try.prog.types.size := ⟨by kernel_rfl, of_decide_eq_true (by kernel_rfl)⟩; simp at ht; subst ht; exact k0) rowVars (tb := 4) rfl Try.underlying4 hW' rfl hb⟩

theorem door_met (os : Os) (args : Array Value) : laidMet Try.prog Rows.fnNumBackRow.laid ((World.doorLaid Try.prog 400 os).forCall (fun _ _ => 0) ⟨#[], args, []⟩).memory :=
  laidMet_of_run' 8 (by kernel_rfl) (by kernel_rfl)
set_option maxRecDepth 100000 in
theorem lifted (os : Os) (started : os.Started) (H : Type) (enc : TypeId × Value → H) (F : Stop.Interp) :
    ReturnsInHanded {} Try.checked os 3 .any ((OpenSpec.ofChange Rows.fnNumBackSpec).preRow enc Try.prog Try.f3 Rows.fnNumBackRow.domain false Rows.fnNumBackRow.laid) (((OpenSpec.ofChange Rows.fnNumBackSpec).at F).post enc Try.prog Try.f3 false true false false) := by
  refine returnsInHanded_of_row (C := Try.checked) (s := OpenSpec.ofChange Rows.fnNumBackSpec) Try.own started (by kernel_rfl) Try.func3
    (witness_row_atRef (enc := enc) (C := Try.checked) false (World.doorLaid Try.prog 400 os) #[.slice none 0 0] rfl (by kernel_rfl) (by kernel_rfl) (by kernel_rfl)
      (OpenSpec.preRow_of_B rfl 8 (by kernel_rfl) (by kernel_rfl) (door_met os _))) ?_
  intro W base args ds gs before hval hW _ _ _ hL hsh _
  exact contract H enc W base args ds gs before hval hW hL hsh

theorem jIn : (Rows.fnNumBackRow.inPlace == Try.prog.inPlace 3) = true := by kernel_rfl
theorem jUn : (Rows.fnNumBackRow.unfollowed == Try.prog.unfollowed 3) = true := by kernel_rfl
theorem jRe : (Rows.fnNumBackRow.recurses == Try.prog.recurses 3) = true := by kernel_rfl
theorem jNa : (Rows.fnNumBackRow.named == Try.prog.varsNamed 3) = true := by kernel_rfl
theorem joined : joinedFacts Try.prog 3 Try.f3 (OpenSpec.ofChange Rows.fnNumBackSpec).bare Rows.fnNumBackRow = true :=
  joined_mk (by kernel_rfl) Try.laidOut pRowed (by kernel_rfl) (by kernel_rfl) rfl pStops rfl pKnobs jIn jUn jRe jNa (by kernel_rfl) (by kernel_rfl) (by kernel_rfl) (by kernel_rfl) (by kernel_rfl) (by kernel_rfl) (by kernel_rfl) (by kernel_rfl) (by kernel_rfl) pKeys (by kernel_rfl) pHeard pEnter pLifts pMake (by kernel_rfl) (by kernel_rfl) (by kernel_rfl) (by kernel_rfl)
theorem said : Rows.FnNumBackSaid :=
  OpenClaim.holds_of_cond 3 Try.f3 rfl rfl rfl rfl rfl rfl rfl ⟨rfl, rfl, rfl, rfl, rfl⟩ rfl rfl rfl rfl rfl (by kernel_rfl) Try.func3 joined
    (of_decide_eq_true (by kernel_rfl)) (by unfold Func.isWrapper; first | (rw [if_pos (by decide +kernel)]; kernel_rfl) | (rw [if_neg (by decide +kernel)]; exact ⟨rfl, rfl⟩))
    (fun os started H enc _ F => by rw [OpenClaim.pre_eq_preRow]; exact lifted os started H enc F)

end Go.Proofs.Ytcngiinaneefjaa.fnNumBack
