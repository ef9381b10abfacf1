/- FnExactLabsMatch answers true at every two lists of labels: LabsMatch and its model agree, and the lists are left as they were. No condition. -/
import Derived.Test.YtelfoedgbgandaaLabRow
import Derived.Test.YtelfoedgbgandaaLabS2
import Derived.Test.YtelfoedgbgandaaSlLab
namespace Go.Proofs.Ytelfoedgbgandaa.fnExactLabsMatch
open Go.ChangeShapes Go.WideShapes Go.ChangeAt Go.RowKit Go.Joins

theorem walk_long1 (A : Option Addr) (n c : Nat) (v2 : Value) (w : World) (h : 1048576 < n) (hm : n ≤ maxLen) :
    Calls Try.prog 7 #[.slice A n c, v2] w fun e w' => e = .returned (.bool true) ∧ Below w.heap.size w w' := by
  go_enter Try.func7, Try.ntmps7
  go_wp2_with fail
  refine (szLabS_no A n c 1048576 _ (by omega) (by omega) hm).mono ?_
  rintro e w1 ⟨rfl, rfl⟩
  go_wp2_with fail
  go_ret
  exact ⟨rfl, (by repeat' (first | exact Below.refl _ _ | refine Below.alloc ?_ ?_ _ | refine Below.setCell ?_ ?_ _ | refine Below.drew ?_ | (apply below_step; assumption) | (simp; done) | (simp; omega) | omega))⟩
theorem walk_long2 (A : Option Addr) (n c : Nat) (A2 : Option Addr) (n2 c2 : Nat) (w : World) (h : n ≤ 1048576) (h2 : 1048576 < n + n2) (hm : n2 ≤ maxLen) :
    Calls Try.prog 7 #[.slice A n c, .slice A2 n2 c2] w fun e w' => e = .returned (.bool true) ∧ Below w.heap.size w w' := by
  have hl0 : (n : Int) ≤ 1048576 := by omega
  go_enter Try.func7, Try.ntmps7
  go_wp2_with fail
  refine (szLabS_yes A n c 1048576 _ (by omega) hl0).mono ?_
  rintro e w1 ⟨rfl, rfl⟩
  go_wp2_with fail
  refine (szLabS_no A2 n2 c2 (1048576 - n) _ (by omega) (by omega) hm).mono ?_
  rintro e w1 ⟨rfl, rfl⟩
  go_wp2_with fail
  go_ret
  exact ⟨rfl, (by repeat' (first | exact Below.refl _ _ | refine Below.alloc ?_ ?_ _ | refine Below.setCell ?_ ?_ _ | refine Below.drew ?_ | (apply below_step; assumption) | (simp; done) | (simp; omega) | omega))⟩
set_option maxHeartbeats 1600000 in
theorem walk (v1 v2 : Value) (l1 l2 : List LV) (w : World) (hv1 : LabSl w v1 l1) (hv2 : LabSl w v2 l2) (hsum : l1.length + l2.length ≤ 1048576) :
    Calls Try.prog 7 #[v1, v2] w fun e w' => e = .returned (.bool true) ∧ Below w.heap.size w w' := by
  have hlen1 : l1.length ≤ 1048576 := by omega
  have hlen2 : l2.length ≤ 1048576 := by omega
  have hs := fun v1 v2 w h1 h2 => sLabsMatch_any v1 v2 l1 l2 w h1 h2 hlen1 hlen2
  have hi := fun v1 v2 w h1 h2 => LabsMatch_any v1 v2 l1 l2 w h1 h2 hlen1 hlen2
  generalize matchOf l1 l2 = ok at hs hi
  have hne : (ok != ok) = false := by simp
  have HS := Lib.hid hs
  have HI := Lib.hid hi
  have HV1 := Lib.hid hv1
  have HV2 := Lib.hid hv2
  clear hs hi
  obtain ⟨A, c, rfl, _⟩ := hv1.form
  obtain ⟨A2, c2, rfl, _⟩ := hv2.form
  have hl1 : (l1.length : Int) ≤ 1048576 := by omega
  have hl2 : (l2.length : Int) ≤ 1048576 - l1.length := by omega
  go_enter Try.func7, Try.ntmps7
  go_wp2_with fail
  refine (szLabS_yes A l1.length c 1048576 _ (by omega) hl1).mono ?_
  rintro e w1 ⟨rfl, rfl⟩
  go_wp2_with fail
  refine (szLabS_yes A2 l2.length c2 (1048576 - l1.length) _ (by omega) hl2).mono ?_
  rintro e w1 ⟨rfl, rfl⟩
  have hge : (0 : Int) ≤ 1048576 - l1.length - l2.length := by omega
  go_wp2_with fail
  refine (toLabS_any _ l1 _ HV1.out hlen1).mono ?_
  rintro e w1 ⟨g1, rfl, hg1, hb1, hB1⟩
  have hz1 := hB1.size
  have SL1 := Lib.hid (show LabSl w1 (.slice (some ⟨g1, 0, none⟩) l1.length l1.length) l1 from .inr ⟨g1, 0, _, rfl, hb1.lt, LabAt.of_cells hb1⟩)
  clear hb1
  go_wp2_with fail
  refine (toLabS_any _ l2 _ (HV2.out.below hB1) hlen2).mono ?_
  rintro e w2 ⟨g2, rfl, hg2, hb2, hB2⟩
  have hz2 := hB2.size
  have SL2 := Lib.hid (show LabSl w2 (.slice (some ⟨g2, 0, none⟩) l2.length l2.length) l2 from .inr ⟨g2, 0, _, rfl, hb2.lt, LabAt.of_cells hb2⟩)
  clear hb2
  have hC2 : Below w.heap.size w w2 := hB1.trans (hB2.mono hz1)
  go_wp2_with fail
  refine (HS.out _ _ _ (SL1.out.below hB2) SL2.out).mono ?_
  rintro e w3 ⟨rfl, hB3⟩
  have hz3 := hB3.size
  have hC3 : Below w.heap.size w w3 := hC2.trans (hB3.mono hC2.size)
  go_wp2_with fail
  refine (toLabS_any _ l1 _ (HV1.out.below hC3) hlen1).mono ?_
  rintro e w4 ⟨g4, rfl, hg4, hb4, hB4⟩
  have hz4 := hB4.size
  have SL4 := Lib.hid (show LabSl w4 (.slice (some ⟨g4, 0, none⟩) l1.length l1.length) l1 from .inr ⟨g4, 0, _, rfl, hb4.lt, LabAt.of_cells hb4⟩)
  clear hb4
  have hC4 : Below w.heap.size w w4 := hC3.trans (hB4.mono hC3.size)
  go_wp2_with fail
  refine (toLabS_any _ l2 _ (HV2.out.below hC4) hlen2).mono ?_
  rintro e w5 ⟨g5, rfl, hg5, hb5, hB5⟩
  have hz5 := hB5.size
  have SL5 := Lib.hid (show LabSl w5 (.slice (some ⟨g5, 0, none⟩) l2.length l2.length) l2 from .inr ⟨g5, 0, _, rfl, hb5.lt, LabAt.of_cells hb5⟩)
  clear hb5
  have hC5 : Below w.heap.size w w5 := hC4.trans (hB5.mono hC4.size)
  go_wp2_with fail
  refine (HI.out _ _ _ (SL4.out.below hB5) SL5.out).mono ?_
  rintro e w6 ⟨rfl, hB6⟩
  have hz6 := hB6.size
  have hC6 : Below w.heap.size w w6 := hC5.trans (hB6.mono hC5.size)
  go_wp2_with fail
  refine (toLabS_any _ l1 _ (HV1.out.below hC6) hlen1).mono ?_
  rintro e w7 ⟨g7, rfl, hg7, hb7, hB7⟩
  have hz7 := hB7.size
  have SL7 := Lib.hid (show LabSl w7 (.slice (some ⟨g7, 0, none⟩) l1.length l1.length) l1 from .inr ⟨g7, 0, _, rfl, hb7.lt, LabAt.of_cells hb7⟩)
  clear hb7
  have hC7 : Below w.heap.size w w7 := hC6.trans (hB7.mono hC6.size)
  go_wp2_with fail
  refine (eqLabS_same _ _ l1 _ (((SL4.out.below hB5).below hB6).below hB7) SL7.out hlen1).mono ?_
  rintro e w8 ⟨rfl, hB8⟩
  have hz8 := hB8.size
  have hC8 : Below w.heap.size w w8 := hC7.trans (hB8.mono hC7.size)
  go_wp2_with fail
  refine (toLabS_any _ l2 _ (HV2.out.below hC8) hlen2).mono ?_
  rintro e w9 ⟨g9, rfl, hg9, hb9, hB9⟩
  have SL9 := Lib.hid (show LabSl w9 (.slice (some ⟨g9, 0, none⟩) l2.length l2.length) l2 from .inr ⟨g9, 0, _, rfl, hb9.lt, LabAt.of_cells hb9⟩)
  clear hb9
  have hC9 : Below w.heap.size w w9 := hC8.trans (hB9.mono hC8.size)
  go_wp2_with fail
  refine (eqLabS_same _ _ l2 _ ((((SL5.out.below hB6).below hB7).below hB8).below hB9) SL9.out hlen2).mono ?_
  rintro e w10 ⟨rfl, hB10⟩
  go_wp2_with fail
  go_ret
  exact ⟨rfl, hC9.trans (hB10.mono hC9.size)⟩

theorem rowVars : ∀ n ∈ Rows.fnExactLabsMatchSpec.vars, ∃ g t ms, Try.prog.globalNamed n = some g ∧ (Try.prog.globals[g]?).map (·.type) = some t ∧ Try.prog.underlying t = some (.interface ms) := fun n hn => by cases hn
set_option maxRecDepth 100000 in
theorem contract (H : Type) (enc : TypeId × Value → H) (W : World) (base : Nat) (args : Array Value) (ds gs : List (DataW H)) (before : List MemPlace)
    (hval : ∀ (j : Nat) t v, Try.f7.params[j]? = some t → args[j]? = some v → Value.okWide Try.prog W .any base t v)
    (hW : DataW.Whole enc Try.prog Try.f7.params.toList Rows.fnExactLabsMatchSpec.vars false W args.toList ds gs before) (hL : laidMetH Try.prog Rows.fnExactLabsMatchRow.laid W) :
    Calls Try.prog 7 args W fun e W' => ∃ v, e = .returned v ∧ Rows.fnExactLabsMatchSpec.post enc Try.prog Try.f7 false true false false W args v W' := by
  have hW' := hW
  obtain ⟨p, q, hA0, hV, rfl, hfz, hnd⟩ := hW
  have hA : DataW.TrodAll enc Try.prog W 0 (fun _ => true) true Try.f7.params.toList args.toList ds p := hA0
  rw [Try.params7] at hA hval
  obtain ⟨v0, vs0, d0, ds0, p0, q0, hargs, rfl, rfl, h0, r0⟩ := trodAll_cons hA
  obtain ⟨v1, vs1, d1, ds1, p1, q1, rfl, rfl, rfl, h1, r1⟩ := trodAll_cons r0
  obtain ⟨rfl, rfl, rfl⟩ := trodAll_nil r1
  obtain rfl : args = #[v0, v1] := by cases args; simp_all
  obtain rfl : gs = [] := by cases gs with | nil => rfl | cons _ _ => exact (show False from hV).elim
  rw [MakeChecks.laidMetH_plain _ _ _ (by kernel_rfl)] at hL
  have hs0 := hval 0 _ v0 rfl rfl
  have hs1 := hval 1 _ v1 rfl rfl
  have fin : Calls Try.prog 7 #[v0, v1] W fun e w' => e = .returned (.bool true) ∧ Below W.heap.size W w' := by
    obtain ⟨fu, hf⟩ := h0
    obtain ⟨A, n, c, rfl, hn, l, hl, hsl⟩ := open_labS hs0 hf
    obtain ⟨fu', hf'⟩ := h1
    obtain ⟨A', n', c', rfl, hn', l', hl', hsl'⟩ := open_labS hs1 hf'
    by_cases hlong : n ≤ 1048576
    · by_cases hl2 : n + n' ≤ 1048576
      · exact walk _ _ l l' W hsl hsl' (by omega)
      · exact walk_long2 A n c A' n' c' W hlong (by omega) hn'
    · exact walk_long1 A n c _ W (by omega) hn
  refine fin.mono fun e W' ⟨he, hb⟩ => ?_
  subst he
  exact ⟨_, rfl, law_post Try.laidOut (by rw [Try.params7]; intro t ht; have k0 : Try.prog.readableRec 40 = true ∧ 40 < Try.prog.types.size := ⟨by kernel_rfl, of_decide_eq_true (by kernel_rfl)⟩; simp at ht; subst ht; exact k0) rowVars (tb := 4) rfl Try.underlying4 hW' rfl hb⟩

theorem door_met (os : Os) (args : Array Value) : laidMet Try.prog Rows.fnExactLabsMatchRow.laid ((World.doorLaid Try.prog 400 os).forCall (fun _ _ => 0) ⟨#[], args, []⟩).memory :=
  laidMet_of_run' 8 (by kernel_rfl) (by kernel_rfl)
set_option maxRecDepth 100000 in
theorem lifted (os : Os) (started : os.Started) (H : Type) (enc : TypeId × Value → H) (F : Stop.Interp) :
    ReturnsInHanded {} Try.checked os 7 .any ((OpenSpec.ofChange Rows.fnExactLabsMatchSpec).preRow enc Try.prog Try.f7 Rows.fnExactLabsMatchRow.domain false Rows.fnExactLabsMatchRow.laid) (((OpenSpec.ofChange Rows.fnExactLabsMatchSpec).at F).post enc Try.prog Try.f7 false true false false) := by
  refine returnsInHanded_of_row (C := Try.checked) (s := OpenSpec.ofChange Rows.fnExactLabsMatchSpec) Try.own started (by kernel_rfl) Try.func7
    (witness_row_atRef (enc := enc) (C := Try.checked) false (World.doorLaid Try.prog 400 os) #[.slice none 0 0, .slice none 0 0] rfl (by kernel_rfl) (by kernel_rfl) (by kernel_rfl)
      (OpenSpec.preRow_of_B rfl 8 (by kernel_rfl) (by kernel_rfl) (door_met os _))) ?_
  intro W base args ds gs before hval hW _ _ _ hL _ _
  exact contract H enc W base args ds gs before hval hW hL

theorem said : Rows.FnExactLabsMatchSaid :=
  OpenClaim.holds_of_cond 7 Try.f7 rfl rfl rfl rfl rfl rfl rfl ⟨rfl, rfl, rfl, rfl, rfl⟩ rfl rfl rfl rfl rfl (by kernel_rfl) Try.func7 (by kernel_rfl)
    (of_decide_eq_true (by kernel_rfl)) (by unfold Func.isWrapper; first | (rw [if_pos (by decide +kernel)]; kernel_rfl) | (rw [if_neg (by decide +kernel)]; exact ⟨rfl, rfl⟩))
    (fun os started H enc _ F => by rw [OpenClaim.pre_eq_preRow]; exact lifted os started H enc F)

end Go.Proofs.Ytelfoedgbgandaa.fnExactLabsMatch
