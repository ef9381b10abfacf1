/- FnExactLabsGet answers true at every list of labels and every key: LabsGet and its model agree, and the list is left as it was. No condition. -/
import Derived.Test.YtelfoedgbgandaaLabRow
import Derived.Test.YtelfoedgbgandaaLabS2
import Derived.Test.YtelfoedgbgandaaSlLab
namespace Go.Proofs.Ytelfoedgbgandaa.fnExactLabsGet
open Go.ChangeShapes Go.WideShapes Go.ChangeAt Go.RowKit Go.Joins

theorem walk_long (A : Option Addr) (n c : Nat) (w : World) (key : Int) (h : 1048576 < n) (hm : n ≤ maxLen) :
    Calls Try.prog 6 #[.slice A n c, .int .i64 key] w fun e w' => e = .returned (.bool true) ∧ Below w.heap.size w w' := by
  go_enter Try.func6, Try.ntmps6
  go_wp2_with fail
  refine (szLabS_no A n c 1048576 _ (by omega) (by omega) hm).mono ?_
  rintro e w1 ⟨rfl, rfl⟩
  go_wp2_with fail
  go_ret
  exact ⟨rfl, (by repeat' (first | exact Below.refl _ _ | refine Below.alloc ?_ ?_ _ | refine Below.setCell ?_ ?_ _ | refine Below.drew ?_ | (apply below_step; assumption) | (simp; done) | (simp; omega) | omega))⟩
set_option maxHeartbeats 1600000 in
theorem walk (v : Value) (l : List LV) (key : Int) (w : World) (hv : LabSl w v l) (hlen : l.length ≤ 1048576) :
    Calls Try.prog 6 #[v, .int .i64 key] w fun e w' => e = .returned (.bool true) ∧ Below w.heap.size w w' := by
  have hs := fun v w hv => sLabsGet_any v l key w hv hlen
  have hi := fun v w hv => LabsGet_any v l key w hv hlen
  generalize getOf l key = z at hs hi
  obtain ⟨z, ok⟩ := z
  have hne : (ok != ok) = false := by simp
  have hnz : (z != z) = false := by simp
  have HS := Lib.hid hs
  have HI := Lib.hid hi
  have HV := Lib.hid hv
  clear hs hi
  obtain ⟨A, c, rfl, _⟩ := hv.form
  have hl0 : (l.length : Int) ≤ 1048576 := by omega
  go_enter Try.func6, Try.ntmps6
  go_wp2_with fail
  refine (szLabS_yes A l.length c 1048576 _ (by omega) hl0).mono ?_
  rintro e w1 ⟨rfl, rfl⟩
  go_wp2_with fail
  refine (toLabS_any _ l _ HV.out hlen).mono ?_
  rintro e w1 ⟨g1, rfl, hg1, hb1, hB1⟩
  have hz1 := hB1.size
  have hl1 := hb1.lt
  have SL1 := Lib.hid (show LabSl w1 (.slice (some ⟨g1, 0, none⟩) l.length l.length) l from .inr ⟨g1, 0, _, rfl, hl1, LabAt.of_cells hb1⟩)
  clear hb1
  go_wp2_with fail
  refine (HS.out _ _ SL1.out).mono ?_
  rintro e w2 ⟨rfl, hB2⟩
  have hz2 := hB2.size
  have hB02 : Below w.heap.size w w2 := (by repeat' (first | exact Below.refl _ _ | refine Below.alloc ?_ ?_ _ | refine Below.setCell ?_ ?_ _ | refine Below.drew ?_ | (apply below_step; assumption) | (simp; done) | (simp; omega) | omega))
  go_wp2_with fail
  refine (toLabS_any _ l _ (HV.out.below hB02) hlen).mono ?_
  rintro e w3 ⟨g3, rfl, hg3, hb3, hB3⟩
  have hz3 := hB3.size
  have hl3 := hb3.lt
  have SL3 := Lib.hid (show LabSl w3 (.slice (some ⟨g3, 0, none⟩) l.length l.length) l from .inr ⟨g3, 0, _, rfl, hl3, LabAt.of_cells hb3⟩)
  clear hb3
  go_wp2_with fail
  refine (HI.out _ _ SL3.out).mono ?_
  rintro e w4 ⟨rfl, hB4⟩
  have hz4 := hB4.size
  have hB04 : Below w.heap.size w w4 := (by repeat' (first | exact Below.refl _ _ | refine Below.alloc ?_ ?_ _ | refine Below.setCell ?_ ?_ _ | refine Below.drew ?_ | (apply below_step; assumption) | (simp; done) | (simp; omega) | omega))
  go_wp2_with fail
  refine (toLabS_any _ l _ (HV.out.below hB04) hlen).mono ?_
  rintro e w5 ⟨g5, rfl, hg5, hb5, hB5⟩
  have hz5 := hB5.size
  have hl5 := hb5.lt
  have SL5 := Lib.hid (show LabSl w5 (.slice (some ⟨g5, 0, none⟩) l.length l.length) l from .inr ⟨g5, 0, _, rfl, hl5, LabAt.of_cells hb5⟩)
  have hB35 : Below w3.heap.size w3 w5 := hB4.trans (hB5.mono hz4)
  clear hb5
  go_wp2_with fail
  refine (eqLabS_same _ _ l _ (SL3.out.below hB35) SL5.out hlen).mono ?_
  rintro e w6 ⟨rfl, hB6⟩
  go_wp2_with fail
  go_ret
  exact ⟨rfl, (by repeat' (first | exact Below.refl _ _ | refine Below.alloc ?_ ?_ _ | refine Below.setCell ?_ ?_ _ | refine Below.drew ?_ | (apply below_step; assumption) | (simp; done) | (simp; omega) | omega))⟩

theorem rowVars : ∀ n ∈ Rows.fnExactLabsGetSpec.vars, ∃ g t ms, Try.prog.globalNamed n = some g ∧ (Try.prog.globals[g]?).map (·.type) = some t ∧ Try.prog.underlying t = some (.interface ms) := fun n hn => by cases hn
set_option maxRecDepth 100000 in
theorem contract (H : Type) (enc : TypeId × Value → H) (W : World) (base : Nat) (args : Array Value) (ds gs : List (DataW H)) (before : List MemPlace)
    (hval : ∀ (j : Nat) t v, Try.f6.params[j]? = some t → args[j]? = some v → Value.okWide Try.prog W .any base t v)
    (hW : DataW.Whole enc Try.prog Try.f6.params.toList Rows.fnExactLabsGetSpec.vars false W args.toList ds gs before) (hL : laidMetH Try.prog Rows.fnExactLabsGetRow.laid W) :
    Calls Try.prog 6 args W fun e W' => ∃ v, e = .returned v ∧ Rows.fnExactLabsGetSpec.post enc Try.prog Try.f6 false true false false W args v W' := by
  have hW' := hW
  obtain ⟨p, q, hA0, hV, rfl, hfz, hnd⟩ := hW
  have hA : DataW.TrodAll enc Try.prog W 0 (fun _ => true) true Try.f6.params.toList args.toList ds p := hA0
  rw [Try.params6] at hA hval
  obtain ⟨v0, vs0, d0, ds0, p0, q0, hargs, rfl, rfl, h0, r0⟩ := trodAll_cons hA
  obtain ⟨v1, vs1, d1, ds1, p1, q1, rfl, rfl, rfl, h1, r1⟩ := trodAll_cons r0
  obtain ⟨rfl, rfl, rfl⟩ := trodAll_nil r1
  obtain rfl : args = #[v0, v1] := by cases args; simp_all
  obtain rfl : gs = [] := by cases gs with | nil => rfl | cons _ _ => exact (show False from hV).elim
  rw [MakeChecks.laidMetH_plain _ _ _ (by kernel_rfl)] at hL
  have hs0 := hval 0 _ v0 rfl rfl
  obtain ⟨a1, rfl, rfl, rfl, wn1⟩ := open_int Try.underlying3 (hval 1 _ v1 rfl rfl) h1
  have fin : Calls Try.prog 6 #[v0, .int .i64 a1] W fun e w' => e = .returned (.bool true) ∧ Below W.heap.size W w' := by
    obtain ⟨fu, hf⟩ := h0
    obtain ⟨A, n, c, rfl, hn, l, hl, hsl⟩ := open_labS hs0 hf
    by_cases hlong : n ≤ 1048576
    · exact walk _ l a1 W hsl (by omega)
    · exact walk_long A n c W a1 (by omega) hn
  refine fin.mono fun e W' ⟨he, hb⟩ => ?_
  subst he
  exact ⟨_, rfl, law_post Try.laidOut (by rw [Try.params6]; intro t ht; have k0 : Try.prog.readableRec 40 = true ∧ 40 < Try.prog.types.size := ⟨by kernel_rfl, of_decide_eq_true (by kernel_rfl)⟩; have k1 : Try.prog.readableRec 3 = true ∧ 3 < Try.prog.types.size := ⟨by kernel_rfl, of_decide_eq_true (by kernel_rfl)⟩; simp at ht; rcases ht with rfl | rfl; all_goals (first | with_reducible exact k0 | with_reducible exact k1)) rowVars (tb := 4) rfl Try.underlying4 hW' rfl hb⟩

theorem door_met (os : Os) (args : Array Value) : laidMet Try.prog Rows.fnExactLabsGetRow.laid ((World.doorLaid Try.prog 400 os).forCall (fun _ _ => 0) ⟨#[], args, []⟩).memory :=
  laidMet_of_run' 8 (by kernel_rfl) (by kernel_rfl)
set_option maxRecDepth 100000 in
theorem lifted (os : Os) (started : os.Started) (H : Type) (enc : TypeId × Value → H) (F : Stop.Interp) :
    ReturnsInHanded {} Try.checked os 6 .any ((OpenSpec.ofChange Rows.fnExactLabsGetSpec).preRow enc Try.prog Try.f6 Rows.fnExactLabsGetRow.domain false Rows.fnExactLabsGetRow.laid) (((OpenSpec.ofChange Rows.fnExactLabsGetSpec).at F).post enc Try.prog Try.f6 false true false false) := by
  refine returnsInHanded_of_row (C := Try.checked) (s := OpenSpec.ofChange Rows.fnExactLabsGetSpec) Try.own started (by kernel_rfl) Try.func6
    (witness_row_atRef (enc := enc) (C := Try.checked) false (World.doorLaid Try.prog 400 os) #[.slice none 0 0, .int .i64 0] rfl (by kernel_rfl) (by kernel_rfl) (by kernel_rfl)
      (OpenSpec.preRow_of_B rfl 8 (by kernel_rfl) (by kernel_rfl) (door_met os _))) ?_
  intro W base args ds gs before hval hW _ _ _ hL _ _
  exact contract H enc W base args ds gs before hval hW hL

theorem said : Rows.FnExactLabsGetSaid :=
  OpenClaim.holds_of_cond 6 Try.f6 rfl rfl rfl rfl rfl rfl rfl ⟨rfl, rfl, rfl, rfl, rfl⟩ rfl rfl rfl rfl rfl (by kernel_rfl) Try.func6 (by kernel_rfl)
    (of_decide_eq_true (by kernel_rfl)) (by unfold Func.isWrapper; first | (rw [if_pos (by decide +kernel)]; kernel_rfl) | (rw [if_neg (by decide +kernel)]; exact ⟨rfl, rfl⟩))
    (fun os started H enc _ F => by rw [OpenClaim.pre_eq_preRow]; exact lifted os started H enc F)

end Go.Proofs.Ytelfoedgbgandaa.fnExactLabsGet
