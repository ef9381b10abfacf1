/- FnRes answers true at every code: adding an amount and subtracting it again restores the original, and an amount can be subtracted exactly if it fits. Condition: the package variable errRange holds what its initialiser lays (tied to the text by the card). -/
import Derived.Test.YtfgdefgnhhimcaaDoorCodeRow
import Derived.Test.YtfgdefgnhhimcaaDoorFnResPure
import Derived.Test.YtfgdefgnhhimcaaDoorCurD
import Derived.Test.YtfgdefgnhhimcaaDoorSumI
import Derived.Test.YtfgdefgnhhimcaaDoorResT
namespace Go.Proofs.YtfgdefgnhhimcaaDoor.fnRes
open Go.ChangeShapes Go.WideShapes Go.ChangeAt Go.RowKit Go.Joins

theorem walk_big (A : Option Addr) (n c : Nat) (w : World) (h : 1048576 < n) :
    Calls Tryd.prog 3 #[.slice A n c] w fun e w' => e = .returned (.bool true) ∧ Below w.heap.size w w' := by
  go_enter Tryd.func3, Tryd.ntmps3
  go_wp2_with fail
  refine (big_yes A n c _ h).mono ?_
  rintro e w1 ⟨rfl, rfl⟩
  go_wp2_with fail
  go_ret
  exact ⟨rfl, (by repeat' (first | exact Below.refl _ _ | refine Below.alloc ?_ ?_ _ | refine Below.setCell ?_ ?_ _ | refine Below.drew ?_ | (apply below_step; assumption) | (simp; done) | (simp; omega) | omega))⟩

set_option maxRecDepth 100000 in
set_option maxHeartbeats 4000000 in
theorem walk (A : Option Addr) (n c : Nat) (w : World) (x : Addr) (hg : ErrAt x w) (hn : n ≤ 1048576) (hcode : CodeAt w A n) :
    Calls Tryd.prog 3 #[.slice A n c] w fun e w' => e = .returned (.bool true) ∧ Below w.heap.size w w' := by
  have HC := Lib.hid hcode
  clear hcode
  have hne := neq_res
  have heq := eq_res
  have hgd := guard_res
  go_enter Tryd.func3, Tryd.ntmps3
  go_wp2_with fail
  refine (big_no A n c _ hn).mono ?_
  rintro e w1 ⟨rfl, rfl⟩
  go_wp2_with fail
  refine (DrawResAdd_any A n c _ hn HC.out).mono ?_
  rintro e w1 ⟨a, b, rfl, hb1⟩
  have hz1 := hb1.size
  go_wp2_with fail
  have hE1 := ((hg.below hb1 (Nat.le_refl _)).alloc (.cells #[.int .i64 a.c, .int .i64 a.m, .int .i64 a.p] 25)).alloc (.cells #[.int .i64 b.c, .int .i64 b.m, .int .i64 b.p] 25)
  refine (ResAdd_any a b _ x hE1).mono ?_
  rintro e w2 ⟨rfl, hb2⟩
  have hz2 := hb2.size
  simp at hz2
  obtain ⟨hc2, hf2⟩ := bcell hb2
  have hE2 := hE1.below hb2 (Nat.le_refl _)
  have q20 : w1.heap.size < w2.heap.size := by omega
  have q21 : w1.heap.size + 1 < w2.heap.size := by omega
  go_wp2_with fail
  refine (sResAdd_any a b _).mono ?_
  rintro e w3 ⟨rfl, hb3⟩
  have hz3 := hb3.size
  simp at hz3
  obtain ⟨hc3, hf3⟩ := bcell hb3
  have hE3 := (hE2.alloc _).below hb3 (Nat.le_refl _)
  have q30 : w1.heap.size < w3.heap.size := by omega
  have q31 : w1.heap.size + 1 < w3.heap.size := by omega
  have q32 : w2.heap.size < w3.heap.size := by omega
  have hoo : (resAddOk a b != resAddOk a b) = false := by simp
  go_wp2_with fail
  refine (ResSub_any a b _ x (hE3.alloc _)).mono ?_
  rintro e w4 ⟨rfl, hb4⟩
  have hz4 := hb4.size
  simp at hz4
  obtain ⟨hc4, hf4⟩ := bcell hb4
  have hE4 := (hE3.alloc _).below hb4 (Nat.le_refl _)
  have q40 : w1.heap.size < w4.heap.size := by omega
  have q41 : w1.heap.size + 1 < w4.heap.size := by omega
  have q42 : w2.heap.size < w4.heap.size := by omega
  go_wp2_with fail
  refine (ResFits_any b a _ x (hE4.alloc _)).mono ?_
  rintro e w5 ⟨rfl, hb5⟩
  have hz5 := hb5.size
  simp at hz5
  obtain ⟨hc5, hf5⟩ := bcell hb5
  have hE5 := (hE4.alloc _).below hb5 (Nat.le_refl _)
  have q50 : w1.heap.size < w5.heap.size := by omega
  have q51 : w1.heap.size + 1 < w5.heap.size := by omega
  have q52 : w2.heap.size < w5.heap.size := by omega
  have hss : (resSubOk a b != resSubOk a b) = false := by simp
  cases hok : resAddOk a b
  · go_wp2_with fail
    go_ret
    exact ⟨rfl, (by repeat' (first | exact Below.refl _ _ | refine Below.alloc ?_ ?_ _ | refine Below.setCell ?_ ?_ _ | refine Below.drew ?_ | (apply below_step; assumption) | (simp; done) | (simp; omega) | omega))⟩
  · have hsub := fun w hg => ResSub_any (resAdd a b) b w x hg
    have hsum := fun v w hg hv => ResSum_any v [a, b] w x hg hv (by simp)
    have hfit := fun w hg => ResFits_any a (resAdd a b) w x hg
    simp only [(back_ok hok).1, (back_ok hok).2, fits_ok hok, sum_two hok] at hsub hsum hfit
    generalize resAdd a b = r at *
    have HSUB := Lib.hid hsub
    have HSUM := Lib.hid hsum
    have HFIT := Lib.hid hfit
    clear hsub hsum hfit hok
    go_wp2_with fail
    refine (HSUB.out _ hE5).mono ?_
    rintro e w6 ⟨rfl, hb6⟩
    have hz6 := hb6.size
    obtain ⟨hc6, hf6⟩ := bcell hb6
    have hE6 := hE5.below hb6 (Nat.le_refl _)
    have q60 : w1.heap.size < w6.heap.size := by omega
    have q61 : w1.heap.size + 1 < w6.heap.size := by omega
    have q62 : w2.heap.size < w6.heap.size := by omega
    go_wp2_with fail
    refine (HSUM.out _ _ ((hE6.alloc _).alloc _) ?_).mono ?_
    · refine .inr ⟨w6.heap.size + 1, 0, 2, rfl, by simp, fun i r hr => ?_⟩
      match i, hr with
      | 0, hr => obtain rfl := Option.some.inj hr; exact ⟨by simp, by simp, by simp⟩
      | 1, hr => obtain rfl := Option.some.inj hr; exact ⟨by simp, by simp, by simp⟩
    rintro e w7 ⟨rfl, hb7⟩
    have hz7 := hb7.size
    simp at hz7
    obtain ⟨hc7, hf7⟩ := bcell hb7
    have hE7 := ((hE6.alloc _).alloc _).below hb7 (Nat.le_refl _)
    have q70 : w1.heap.size < w7.heap.size := by omega
    have q71 : w1.heap.size + 1 < w7.heap.size := by omega
    have q72 : w2.heap.size < w7.heap.size := by omega
    have q76 : w6.heap.size < w7.heap.size := by omega
    have p0 : w1.heap.size < w6.heap.size + 1 := by omega
    have p1 : w1.heap.size < w6.heap.size + 1 + 1 := by omega
    have p2 : w2.heap.size < w6.heap.size + 1 := by omega
    have p3 : w2.heap.size < w6.heap.size + 1 + 1 := by omega
    go_wp2_with fail
    refine (HFIT.out _ (hE7.alloc _)).mono ?_
    rintro e w8 ⟨rfl, hb8⟩
    have hz8 := hb8.size
    simp at hz8
    go_wp2_with fail
    go_ret
    exact ⟨rfl, (by repeat' (first | exact Below.refl _ _ | refine Below.alloc ?_ ?_ _ | refine Below.setCell ?_ ?_ _ | refine Below.drew ?_ | (apply below_step; assumption) | (simp; done) | (simp; omega) | omega))⟩

theorem rowVars : ∀ n ∈ Rows.fnResSpec.vars, ∃ g t ms, Tryd.prog.globalNamed n = some g ∧ (Tryd.prog.globals[g]?).map (·.type) = some t ∧ Tryd.prog.underlying t = some (.interface ms) := errVars
set_option maxRecDepth 100000 in
theorem contract (H : Type) (enc : TypeId × Value → H) (W : World) (base : Nat) (args : Array Value) (ds gs : List (DataW H)) (before : List MemPlace)
    (hval : ∀ (j : Nat) t v, Tryd.f3.params[j]? = some t → args[j]? = some v → Value.okWide Tryd.prog W .any base t v)
    (hW : DataW.Whole enc Tryd.prog Tryd.f3.params.toList Rows.fnResSpec.vars false W args.toList ds gs before) (hL : laidMetH Tryd.prog Rows.fnResRow.laid W) :
    Calls Tryd.prog 3 args W fun e W' => ∃ v, e = .returned v ∧ Rows.fnResSpec.post enc Tryd.prog Tryd.f3 false true false false W args v W' := by
  have hW' := hW
  obtain ⟨p, q, hA0, hV, rfl, hfz, hnd⟩ := hW
  have hA : DataW.TrodAll enc Tryd.prog W 0 (fun _ => true) true Tryd.f3.params.toList args.toList ds p := hA0
  rw [Tryd.params3] at hA hval
  obtain ⟨v0, vs0, d0, ds0, p0, q0, hargs, rfl, rfl, h0, r0⟩ := trodAll_cons hA
  obtain ⟨rfl, rfl, rfl⟩ := trodAll_nil r0
  obtain rfl : args = #[v0] := by cases args; simp_all
  rw [MakeChecks.laidMetH_plain _ _ _ (by kernel_rfl)] at hL
  have hs0 := hval 0 _ v0 rfl rfl
  obtain ⟨gg, tt, cs, fuel, d, pp, rfl, _⟩ := trodVars_one hV
  obtain ⟨x, hg⟩ := errAt_of_laid hL
  have fin : Calls Tryd.prog 3 #[v0] W fun e w' => e = .returned (.bool true) ∧ Below W.heap.size W w' := by
    obtain ⟨A, n, c, rfl, hn, _, hcode⟩ := open_code hs0 h0
    by_cases hlong : n ≤ 1048576
    · exact walk A n c W x hg hlong hcode
    · exact walk_big A n c W (by omega)
  refine fin.mono fun e W' ⟨he, hb⟩ => ?_
  subst he
  exact ⟨_, rfl, law_post Tryd.laidOut (by rw [Tryd.params3]; intro t ht; have k0 : Tryd.prog.readableRec 22 = true ∧ 22 < Tryd.prog.types.size := ⟨by kernel_rfl, of_decide_eq_true (by kernel_rfl)⟩; simp at ht; subst ht; exact k0) rowVars (tb := 4) rfl Tryd.underlying4 hW' rfl hb⟩

theorem door_met (os : Os) (args : Array Value) : laidMet Tryd.prog Rows.fnResRow.laid ((World.doorLaid Tryd.prog 400 os).forCall (fun _ _ => 0) ⟨#[], args, []⟩).memory :=
  laidMet_of_run' 8 (by kernel_rfl) (by kernel_rfl)
set_option maxRecDepth 100000 in
theorem lifted (os : Os) (started : os.Started) (H : Type) (enc : TypeId × Value → H) (F : Stop.Interp) :
    ReturnsInHanded {} Tryd.checked os 3 .any ((OpenSpec.ofChange Rows.fnResSpec).preRow enc Tryd.prog Tryd.f3 Rows.fnResRow.domain false Rows.fnResRow.laid) (((OpenSpec.ofChange Rows.fnResSpec).at F).post enc Tryd.prog Tryd.f3 false true false false) := by
  refine returnsInHanded_of_row (C := Tryd.checked) (s := OpenSpec.ofChange Rows.fnResSpec) Tryd.own started (by kernel_rfl) Tryd.func3
    (witness_row_atRef (enc := enc) (C := Tryd.checked) false (World.doorLaid Tryd.prog 400 os) #[.slice none 0 0] rfl (by kernel_rfl) (by kernel_rfl) (by kernel_rfl)
      (OpenSpec.preRow_of_B rfl 8 (by kernel_rfl) (by kernel_rfl) (door_met os _))) ?_
  intro W base args ds gs before hval hW _ _ _ hL _ _
  exact contract H enc W base args ds gs before hval hW hL

theorem said : Rows.FnResSaid :=
  OpenClaim.holds_of_cond 3 Tryd.f3 rfl rfl rfl rfl rfl rfl rfl ⟨rfl, rfl, rfl, rfl, rfl⟩ rfl rfl rfl rfl rfl (by kernel_rfl) Tryd.func3 (by kernel_rfl)
    (of_decide_eq_true (by kernel_rfl)) (by unfold Func.isWrapper; first | (rw [if_pos (by decide +kernel)]; kernel_rfl) | (rw [if_neg (by decide +kernel)]; exact ⟨rfl, rfl⟩))
    (fun os started H enc _ F => by rw [OpenClaim.pre_eq_preRow]; exact lifted os started H enc F)

theorem plain (f : FuncId) (fn : Func) (hf : Tryd.pinned.checked.prog.funcNamed "loop.example/g00718/laws.FnRes" = some f) (hfn : Tryd.pinned.checked.prog.funcs[f]? = some fn) :
    true = Tryd.pinned.checked.prog.looks [] ∧ ∀ (j : Nat) t, fn.params[j]? = some t → Tryd.pinned.checked.prog.wantsStandIn t = false := by
  obtain rfl : f = 3 := Option.some.inj ((show Tryd.prog.funcNamed "loop.example/g00718/laws.FnRes" = some 3 by kernel_rfl).symm.trans hf) |>.symm
  obtain rfl : fn = Tryd.f3 := (Option.some.inj (Tryd.func3.symm.trans hfn)).symm
  refine ⟨by kernel_rfl, fun j t ht => ?_⟩
  rw [Tryd.params3] at ht
  have hm := Array.mem_of_getElem? ht
  have k0 : Tryd.pinned.checked.prog.wantsStandIn 22 = false := (show Tryd.prog.wantsStandIn 22 = false by kernel_rfl)
  simp at hm
  subst hm; exact k0

/-- The card. -/
theorem card : Rows.FnResCardSaid :=
  Claim7.holds_tied_plain_at .later [] _ _ _ _ said (fun _ h => by cases h) (by kernel_rfl) (fun _ h => by cases h) fnRes_row_tie rfl ⟨rfl, rfl⟩ (by kernel_rfl) rfl plain (by kernel_rfl)
end Go.Proofs.YtfgdefgnhhimcaaDoor.fnRes
