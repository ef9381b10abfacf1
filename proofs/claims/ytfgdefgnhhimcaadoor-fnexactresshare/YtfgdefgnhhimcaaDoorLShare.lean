/- FnExactResShare answers true at every two amounts: ResShare and its model agree. Condition: the package variables errRange and errNoCap hold what their initialisers lay (tied to the text by the card). -/
import Derived.Test.YtfgdefgnhhimcaaDoorResRow
import Derived.Test.YtfgdefgnhhimcaaDoorResHI
import Derived.Test.YtfgdefgnhhimcaaDoorTwo
namespace Go.Proofs.YtfgdefgnhhimcaaDoor.fnExactResShare
open Go.ChangeShapes Go.WideShapes Go.ChangeAt Go.RowKit Go.Joins

theorem walk (a b : RV) (w : World) (x y : Addr) (hg : ErrAt x w) (hy : CapAt y w) :
    Calls Tryd.prog 11 #[.agg #[.int .i64 a.c, .int .i64 a.m, .int .i64 a.p], .agg #[.int .i64 b.c, .int .i64 b.m, .int .i64 b.p]] w fun e w' => e = .returned (.bool true) ∧ Below w.heap.size w w' := by
  · have hs := fun w => sResShare_any a b w
    have hi := fun w hg hy => ResShare_any a b w x y hg hy
    generalize resShare a b = t at hs hi
    have htt : (t != t) = false := by simp
    have HS := Lib.hid hs
    have HI := Lib.hid hi
    clear hs hi
    have HK := Lib.hid (two_keep a b _ _ (two_at a b w 40 40))
    have hg0 : ErrAt x ((w.alloc (.cells #[.int .i64 a.c, .int .i64 a.m, .int .i64 a.p] 40)).alloc (.cells #[.int .i64 b.c, .int .i64 b.m, .int .i64 b.p] 40)) := (hg.alloc _).alloc _
    have hy0 : CapAt y ((w.alloc (.cells #[.int .i64 a.c, .int .i64 a.m, .int .i64 a.p] 40)).alloc (.cells #[.int .i64 b.c, .int .i64 b.m, .int .i64 b.p] 40)) := (hy.alloc _).alloc _
    go_enter Tryd.func11, Tryd.ntmps11
    go_wp2_with fail
    go_region_held3 (fun w' => Below ((w.alloc (.cells #[.int .i64 a.c, .int .i64 a.m, .int .i64 a.p] 40)).alloc (.cells #[.int .i64 b.c, .int .i64 b.m, .int .i64 b.p] 40)).heap.size ((w.alloc (.cells #[.int .i64 a.c, .int .i64 a.m, .int .i64 a.p] 40)).alloc (.cells #[.int .i64 b.c, .int .i64 b.m, .int .i64 b.p] 40)) w' ∧ w'.cell? ⟨w.heap.size, 0, none⟩ = some (.int .i64 a.c) ∧ w'.cell? ⟨w.heap.size, 1, none⟩ = some (.int .i64 a.m) ∧ w'.cell? ⟨w.heap.size, 2, none⟩ = some (.int .i64 a.p) ∧ w'.cell? ⟨w.heap.size + 1, 0, none⟩ = some (.int .i64 b.c) ∧ w'.cell? ⟨w.heap.size + 1, 1, none⟩ = some (.int .i64 b.m) ∧ w'.cell? ⟨w.heap.size + 1, 2, none⟩ = some (.int .i64 b.p))
      (exact HK.out _ (by repeat' (first | exact Below.refl _ _ | refine Below.alloc ?_ ?_ _ | refine Below.setCell ?_ ?_ _ | refine Below.drew ?_ | (apply below_step; assumption) | (simp; done) | (simp; omega) | omega)))
      (first | (go_at_call 29; refine (toRes_any _ _).mono ?_; rintro e w1 ⟨rfl, hb1⟩; have hz1 := hb1.size; try simp at hz1) | (go_at_call 28; refine (HS.out _).mono ?_; rintro e w3 ⟨rfl, hb3⟩; have hz3 := hb3.size))
    have hB1 : Below ((w.alloc (.cells #[.int .i64 a.c, .int .i64 a.m, .int .i64 a.p] 40)).alloc (.cells #[.int .i64 b.c, .int .i64 b.m, .int .i64 b.p] 40)).heap.size ((w.alloc (.cells #[.int .i64 a.c, .int .i64 a.m, .int .i64 a.p] 40)).alloc (.cells #[.int .i64 b.c, .int .i64 b.m, .int .i64 b.p] 40)) w3 := (by repeat' (first | exact Below.refl _ _ | refine Below.alloc ?_ ?_ _ | refine Below.setCell ?_ ?_ _ | refine Below.drew ?_ | (apply below_step; assumption) | (simp; done) | (simp; omega) | omega))
    have hg1 := hg0.below hB1 (Nat.le_refl _)
    have hy1 := hy0.below hB1 (Nat.le_refl _)
    have HK1 := Lib.hid (two_keep a b w3 w.heap.size (HK.out w3 hB1).2)
    go_wp2_with fail
    go_region_held3 (fun w' => Below (w3).heap.size (w3) w' ∧ w'.cell? ⟨w.heap.size, 0, none⟩ = some (.int .i64 a.c) ∧ w'.cell? ⟨w.heap.size, 1, none⟩ = some (.int .i64 a.m) ∧ w'.cell? ⟨w.heap.size, 2, none⟩ = some (.int .i64 a.p) ∧ w'.cell? ⟨w.heap.size + 1, 0, none⟩ = some (.int .i64 b.c) ∧ w'.cell? ⟨w.heap.size + 1, 1, none⟩ = some (.int .i64 b.m) ∧ w'.cell? ⟨w.heap.size + 1, 2, none⟩ = some (.int .i64 b.p))
      (exact HK1.out _ (by repeat' (first | exact Below.refl _ _ | refine Below.alloc ?_ ?_ _ | refine Below.setCell ?_ ?_ _ | refine Below.drew ?_ | (apply below_step; assumption) | (simp; done) | (simp; omega) | omega)))
      (first | (go_at_call 29; refine (toRes_any _ _).mono ?_; rintro e w4 ⟨rfl, hb4⟩; have hz4 := hb4.size; try simp at hz4) | (go_at_call 27; refine (HI.out _ ?_ ?_).mono ?_; (exact hg1.below (by repeat' (first | exact Below.refl _ _ | refine Below.alloc ?_ ?_ _ | refine Below.setCell ?_ ?_ _ | refine Below.drew ?_ | (apply below_step; assumption) | (simp; done) | (simp; omega) | omega)) (Nat.le_refl _)); (exact hy1.below (by repeat' (first | exact Below.refl _ _ | refine Below.alloc ?_ ?_ _ | refine Below.setCell ?_ ?_ _ | refine Below.drew ?_ | (apply below_step; assumption) | (simp; done) | (simp; omega) | omega)) (Nat.le_refl _)); rintro e w6 ⟨rfl, hb6⟩; have hz6 := hb6.size; try simp at hz6))
    go_wp2_with fail
    go_ret
    exact ⟨rfl, (by repeat' (first | exact Below.refl _ _ | refine Below.alloc ?_ ?_ _ | refine Below.setCell ?_ ?_ _ | refine Below.drew ?_ | (apply below_step; assumption) | (simp; done) | (simp; omega) | omega))⟩

theorem capG : Tryd.prog.globalNamed "loop.example/g00718/impl.errNoCap" = some 0 := by kernel_rfl
theorem capT : (Tryd.prog.globals[0]?).map (·.type) = some 55 := by kernel_rfl
theorem capAt_of_laid {r : List (String × DataW Unit)} {W : World} (h : laidMet Tryd.prog (("loop.example/g00718/impl.errNoCap", Rows.laid_loop_example_g00718_impl_errNoCap) :: r) W) : ∃ a, CapAt a W := by
  obtain ⟨a, s, hv, _⟩ := laid_sentinel h capG capT Tryd.underlying55 Tryd.rowPtr Tryd.underlying90 Tryd.underlying115 rfl rfl Tryd.underlying9 Tryd.cellsEs Tryd.cellsStr
  exact ⟨a, by simpa [CapAt] using World.var?_cell capG hv 0⟩
theorem rowVars : ∀ n ∈ ["loop.example/g00718/impl.errNoCap", "loop.example/g00718/impl.errRange"], ∃ g t ms, Tryd.prog.globalNamed n = some g ∧ (Tryd.prog.globals[g]?).map (·.type) = some t ∧ Tryd.prog.underlying t = some (.interface ms) := fun n hn => by
  rcases List.mem_cons.1 hn with rfl | hn
  · exact ⟨_, _, _, capG, capT, Tryd.underlying55⟩
  · obtain rfl := List.mem_singleton.1 hn
    exact ⟨_, _, _, Tryd.errG, Tryd.errT, Tryd.underlying55⟩
set_option maxRecDepth 100000 in
theorem contract (H : Type) (enc : TypeId × Value → H) (W : World) (base : Nat) (args : Array Value) (ds gs : List (DataW H)) (before : List MemPlace)
    (hval : ∀ (j : Nat) t v, Tryd.f11.params[j]? = some t → args[j]? = some v → Value.okWide Tryd.prog W .any base t v)
    (hW : DataW.Whole enc Tryd.prog Tryd.f11.params.toList Rows.fnExactResShareSpec.vars false W args.toList ds gs before) (hL : laidMetH Tryd.prog Rows.fnExactResShareRow.laid W) :
    Calls Tryd.prog 11 args W fun e W' => ∃ v, e = .returned v ∧ Rows.fnExactResShareSpec.post enc Tryd.prog Tryd.f11 false true false false W args v W' := by
  have hW' := hW
  obtain ⟨p, q, hA0, hV, rfl, hfz, hnd⟩ := hW
  have hA : DataW.TrodAll enc Tryd.prog W 0 (fun _ => true) true Tryd.f11.params.toList args.toList ds p := hA0
  rw [Tryd.params11] at hA hval
  obtain ⟨v0, vs0, d0, ds0, p0, q0, hargs, rfl, rfl, h0, r0⟩ := trodAll_cons hA
  obtain ⟨v1, vs1, d1, ds1, p1, q1, rfl, rfl, rfl, h1, r1⟩ := trodAll_cons r0
  obtain ⟨rfl, rfl, rfl⟩ := trodAll_nil r1
  obtain rfl : args = #[v0, v1] := by cases args; simp_all
  rw [MakeChecks.laidMetH_plain _ _ _ (by kernel_rfl)] at hL
  obtain ⟨a0, rfl, wc0, wm0, wp0⟩ := open_res (hval 0 _ v0 rfl rfl) h0
  obtain ⟨a1, rfl, wc1, wm1, wp1⟩ := open_res (hval 1 _ v1 rfl rfl) h1
  obtain ⟨gg0, gg1, rfl⟩ : ∃ g0 g1, gs = [g0, g1] := by
    match gs, hV with
    | [g0, g1], _ => exact ⟨g0, g1, rfl⟩
  obtain ⟨x, hg⟩ := errAt_of_laid hL
  obtain ⟨y, hy⟩ := capAt_of_laid hL.tail
  refine (walk a0 a1 W x y hg hy).mono fun e W' ⟨he, hb⟩ => ?_
  subst he
  exact ⟨_, rfl, law_post Tryd.laidOut (by rw [Tryd.params11]; intro t ht; have k0 : Tryd.prog.readableRec 40 = true ∧ 40 < Tryd.prog.types.size := ⟨by kernel_rfl, of_decide_eq_true (by kernel_rfl)⟩; simp at ht; subst ht; exact k0) rowVars (tb := 4) rfl Tryd.underlying4 hW' rfl hb⟩

theorem door_met (os : Os) (args : Array Value) : laidMet Tryd.prog Rows.fnExactResShareRow.laid ((World.doorLaid Tryd.prog 400 os).forCall (fun _ _ => 0) ⟨#[], args, []⟩).memory :=
  laidMet_of_run' 8 (by kernel_rfl) (by kernel_rfl)
set_option maxRecDepth 100000 in
theorem lifted (os : Os) (started : os.Started) (H : Type) (enc : TypeId × Value → H) (F : Stop.Interp) :
    ReturnsInHanded {} Tryd.checked os 11 .any ((OpenSpec.ofChange Rows.fnExactResShareSpec).preRow enc Tryd.prog Tryd.f11 Rows.fnExactResShareRow.domain false Rows.fnExactResShareRow.laid) (((OpenSpec.ofChange Rows.fnExactResShareSpec).at F).post enc Tryd.prog Tryd.f11 false true false false) := by
  refine returnsInHanded_of_row (C := Tryd.checked) (s := OpenSpec.ofChange Rows.fnExactResShareSpec) Tryd.own started (by kernel_rfl) Tryd.func11
    (witness_row_atRef (enc := enc) (C := Tryd.checked) false (World.doorLaid Tryd.prog 400 os) #[.agg #[.int .i64 0, .int .i64 0, .int .i64 0], .agg #[.int .i64 0, .int .i64 0, .int .i64 0]] rfl (by kernel_rfl) (by kernel_rfl) (by kernel_rfl)
      (OpenSpec.preRow_of_B rfl 8 (by kernel_rfl) (by kernel_rfl) (door_met os _))) ?_
  intro W base args ds gs before hval hW _ _ _ hL _ _
  exact contract H enc W base args ds gs before hval hW hL

theorem said : Rows.FnExactResShareSaid :=
  OpenClaim.holds_of_cond 11 Tryd.f11 rfl rfl rfl rfl rfl rfl rfl ⟨rfl, rfl, rfl, rfl, rfl⟩ rfl rfl rfl rfl rfl (by kernel_rfl) Tryd.func11 (by kernel_rfl)
    (of_decide_eq_true (by kernel_rfl)) (by unfold Func.isWrapper; first | (rw [if_pos (by decide +kernel)]; kernel_rfl) | (rw [if_neg (by decide +kernel)]; exact ⟨rfl, rfl⟩))
    (fun os started H enc _ F => by rw [OpenClaim.pre_eq_preRow]; exact lifted os started H enc F)

theorem plain (f : FuncId) (fn : Func) (hf : Tryd.pinned.checked.prog.funcNamed "loop.example/g00718/laws.FnExactResShare" = some f) (hfn : Tryd.pinned.checked.prog.funcs[f]? = some fn) :
    true = Tryd.pinned.checked.prog.looks [] ∧ ∀ (j : Nat) t, fn.params[j]? = some t → Tryd.pinned.checked.prog.wantsStandIn t = false := by
  obtain rfl : f = 11 := Option.some.inj ((show Tryd.prog.funcNamed "loop.example/g00718/laws.FnExactResShare" = some 11 by kernel_rfl).symm.trans hf) |>.symm
  obtain rfl : fn = Tryd.f11 := (Option.some.inj (Tryd.func11.symm.trans hfn)).symm
  refine ⟨by kernel_rfl, fun j t ht => ?_⟩
  rw [Tryd.params11] at ht
  have hm := Array.mem_of_getElem? ht
  have k0 : Tryd.pinned.checked.prog.wantsStandIn 40 = false := (show Tryd.prog.wantsStandIn 40 = false by kernel_rfl)
  simp at hm
  subst hm; exact k0

/-- The card. -/
theorem card : Rows.FnExactResShareCardSaid :=
  Claim7.holds_tied_plain_at .later [] _ _ _ _ said (fun _ h => by cases h) (by kernel_rfl) (fun _ h => by cases h) fnExactResShare_row_tie rfl ⟨rfl, rfl⟩ (by kernel_rfl) rfl plain (by kernel_rfl)
end Go.Proofs.YtfgdefgnhhimcaaDoor.fnExactResShare
