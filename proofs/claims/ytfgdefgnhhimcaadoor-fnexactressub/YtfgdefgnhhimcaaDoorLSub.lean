/- FnExactResSub answers true at every two amounts: ResSub and its model agree. Condition: the package variable errRange holds what its initialiser lays (tied to the text by the card). -/
import Derived.Test.YtfgdefgnhhimcaaDoorResRow
import Derived.Test.YtfgdefgnhhimcaaDoorResC
import Derived.Test.YtfgdefgnhhimcaaDoorTwo
namespace Go.Proofs.YtfgdefgnhhimcaaDoor.fnExactResSub
open Go.ChangeShapes Go.WideShapes Go.ChangeAt Go.RowKit Go.Joins

set_option maxHeartbeats 1600000 in
theorem walk (a b : RV) (w : World) (x : Addr) (hg : ErrAt x w) :
    Calls Tryd.prog 8 #[.agg #[.int .i64 a.c, .int .i64 a.m, .int .i64 a.p], .agg #[.int .i64 b.c, .int .i64 b.m, .int .i64 b.p]] w fun e w' => e = .returned (.bool true) ∧ Below w.heap.size w w' := by
  cases h : resSubOk a b
  case true =>
    have hs := fun w => sResSub_any a b w
    have hi := fun w hg => ResSub_any a b w x hg
    simp only [h] at hs hi
    generalize resSub a b = r at hs hi
    have HS := Lib.hid hs
    have HI := Lib.hid hi
    clear h hs hi
    have HK := Lib.hid (two_keep a b _ _ (two_at a b w 40 40))
    have hg0 : ErrAt x ((w.alloc (.cells #[.int .i64 a.c, .int .i64 a.m, .int .i64 a.p] 40)).alloc (.cells #[.int .i64 b.c, .int .i64 b.m, .int .i64 b.p] 40)) := (hg.alloc _).alloc _
    go_enter Tryd.func8, Tryd.ntmps8
    go_upto_region 1 with fail
    go_cut [5, 6] (fun s5 s6 wx => s6 = .bool true ∧ PutAt ((w.alloc (.cells #[.int .i64 a.c, .int .i64 a.m, .int .i64 a.p] 40)).alloc (.cells #[.int .i64 b.c, .int .i64 b.m, .int .i64 b.p] 40)) r s5 wx)
    case first =>
      go_region_held3 (fun w' => Below ((w.alloc (.cells #[.int .i64 a.c, .int .i64 a.m, .int .i64 a.p] 40)).alloc (.cells #[.int .i64 b.c, .int .i64 b.m, .int .i64 b.p] 40)).heap.size ((w.alloc (.cells #[.int .i64 a.c, .int .i64 a.m, .int .i64 a.p] 40)).alloc (.cells #[.int .i64 b.c, .int .i64 b.m, .int .i64 b.p] 40)) w' ∧ w'.cell? ⟨w.heap.size, 0, none⟩ = some (.int .i64 a.c) ∧ w'.cell? ⟨w.heap.size, 1, none⟩ = some (.int .i64 a.m) ∧ w'.cell? ⟨w.heap.size, 2, none⟩ = some (.int .i64 a.p) ∧ w'.cell? ⟨w.heap.size + 1, 0, none⟩ = some (.int .i64 b.c) ∧ w'.cell? ⟨w.heap.size + 1, 1, none⟩ = some (.int .i64 b.m) ∧ w'.cell? ⟨w.heap.size + 1, 2, none⟩ = some (.int .i64 b.p))
        (exact HK.out _ (by repeat' (first | exact Below.refl _ _ | refine Below.alloc ?_ ?_ _ | refine Below.setCell ?_ ?_ _ | refine Below.drew ?_ | (apply below_step; assumption) | (simp; done) | (simp; omega) | omega)))
        (first | (go_at_call 29; refine (toRes_any _ _).mono ?_; rintro e w1 ⟨rfl, hb1⟩; obtain ⟨hc1, hf1⟩ := bcell hb1; have hl1 := blt hb1; (first | have hm1 := (blast hb1).2.2 | have hm1 := (blastd hb1).2.2 | have hm1 := True.intro); (try simp at hm1); have hz1 := hb1.size; try simp at hz1) | (go_at_call 32; refine (HS.out _).mono ?_; rintro e w3 ⟨rfl, hb3⟩; (first | have hn3 := hl1 _ (by assumption) | skip); obtain ⟨hc3, hf3⟩ := bcell hb3; have hl3 := blt hb3; (first | have hm3 := (blast hb3).2.2 | have hm3 := (blastd hb3).2.2 | have hm3 := True.intro); (try simp at hm3); have hz3 := hb3.size; try simp at hz3))
      all_goals
        go_wp2_with fail
        go_meet
        exact ⟨rfl, _, rfl, by (first | (simp; done) | (go_simp; done)), by (first | (simp; done) | (go_simp; done)), by (first | (simp; done) | (go_simp; done)), (by repeat' (first | exact Below.refl _ _ | refine Below.alloc ?_ ?_ _ | refine Below.setCell ?_ ?_ _ | refine Below.drew ?_ | (apply below_step; assumption) | (simp; done) | (simp; omega) | omega))⟩
    case rest =>
      obtain ⟨rfl, g5, rfl, k0, k1, k2, hB1⟩ := hcut
      have hg1 := hg0.below hB1 (Nat.le_refl _)
      have HK1 := Lib.hid (two_keep a b wc w.heap.size (HK.out wc hB1).2)
      have e5 := World.block_lt_of_cell? _ _ k0
      go_upto_region 2 with fail
      go_cut [7, 8] (fun s7 s8 wx => s8 = .bool true ∧ PutAt wc r s7 wx)
      case first =>
        go_region_held3 (fun w' => Below (wc).heap.size (wc) w' ∧ w'.cell? ⟨w.heap.size, 0, none⟩ = some (.int .i64 a.c) ∧ w'.cell? ⟨w.heap.size, 1, none⟩ = some (.int .i64 a.m) ∧ w'.cell? ⟨w.heap.size, 2, none⟩ = some (.int .i64 a.p) ∧ w'.cell? ⟨w.heap.size + 1, 0, none⟩ = some (.int .i64 b.c) ∧ w'.cell? ⟨w.heap.size + 1, 1, none⟩ = some (.int .i64 b.m) ∧ w'.cell? ⟨w.heap.size + 1, 2, none⟩ = some (.int .i64 b.p))
          (exact HK1.out _ (by repeat' (first | exact Below.refl _ _ | refine Below.alloc ?_ ?_ _ | refine Below.setCell ?_ ?_ _ | refine Below.drew ?_ | (apply below_step; assumption) | (simp; done) | (simp; omega) | omega)))
          (first | (go_at_call 29; refine (toRes_any _ _).mono ?_; rintro e w1 ⟨rfl, hb1⟩; obtain ⟨hc1, hf1⟩ := bcell hb1; have hl1 := blt hb1; (first | have hm1 := (blast hb1).2.2 | have hm1 := (blastd hb1).2.2 | have hm1 := True.intro); (try simp at hm1); have hz1 := hb1.size; try simp at hz1) | (go_at_call 17; refine (HI.out _ ?_).mono ?_; (exact hg1.below (by repeat' (first | exact Below.refl _ _ | refine Below.alloc ?_ ?_ _ | refine Below.setCell ?_ ?_ _ | refine Below.drew ?_ | (apply below_step; assumption) | (simp; done) | (simp; omega) | omega)) (Nat.le_refl _)); rintro e w3 ⟨rfl, hb3⟩; (first | have hn3 := hl1 _ (by assumption) | skip); obtain ⟨hc3, hf3⟩ := bcell hb3; have hl3 := blt hb3; (first | have hm3 := (blast hb3).2.2 | have hm3 := (blastd hb3).2.2 | have hm3 := True.intro); (try simp at hm3); have hz3 := hb3.size; try simp at hz3))
        all_goals
          go_wp2_with fail
          go_meet
          exact ⟨rfl, _, rfl, by (first | (simp; done) | (go_simp; done)), by (first | (simp; done) | (go_simp; done)), by (first | (simp; done) | (go_simp; done)), (by repeat' (first | exact Below.refl _ _ | refine Below.alloc ?_ ?_ _ | refine Below.setCell ?_ ?_ _ | refine Below.drew ?_ | (apply below_step; assumption) | (simp; done) | (simp; omega) | omega))⟩
      case rest =>
        obtain ⟨rfl, g7, rfl, m0, m1, m2, hB2⟩ := hcut
        have hz2 := hB2.size
        have hz1 := hB1.size
        simp at hz1
        have j0 := (hB2.cell (p := ⟨g5, 0, none⟩) e5).trans k0
        have j1 := (hB2.cell (p := ⟨g5, 1, none⟩) e5).trans k1
        have j2 := (hB2.cell (p := ⟨g5, 2, none⟩) e5).trans k2
        clear k0 k1 k2
        go_wp2_with fail
        refine (eqRes_same r _).mono ?_
        rintro e w9 ⟨rfl, hb9⟩
        have hz9 := hb9.size
        go_wp2_with fail
        go_ret
        exact ⟨rfl, (by repeat' (first | exact Below.refl _ _ | refine Below.alloc ?_ ?_ _ | refine Below.setCell ?_ ?_ _ | refine Below.drew ?_ | (apply below_step; assumption) | (simp; done) | (simp; omega) | omega))⟩
  case false =>
    have hs := fun w => sResSub_any a b w
    have hi := fun w hg => ResSub_any a b w x hg
    simp only [h] at hs hi
    generalize resSub a b = r at hs hi
    have HS := Lib.hid hs
    have HI := Lib.hid hi
    clear h hs hi
    have HK := Lib.hid (two_keep a b _ _ (two_at a b w 40 40))
    have hg0 : ErrAt x ((w.alloc (.cells #[.int .i64 a.c, .int .i64 a.m, .int .i64 a.p] 40)).alloc (.cells #[.int .i64 b.c, .int .i64 b.m, .int .i64 b.p] 40)) := (hg.alloc _).alloc _
    go_enter Tryd.func8, Tryd.ntmps8
    go_upto_region 1 with fail
    go_cut [5, 6] (fun s5 s6 wx => s6 = .bool false ∧ PutAt ((w.alloc (.cells #[.int .i64 a.c, .int .i64 a.m, .int .i64 a.p] 40)).alloc (.cells #[.int .i64 b.c, .int .i64 b.m, .int .i64 b.p] 40)) r s5 wx)
    case first =>
      go_region_held3 (fun w' => Below ((w.alloc (.cells #[.int .i64 a.c, .int .i64 a.m, .int .i64 a.p] 40)).alloc (.cells #[.int .i64 b.c, .int .i64 b.m, .int .i64 b.p] 40)).heap.size ((w.alloc (.cells #[.int .i64 a.c, .int .i64 a.m, .int .i64 a.p] 40)).alloc (.cells #[.int .i64 b.c, .int .i64 b.m, .int .i64 b.p] 40)) w' ∧ w'.cell? ⟨w.heap.size, 0, none⟩ = some (.int .i64 a.c) ∧ w'.cell? ⟨w.heap.size, 1, none⟩ = some (.int .i64 a.m) ∧ w'.cell? ⟨w.heap.size, 2, none⟩ = some (.int .i64 a.p) ∧ w'.cell? ⟨w.heap.size + 1, 0, none⟩ = some (.int .i64 b.c) ∧ w'.cell? ⟨w.heap.size + 1, 1, none⟩ = some (.int .i64 b.m) ∧ w'.cell? ⟨w.heap.size + 1, 2, none⟩ = some (.int .i64 b.p))
        (exact HK.out _ (by repeat' (first | exact Below.refl _ _ | refine Below.alloc ?_ ?_ _ | refine Below.setCell ?_ ?_ _ | refine Below.drew ?_ | (apply below_step; assumption) | (simp; done) | (simp; omega) | omega)))
        (first | (go_at_call 29; refine (toRes_any _ _).mono ?_; rintro e w1 ⟨rfl, hb1⟩; obtain ⟨hc1, hf1⟩ := bcell hb1; have hl1 := blt hb1; (first | have hm1 := (blast hb1).2.2 | have hm1 := (blastd hb1).2.2 | have hm1 := True.intro); (try simp at hm1); have hz1 := hb1.size; try simp at hz1) | (go_at_call 32; refine (HS.out _).mono ?_; rintro e w3 ⟨rfl, hb3⟩; (first | have hn3 := hl1 _ (by assumption) | skip); obtain ⟨hc3, hf3⟩ := bcell hb3; have hl3 := blt hb3; (first | have hm3 := (blast hb3).2.2 | have hm3 := (blastd hb3).2.2 | have hm3 := True.intro); (try simp at hm3); have hz3 := hb3.size; try simp at hz3))
      all_goals
        go_wp2_with fail
        go_meet
        exact ⟨rfl, _, rfl, by (first | (simp; done) | (go_simp; done)), by (first | (simp; done) | (go_simp; done)), by (first | (simp; done) | (go_simp; done)), (by repeat' (first | exact Below.refl _ _ | refine Below.alloc ?_ ?_ _ | refine Below.setCell ?_ ?_ _ | refine Below.drew ?_ | (apply below_step; assumption) | (simp; done) | (simp; omega) | omega))⟩
    case rest =>
      obtain ⟨rfl, g5, rfl, k0, k1, k2, hB1⟩ := hcut
      have hg1 := hg0.below hB1 (Nat.le_refl _)
      have HK1 := Lib.hid (two_keep a b wc w.heap.size (HK.out wc hB1).2)
      have e5 := World.block_lt_of_cell? _ _ k0
      go_upto_region 2 with fail
      go_cut [7, 8] (fun s7 s8 wx => s8 = .bool false ∧ PutAt wc r s7 wx)
      case first =>
        go_region_held3 (fun w' => Below (wc).heap.size (wc) w' ∧ w'.cell? ⟨w.heap.size, 0, none⟩ = some (.int .i64 a.c) ∧ w'.cell? ⟨w.heap.size, 1, none⟩ = some (.int .i64 a.m) ∧ w'.cell? ⟨w.heap.size, 2, none⟩ = some (.int .i64 a.p) ∧ w'.cell? ⟨w.heap.size + 1, 0, none⟩ = some (.int .i64 b.c) ∧ w'.cell? ⟨w.heap.size + 1, 1, none⟩ = some (.int .i64 b.m) ∧ w'.cell? ⟨w.heap.size + 1, 2, none⟩ = some (.int .i64 b.p))
          (exact HK1.out _ (by repeat' (first | exact Below.refl _ _ | refine Below.alloc ?_ ?_ _ | refine Below.setCell ?_ ?_ _ | refine Below.drew ?_ | (apply below_step; assumption) | (simp; done) | (simp; omega) | omega)))
          (first | (go_at_call 29; refine (toRes_any _ _).mono ?_; rintro e w1 ⟨rfl, hb1⟩; obtain ⟨hc1, hf1⟩ := bcell hb1; have hl1 := blt hb1; (first | have hm1 := (blast hb1).2.2 | have hm1 := (blastd hb1).2.2 | have hm1 := True.intro); (try simp at hm1); have hz1 := hb1.size; try simp at hz1) | (go_at_call 17; refine (HI.out _ ?_).mono ?_; (exact hg1.below (by repeat' (first | exact Below.refl _ _ | refine Below.alloc ?_ ?_ _ | refine Below.setCell ?_ ?_ _ | refine Below.drew ?_ | (apply below_step; assumption) | (simp; done) | (simp; omega) | omega)) (Nat.le_refl _)); rintro e w3 ⟨rfl, hb3⟩; (first | have hn3 := hl1 _ (by assumption) | skip); obtain ⟨hc3, hf3⟩ := bcell hb3; have hl3 := blt hb3; (first | have hm3 := (blast hb3).2.2 | have hm3 := (blastd hb3).2.2 | have hm3 := True.intro); (try simp at hm3); have hz3 := hb3.size; try simp at hz3))
        all_goals
          go_wp2_with fail
          go_meet
          exact ⟨rfl, _, rfl, by (first | (simp; done) | (go_simp; done)), by (first | (simp; done) | (go_simp; done)), by (first | (simp; done) | (go_simp; done)), (by repeat' (first | exact Below.refl _ _ | refine Below.alloc ?_ ?_ _ | refine Below.setCell ?_ ?_ _ | refine Below.drew ?_ | (apply below_step; assumption) | (simp; done) | (simp; omega) | omega))⟩
      case rest =>
        obtain ⟨rfl, g7, rfl, m0, m1, m2, hB2⟩ := hcut
        have hz2 := hB2.size
        have hz1 := hB1.size
        simp at hz1
        have j0 := (hB2.cell (p := ⟨g5, 0, none⟩) e5).trans k0
        have j1 := (hB2.cell (p := ⟨g5, 1, none⟩) e5).trans k1
        have j2 := (hB2.cell (p := ⟨g5, 2, none⟩) e5).trans k2
        clear k0 k1 k2
        go_wp2_with fail
        refine (eqRes_same r _).mono ?_
        rintro e w9 ⟨rfl, hb9⟩
        have hz9 := hb9.size
        go_wp2_with fail
        go_ret
        exact ⟨rfl, (by repeat' (first | exact Below.refl _ _ | refine Below.alloc ?_ ?_ _ | refine Below.setCell ?_ ?_ _ | refine Below.drew ?_ | (apply below_step; assumption) | (simp; done) | (simp; omega) | omega))⟩

theorem rowVars : ∀ n ∈ Rows.fnExactResSubSpec.vars, ∃ g t ms, Tryd.prog.globalNamed n = some g ∧ (Tryd.prog.globals[g]?).map (·.type) = some t ∧ Tryd.prog.underlying t = some (.interface ms) := errVars
set_option maxRecDepth 100000 in
theorem contract (H : Type) (enc : TypeId × Value → H) (W : World) (base : Nat) (args : Array Value) (ds gs : List (DataW H)) (before : List MemPlace)
    (hval : ∀ (j : Nat) t v, Tryd.f8.params[j]? = some t → args[j]? = some v → Value.okWide Tryd.prog W .any base t v)
    (hW : DataW.Whole enc Tryd.prog Tryd.f8.params.toList Rows.fnExactResSubSpec.vars false W args.toList ds gs before) (hL : laidMetH Tryd.prog Rows.fnExactResSubRow.laid W) :
    Calls Tryd.prog 8 args W fun e W' => ∃ v, e = .returned v ∧ Rows.fnExactResSubSpec.post enc Tryd.prog Tryd.f8 false true false false W args v W' := by
  have hW' := hW
  obtain ⟨p, q, hA0, hV, rfl, hfz, hnd⟩ := hW
  have hA : DataW.TrodAll enc Tryd.prog W 0 (fun _ => true) true Tryd.f8.params.toList args.toList ds p := hA0
  rw [Tryd.params8] at hA hval
  obtain ⟨v0, vs0, d0, ds0, p0, q0, hargs, rfl, rfl, h0, r0⟩ := trodAll_cons hA
  obtain ⟨v1, vs1, d1, ds1, p1, q1, rfl, rfl, rfl, h1, r1⟩ := trodAll_cons r0
  obtain ⟨rfl, rfl, rfl⟩ := trodAll_nil r1
  obtain rfl : args = #[v0, v1] := by cases args; simp_all
  rw [MakeChecks.laidMetH_plain _ _ _ (by kernel_rfl)] at hL
  obtain ⟨a0, rfl, wc0, wm0, wp0⟩ := open_res (hval 0 _ v0 rfl rfl) h0
  obtain ⟨a1, rfl, wc1, wm1, wp1⟩ := open_res (hval 1 _ v1 rfl rfl) h1
  obtain ⟨gg, tt, cs, fuel, d, pp, rfl, _⟩ := trodVars_one hV
  obtain ⟨x, hg⟩ := errAt_of_laid hL
  refine (walk a0 a1 W x hg).mono fun e W' ⟨he, hb⟩ => ?_
  subst he
  exact ⟨_, rfl, law_post Tryd.laidOut (by rw [Tryd.params8]; intro t ht; have k0 : Tryd.prog.readableRec 40 = true ∧ 40 < Tryd.prog.types.size := ⟨by kernel_rfl, of_decide_eq_true (by kernel_rfl)⟩; simp at ht; subst ht; exact k0) rowVars (tb := 4) rfl Tryd.underlying4 hW' rfl hb⟩

theorem door_met (os : Os) (args : Array Value) : laidMet Tryd.prog Rows.fnExactResSubRow.laid ((World.doorLaid Tryd.prog 400 os).forCall (fun _ _ => 0) ⟨#[], args, []⟩).memory :=
  laidMet_of_run' 8 (by kernel_rfl) (by kernel_rfl)
set_option maxRecDepth 100000 in
theorem lifted (os : Os) (started : os.Started) (H : Type) (enc : TypeId × Value → H) (F : Stop.Interp) :
    ReturnsInHanded {} Tryd.checked os 8 .any ((OpenSpec.ofChange Rows.fnExactResSubSpec).preRow enc Tryd.prog Tryd.f8 Rows.fnExactResSubRow.domain false Rows.fnExactResSubRow.laid) (((OpenSpec.ofChange Rows.fnExactResSubSpec).at F).post enc Tryd.prog Tryd.f8 false true false false) := by
  refine returnsInHanded_of_row (C := Tryd.checked) (s := OpenSpec.ofChange Rows.fnExactResSubSpec) Tryd.own started (by kernel_rfl) Tryd.func8
    (witness_row_atRef (enc := enc) (C := Tryd.checked) false (World.doorLaid Tryd.prog 400 os) #[.agg #[.int .i64 0, .int .i64 0, .int .i64 0], .agg #[.int .i64 0, .int .i64 0, .int .i64 0]] rfl (by kernel_rfl) (by kernel_rfl) (by kernel_rfl)
      (OpenSpec.preRow_of_B rfl 8 (by kernel_rfl) (by kernel_rfl) (door_met os _))) ?_
  intro W base args ds gs before hval hW _ _ _ hL _ _
  exact contract H enc W base args ds gs before hval hW hL

theorem said : Rows.FnExactResSubSaid :=
  OpenClaim.holds_of_cond 8 Tryd.f8 rfl rfl rfl rfl rfl rfl rfl ⟨rfl, rfl, rfl, rfl, rfl⟩ rfl rfl rfl rfl rfl (by kernel_rfl) Tryd.func8 (by kernel_rfl)
    (of_decide_eq_true (by kernel_rfl)) (by unfold Func.isWrapper; first | (rw [if_pos (by decide +kernel)]; kernel_rfl) | (rw [if_neg (by decide +kernel)]; exact ⟨rfl, rfl⟩))
    (fun os started H enc _ F => by rw [OpenClaim.pre_eq_preRow]; exact lifted os started H enc F)

theorem plain (f : FuncId) (fn : Func) (hf : Tryd.pinned.checked.prog.funcNamed "loop.example/g00718/laws.FnExactResSub" = some f) (hfn : Tryd.pinned.checked.prog.funcs[f]? = some fn) :
    true = Tryd.pinned.checked.prog.looks [] ∧ ∀ (j : Nat) t, fn.params[j]? = some t → Tryd.pinned.checked.prog.wantsStandIn t = false := by
  obtain rfl : f = 8 := Option.some.inj ((show Tryd.prog.funcNamed "loop.example/g00718/laws.FnExactResSub" = some 8 by kernel_rfl).symm.trans hf) |>.symm
  obtain rfl : fn = Tryd.f8 := (Option.some.inj (Tryd.func8.symm.trans hfn)).symm
  refine ⟨by kernel_rfl, fun j t ht => ?_⟩
  rw [Tryd.params8] at ht
  have hm := Array.mem_of_getElem? ht
  have k0 : Tryd.prog.wantsStandIn 40 = false := by kernel_rfl
  simp at hm
  subst hm; exact k0

/-- The card. -/
theorem card : Rows.FnExactResSubCardSaid :=
  Claim7.holds_tied_plain_at .later [] _ _ _ _ said (fun _ h => by cases h) (by kernel_rfl) (fun _ h => by cases h) fnExactResSub_row_tie rfl ⟨rfl, rfl⟩ (by kernel_rfl) rfl plain (by kernel_rfl)
end Go.Proofs.YtfgdefgnhhimcaaDoor.fnExactResSub
