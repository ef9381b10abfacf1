/- FnTimes answers true at every code: n times an amount is the sum of n copies of it. Condition: the package variable errRange holds what its initialiser lays (tied to the text by the card). -/
import Derived.Test.YtfgdefgnhhimcaaDoorCodeRow
import Derived.Test.YtfgdefgnhhimcaaDoorFnTimesPure
import Derived.Test.YtfgdefgnhhimcaaDoorCurT
import Derived.Test.YtfgdefgnhhimcaaDoorSumS
import Derived.Test.YtfgdefgnhhimcaaDoorResTS
import Derived.OwnWalk
namespace Go.Proofs.YtfgdefgnhhimcaaDoor.fnTimes
open Go.ChangeShapes Go.WideShapes Go.ChangeAt Go.RowKit Go.Joins

theorem infoRes : (Tryd.prog.info? 25).map (fun i => (i.zero, i.size, i.bytes)) = some (some (.agg #[.int .i64 0, .int .i64 0, .int .i64 0]), 3, 24) := by kernel_rfl
/-- The cells of k copies. -/
def reps (a : RV) : Nat → List Value
  | 0 => []
  | k + 1 => reps a k ++ [.int .i64 a.c, .int .i64 a.m, .int .i64 a.p]
theorem reps_len (a : RV) (k : Nat) : (reps a k).length = k * 3 := by
  induction k with
  | zero => rfl
  | succ k ih => unfold reps; simp [ih]; omega
theorem reps_at (a : RV) : ∀ (k i : Nat), i < k → (reps a k)[i * 3]? = some (.int .i64 a.c) ∧ (reps a k)[i * 3 + 1]? = some (.int .i64 a.m) ∧ (reps a k)[i * 3 + 2]? = some (.int .i64 a.p)
  | 0, i, h => absurd h (by omega)
  | k + 1, i, h => by
    unfold reps
    have hl := reps_len a k
    by_cases hi : i < k
    · obtain ⟨h1, h2, h3⟩ := reps_at a k i hi
      rw [List.getElem?_append_left (by omega), List.getElem?_append_left (by omega), List.getElem?_append_left (by omega)]
      exact ⟨h1, h2, h3⟩
    · obtain rfl : i = k := by omega
      rw [List.getElem?_append_right (by omega), List.getElem?_append_right (by omega), List.getElem?_append_right (by omega), hl]
      simp
theorem sl_of_own {w : World} {base : Nat} {v : Value} {k : Nat} {a : RV} (h : w.ownsRow base 25 3 v k (reps a k)) : ResSl w v (List.replicate k a) := by
  rcases h.2 with ⟨rfl, rfl⟩ | ⟨g, cap, cur, rfl, hg, hh, _⟩
  · exact .inl ⟨rfl, _, _, rfl⟩
  · refine .inr ⟨g, 0, cap, by simp, (show BlockIs w g 25 cur from hh).lt, fun i r hr => ?_⟩
    have hi : i < k := by have := (List.getElem?_eq_some_iff.1 hr).1; simpa using this
    obtain rfl : a = r := by simpa [hi] using hr
    obtain ⟨h1, h2, h3⟩ := reps_at a k i hi
    rw [Nat.zero_add, h.cellAt _ (by omega), h.cellAt _ (by omega), h.cellAt _ (by omega)]
    exact ⟨h1, h2, h3⟩

theorem walk_big (A : Option Addr) (n c : Nat) (w : World) (h : 1048576 < n) :
    Calls Tryd.prog 4 #[.slice A n c] w fun e w' => e = .returned (.bool true) ∧ Below w.heap.size w w' := by
  go_enter Tryd.func4, Tryd.ntmps4
  go_wp2_with fail
  refine (big_yes A n c _ h).mono ?_
  rintro e w1 ⟨rfl, rfl⟩
  go_wp2_with fail
  go_ret
  exact ⟨rfl, (by repeat' (first | exact Below.refl _ _ | refine Below.alloc ?_ ?_ _ | refine Below.setCell ?_ ?_ _ | refine Below.drew ?_ | (apply below_step; assumption) | (simp; done) | (simp; omega) | omega))⟩

set_option maxRecDepth 100000 in
set_option maxHeartbeats 6000000 in
theorem walk (A : Option Addr) (n c : Nat) (w : World) (x : Addr) (hg : ErrAt x w) (hn : n ≤ 1048576) (hcode : CodeAt w A n) :
    Calls Tryd.prog 4 #[.slice A n c] w fun e w' => e = .returned (.bool true) ∧ Below w.heap.size w w' := by
  have HC := Lib.hid hcode
  clear hcode
  obtain ⟨i0, hi, hz0, hz1', hz2'⟩ := info_parts infoRes
  go_enter Tryd.func4, Tryd.ntmps4
  go_wp2_with fail
  refine (big_no A n c _ hn).mono ?_
  rintro e w1 ⟨rfl, rfl⟩
  go_wp2_with fail
  refine (DrawResTimes_any A n c _ hn HC.out).mono ?_
  rintro e w1 ⟨a, kk, rfl, hb1⟩
  have hz1 := hb1.size
  go_wp2_with fail
  have hBA : Below w.heap.size w (w1.alloc (.cells #[.int .i64 a.c, .int .i64 a.m, .int .i64 a.p] 25)) := (by repeat' (first | exact Below.refl _ _ | refine Below.alloc ?_ ?_ _ | refine Below.setCell ?_ ?_ _ | refine Below.drew ?_ | (apply below_step; assumption) | (simp; done) | (simp; omega) | omega))
  refine (lpick_any A n c 3 12 _ hn (HC.out.below hBA) (by omega) (by omega) (by omega) (by omega)).mono ?_
  rintro e w2 ⟨z, z0, z1, rfl, rfl⟩
  obtain ⟨m, rfl⟩ := Int.eq_ofNat_of_zero_le z0
  have hm : m < 12 := by omega
  clear HC z0 z1
  go_wp2_with fail
  go_loopw [6, 7] (fun s6 s7 wr => ∃ k : Nat, k ≤ m ∧ s7 = .int .i64 k ∧ wr.ownsRow (w1.heap.size + 1) 25 3 s6 k (reps a k) ∧ Below (w1.heap.size + 1) (w1.alloc (.cells #[.int .i64 a.c, .int .i64 a.m, .int .i64 a.p] 25)) wr) (fun _ s7 _ => (m - intOf s7).toNat)
  case atStart =>
    refine ⟨0, by omega, rfl, ?_, (by repeat' (first | exact Below.refl _ _ | refine Below.alloc ?_ ?_ _ | refine Below.setCell ?_ ?_ _ | refine Below.drew ?_ | (apply below_step; assumption) | (simp; done) | (simp; omega) | omega))⟩
    refine ⟨rfl, .inr ⟨w1.heap.size + 1, 0, #[], rfl, by omega, ?_, by omega, by unfold maxLen; omega, rfl, rfl⟩⟩
    have := BlockIs.new (w1.alloc (.cells #[.int .i64 a.c, .int .i64 a.m, .int .i64 a.p] 25)) 25 #[]
    simpa [BlockIs] using this
  case round =>
    obtain ⟨k, hk, rfl, hown, hB⟩ := hrel
    have hzr := hB.size
    simp at hzr
    have b0 : wr.cell? ⟨w1.heap.size, 0, none⟩ = some (.int .i64 a.c) := by rw [hB.cell (p := ⟨w1.heap.size, 0, none⟩) (by simp)]; simp
    have b1 : wr.cell? ⟨w1.heap.size, 1, none⟩ = some (.int .i64 a.m) := by rw [hB.cell (p := ⟨w1.heap.size, 1, none⟩) (by simp)]; simp
    have b2 : wr.cell? ⟨w1.heap.size, 2, none⟩ = some (.int .i64 a.p) := by rw [hB.cell (p := ⟨w1.heap.size, 2, none⟩) (by simp)]; simp
    by_cases hlt : k < m
    · have hlti : (k : Int) < (m : Int) := by omega
      go_wp2_with (at_builtin; refine wpList_append_own _ rfl _ _ 32 rfl (w1.heap.size + 1) 25 i0 (.agg #[.int .i64 0, .int .i64 0, .int .i64 0]) 3 24 Tryd.underlying32 hi hz0 hz1' hz2' rfl (by decide) _ _ _ rfl (hown.alloc _) ⟨wr.heap.size, 0, none⟩ 1 1 [.int .i64 a.c, .int .i64 a.m, .int .i64 a.p] rfl rfl ?c1 ?c2 ?c3 ?c4 ?c5 ?_)
      case c1 =>
        intro j u hj
        match j, hj with
        | 0, hj => simp at hj; subst hj; simp [Addr.add]
        | 1, hj => simp at hj; subst hj; simp [Addr.add]
        | 2, hj => simp at hj; subst hj; simp [Addr.add]
      case c2 => intro u hu; simp at hu; rcases hu with rfl | rfl | rfl <;> rfl
      case c3 => unfold maxLen; omega
      case c4 => omega
      case c5 => simp; omega
      · intro v' w3 hown' hgrow _
        have hB3 : Below (w1.heap.size + 1) (w1.alloc (.cells #[.int .i64 a.c, .int .i64 a.m, .int .i64 a.p] 25)) w3 := (hB.alloc (by omega) _).grown hgrow (by simp; omega) (fun j hj => (hown.lt j hj).1)
        clear hgrow hown
        go_wp2_with fail
        go_roundw
        case rel => exact ⟨k + 1, by omega, by go_num, hown', hB3⟩
        case measure => simp [intOf]; omega
    · have hkm : k = m := by omega
      subst hkm
      have HSL := Lib.hid (sl_of_own hown)
      clear hown
      have hBr : Below w.heap.size w wr := hBA.trans (hB.mono (by omega))
      have hgr := hg.below hBr (Nat.le_refl _)
      have hlen : (List.replicate k a).length ≤ 1048576 := by simp; omega
      have hT := fun w hg => ResTimes_any a k w x hg
      have hI := fun v w hg hv => ResSum_any v (List.replicate k a) w x hg hv hlen
      have hS := fun v w hv => sResSum_any v (List.replicate k a) w hv hlen
      have hgd := guard_res
      have heq := eq_res
      have q0 : w1.heap.size < wr.heap.size := by omega
      clear hB hBA hb1 hlen
      by_cases hk0 : k = 0
      · subst hk0
        have tn := times_none a
        rw [show ((0 : Nat) : Int) = 0 from rfl, tn.1, tn.2] at hT
        rw [List.replicate_zero] at hI
        have hO := fun w => sResOk_any a w
        have heq0 := fun w => eq_res ⟨0, 0, 0⟩ ⟨0, 0, 0⟩ w
        clear heq tn hS hlt hm hi hz0 hz1' hz2'
        have e1 : (sumGo RV.zero []).1 = RV.zero := rfl
        have e2 : (sumGo RV.zero []).2 = true := rfl
        rw [e1, e2] at hI
        clear e1 e2
        cases hao : a.ok
        all_goals
          simp only [hao] at hT hO
          have HT := Lib.hid hT
          have HI := Lib.hid hI
          have HO := Lib.hid hO
          clear hT hI hO hao
          go_wp2_with fail
          refine (HT.out _ hgr).mono ?_
          rintro e w4 ⟨rfl, hb4⟩
          have hz4 := hb4.size
          obtain ⟨hc4, hf4⟩ := bcell hb4
          have hg4 := hgr.below hb4 (Nat.le_refl _)
          have q4 : w1.heap.size < w4.heap.size := by omega
          go_wp2_with fail
          refine (HI.out _ _ (hg4.alloc _) ((HSL.out.below hb4).below ((Below.refl _ _).alloc (Nat.le_refl _) _))).mono ?_
          rintro e w5 ⟨rfl, hb5⟩
          have hz5 := hb5.size
          simp at hz5
          obtain ⟨hc5, hf5⟩ := bcell hb5
          have q5 : w1.heap.size < w5.heap.size := by omega
          have q54 : w4.heap.size < w5.heap.size := by omega
          go_wp2_with fail
          refine (HO.out _).mono ?_
          rintro e w6 ⟨rfl, hb6⟩
          have hz6 := hb6.size
          simp at hz6
          obtain ⟨hc6, hf6⟩ := bcell hb6
          have q6 : w1.heap.size < w6.heap.size := by omega
          have q64 : w4.heap.size < w6.heap.size := by omega
          go_wp2_with fail
          go_ret
          exact ⟨rfl, (by repeat' (first | exact Below.refl _ _ | refine Below.alloc ?_ ?_ _ | refine Below.setCell ?_ ?_ _ | refine Below.drew ?_ | (apply below_step; assumption) | (simp; done) | (simp; omega) | omega))⟩
      · have sr := sum_rep a k (by omega) (by omega)
        have hki : ((k : Int) == 0) = false := by simp; omega
        rw [sr] at hI hS
        generalize resTimes a k = r at *
        generalize resTimesOk a k = t at *
        clear sr hlt
        cases t
        all_goals
          have HT := Lib.hid hT
          have HI := Lib.hid hI
          have HS := Lib.hid hS
          clear hT hI hS
          go_wp2_with fail
          refine (HT.out _ hgr).mono ?_
          rintro e w4 ⟨rfl, hb4⟩
          have hz4 := hb4.size
          obtain ⟨hc4, hf4⟩ := bcell hb4
          have hg4 := hgr.below hb4 (Nat.le_refl _)
          have SL4 := Lib.hid ((HSL.out.below hb4).below ((Below.refl _ _).alloc (Nat.le_refl _) (.cells #[.int .i64 r.c, .int .i64 r.m, .int .i64 r.p] 25)))
          go_wp2_with fail
          refine (HI.out _ _ (hg4.alloc _) SL4.out).mono ?_
          rintro e w5 ⟨rfl, hb5⟩
          have hz5 := hb5.size
          simp at hz5
          obtain ⟨hc5, hf5⟩ := bcell hb5
          have q54 : w4.heap.size < w5.heap.size := by omega
          go_wp2_with fail
          refine (HS.out _ _ ((SL4.out.below hb5).below ((Below.refl _ _).alloc (Nat.le_refl _) _))).mono ?_
          rintro e w6 ⟨rfl, hb6⟩
          have hz6 := hb6.size
          simp at hz6
          obtain ⟨hc6, hf6⟩ := bcell hb6
          have q64 : w4.heap.size < w6.heap.size := by omega
          have q65 : w5.heap.size < w6.heap.size := by omega
          have p45 : w4.heap.size < w5.heap.size + 1 := by omega
          go_wp2_with fail
          go_ret
          exact ⟨rfl, (by repeat' (first | exact Below.refl _ _ | refine Below.alloc ?_ ?_ _ | refine Below.setCell ?_ ?_ _ | refine Below.drew ?_ | (apply below_step; assumption) | (simp; done) | (simp; omega) | omega))⟩

theorem rowVars : ∀ n ∈ Rows.fnTimesSpec.vars, ∃ g t ms, Tryd.prog.globalNamed n = some g ∧ (Tryd.prog.globals[g]?).map (·.type) = some t ∧ Tryd.prog.underlying t = some (.interface ms) := errVars
set_option maxRecDepth 100000 in
theorem contract (H : Type) (enc : TypeId × Value → H) (W : World) (base : Nat) (args : Array Value) (ds gs : List (DataW H)) (before : List MemPlace)
    (hval : ∀ (j : Nat) t v, Tryd.f4.params[j]? = some t → args[j]? = some v → Value.okWide Tryd.prog W .any base t v)
    (hW : DataW.Whole enc Tryd.prog Tryd.f4.params.toList Rows.fnTimesSpec.vars false W args.toList ds gs before) (hL : laidMetH Tryd.prog Rows.fnTimesRow.laid W) :
    Calls Tryd.prog 4 args W fun e W' => ∃ v, e = .returned v ∧ Rows.fnTimesSpec.post enc Tryd.prog Tryd.f4 false true false false W args v W' := by
  have hW' := hW
  obtain ⟨p, q, hA0, hV, rfl, hfz, hnd⟩ := hW
  have hA : DataW.TrodAll enc Tryd.prog W 0 (fun _ => true) true Tryd.f4.params.toList args.toList ds p := hA0
  rw [Tryd.params4] at hA hval
  obtain ⟨v0, vs0, d0, ds0, p0, q0, hargs, rfl, rfl, h0, r0⟩ := trodAll_cons hA
  obtain ⟨rfl, rfl, rfl⟩ := trodAll_nil r0
  obtain rfl : args = #[v0] := by cases args; simp_all
  rw [MakeChecks.laidMetH_plain _ _ _ (by kernel_rfl)] at hL
  have hs0 := hval 0 _ v0 rfl rfl
  obtain ⟨gg, tt, cs, fuel, d, pp, rfl, _⟩ := trodVars_one hV
  obtain ⟨x, hg⟩ := errAt_of_laid hL
  have fin : Calls Tryd.prog 4 #[v0] W fun e w' => e = .returned (.bool true) ∧ Below W.heap.size W w' := by
    obtain ⟨A, n, c, rfl, hn, _, hcode⟩ := open_code hs0 h0
    by_cases hlong : n ≤ 1048576
    · exact walk A n c W x hg hlong hcode
    · exact walk_big A n c W (by omega)
  refine fin.mono fun e W' ⟨he, hb⟩ => ?_
  subst he
  exact ⟨_, rfl, law_post Tryd.laidOut (by rw [Tryd.params4]; intro t ht; have k0 : Tryd.prog.readableRec 22 = true ∧ 22 < Tryd.prog.types.size := ⟨by kernel_rfl, of_decide_eq_true (by kernel_rfl)⟩; simp at ht; subst ht; exact k0) rowVars (tb := 4) rfl Tryd.underlying4 hW' rfl hb⟩

theorem door_met (os : Os) (args : Array Value) : laidMet Tryd.prog Rows.fnTimesRow.laid ((World.doorLaid Tryd.prog 400 os).forCall (fun _ _ => 0) ⟨#[], args, []⟩).memory :=
  laidMet_of_run' 8 (by kernel_rfl) (by kernel_rfl)
set_option maxRecDepth 100000 in
theorem lifted (os : Os) (started : os.Started) (H : Type) (enc : TypeId × Value → H) (F : Stop.Interp) :
    ReturnsInHanded {} Tryd.checked os 4 .any ((OpenSpec.ofChange Rows.fnTimesSpec).preRow enc Tryd.prog Tryd.f4 Rows.fnTimesRow.domain false Rows.fnTimesRow.laid) (((OpenSpec.ofChange Rows.fnTimesSpec).at F).post enc Tryd.prog Tryd.f4 false true false false) := by
  refine returnsInHanded_of_row (C := Tryd.checked) (s := OpenSpec.ofChange Rows.fnTimesSpec) Tryd.own started (by kernel_rfl) Tryd.func4
    (witness_row_atRef (enc := enc) (C := Tryd.checked) false (World.doorLaid Tryd.prog 400 os) #[.slice none 0 0] rfl (by kernel_rfl) (by kernel_rfl) (by kernel_rfl)
      (OpenSpec.preRow_of_B rfl 8 (by kernel_rfl) (by kernel_rfl) (door_met os _))) ?_
  intro W base args ds gs before hval hW _ _ _ hL _ _
  exact contract H enc W base args ds gs before hval hW hL

theorem said : Rows.FnTimesSaid :=
  OpenClaim.holds_of_cond 4 Tryd.f4 rfl rfl rfl rfl rfl rfl rfl ⟨rfl, rfl, rfl, rfl, rfl⟩ rfl rfl rfl rfl rfl (by kernel_rfl) Tryd.func4 (by kernel_rfl)
    (of_decide_eq_true (by kernel_rfl)) (by unfold Func.isWrapper; first | (rw [if_pos (by decide +kernel)]; kernel_rfl) | (rw [if_neg (by decide +kernel)]; exact ⟨rfl, rfl⟩))
    (fun os started H enc _ F => by rw [OpenClaim.pre_eq_preRow]; exact lifted os started H enc F)

theorem plain (f : FuncId) (fn : Func) (hf : Tryd.pinned.checked.prog.funcNamed "loop.example/g00718/laws.FnTimes" = some f) (hfn : Tryd.pinned.checked.prog.funcs[f]? = some fn) :
    true = Tryd.pinned.checked.prog.looks [] ∧ ∀ (j : Nat) t, fn.params[j]? = some t → Tryd.pinned.checked.prog.wantsStandIn t = false := by
  obtain rfl : f = 4 := Option.some.inj ((show Tryd.prog.funcNamed "loop.example/g00718/laws.FnTimes" = some 4 by kernel_rfl).symm.trans hf) |>.symm
  obtain rfl : fn = Tryd.f4 := (Option.some.inj (Tryd.func4.symm.trans hfn)).symm
  refine ⟨by kernel_rfl, fun j t ht => ?_⟩
  rw [Tryd.params4] at ht
  have hm := Array.mem_of_getElem? ht
  have k0 : Tryd.pinned.checked.prog.wantsStandIn 22 = false := (show Tryd.prog.wantsStandIn 22 = false by kernel_rfl)
  simp at hm
  subst hm; exact k0

/-- The card. -/
theorem card : Rows.FnTimesCardSaid :=
  Claim7.holds_tied_plain_at .later [] _ _ _ _ said (fun _ h => by cases h) (by kernel_rfl) (fun _ h => by cases h) fnTimes_row_tie rfl ⟨rfl, rfl⟩ (by kernel_rfl) rfl plain (by kernel_rfl)
end Go.Proofs.YtfgdefgnhhimcaaDoor.fnTimes
