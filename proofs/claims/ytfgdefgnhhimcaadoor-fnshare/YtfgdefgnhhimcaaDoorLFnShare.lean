/- FnShare answers true at every code: a greater use has no smaller share; the share is at most 1000 if the use fits and at least 1000 if it does not; the full capacity has exactly 1000 unless it is zero. Condition: the package variables errRange and errNoCap hold what their initialisers lay (tied to the text by the card). -/
import Derived.Test.YtfgdefgnhhimcaaDoorCodeRow
import Derived.Test.YtfgdefgnhhimcaaDoorFnSharePure
import Derived.Test.YtfgdefgnhhimcaaDoorCurD
import Derived.Test.YtfgdefgnhhimcaaDoorResHI
import Derived.Test.YtfgdefgnhhimcaaDoorResTS
namespace Go.Proofs.YtfgdefgnhhimcaaDoor.fnShare
open Go.ChangeShapes Go.WideShapes Go.ChangeAt Go.RowKit Go.Joins

/-- The ending of rest: a code again. -/
def RestEnd (w : World) (n : Nat) (e : Ending) (w' : World) : Prop := ∃ A' n' c', e = .returned (.slice A' n' c') ∧ n' ≤ n ∧ CodeAt w A' n' ∧ w = w'
theorem rest_any (A : Option Addr) (n c : Nat) (w : World) (hn : n ≤ 1048576) (hc : CodeAt w A n) (hcap : n ≤ c) :
    Calls Tryd.prog 26 #[.slice A n c] w (RestEnd w n) := by
  rcases Nat.eq_zero_or_pos n with rfl | hp
  · have HC := Lib.hid hc
    clear hc
    go_enter Tryd.func26, Tryd.ntmps26
    go_wp2
    all_goals
      go_ret
      exact ⟨_, _, _, rfl, by omega, fun h => absurd h (by omega), rfl⟩
  · obtain ⟨b, off, rfl, hlt, hcc⟩ := hc hp
    have HC := Lib.hid hcc
    clear hcc hc
    have h1 : (0 : Int) ≤ (n : Int) / 2 := by omega
    have h2 : (n : Int) / 2 ≤ (n : Int) := by omega
    have h3 : ((n : Int) / 2).toNat = n / 2 := by omega
    have h4 : n / 2 < c := by omega
    have h5 : n / 2 ≤ n := by omega
    go_enter Tryd.func26, Tryd.ntmps26
    go_wp2
    go_ret
    refine ⟨_, _, _, rfl, by omega, fun _ => ⟨b, off + n / 2, rfl, hlt, fun i hi => ?_⟩, rfl⟩
    obtain ⟨z, z0, z1, hz⟩ := HC.out (n / 2 + i) (by omega)
    exact ⟨z, z0, z1, by rw [Nat.add_assoc]; exact hz⟩

theorem walk_big (A : Option Addr) (n c : Nat) (w : World) (h : 1048576 < n) :
    Calls Tryd.prog 5 #[.slice A n c] w fun e w' => e = .returned (.bool true) ∧ Below w.heap.size w w' := by
  go_enter Tryd.func5, Tryd.ntmps5
  go_wp2_with fail
  refine (big_yes A n c _ h).mono ?_
  rintro e w1 ⟨rfl, rfl⟩
  go_wp2_with fail
  go_ret
  exact ⟨rfl, (by repeat' (first | exact Below.refl _ _ | refine Below.alloc ?_ ?_ _ | refine Below.setCell ?_ ?_ _ | refine Below.drew ?_ | (apply below_step; assumption) | (simp; done) | (simp; omega) | omega))⟩

set_option maxRecDepth 100000 in
set_option maxHeartbeats 6000000 in
theorem walk (A : Option Addr) (n c : Nat) (w : World) (x y : Addr) (hg : ErrAt x w) (hy : CapAt y w) (hn : n ≤ 1048576) (hcap : n ≤ c) (hcode : CodeAt w A n) :
    Calls Tryd.prog 5 #[.slice A n c] w fun e w' => e = .returned (.bool true) ∧ Below w.heap.size w w' := by
  have HC := Lib.hid hcode
  clear hcode
  have hgd := guard_res
  go_enter Tryd.func5, Tryd.ntmps5
  go_wp2_with fail
  refine (big_no A n c _ hn).mono ?_
  rintro e w1 ⟨rfl, rfl⟩
  go_wp2_with fail
  refine (DrawResShare_any A n c _ hn HC.out).mono ?_
  rintro e w1 ⟨a, f, rfl, hb1⟩
  have hz1 := hb1.size
  go_wp2_with fail
  have hB1 : Below w.heap.size w ((w1.alloc (.cells #[.int .i64 a.c, .int .i64 a.m, .int .i64 a.p] 25)).alloc (.cells #[.int .i64 f.c, .int .i64 f.m, .int .i64 f.p] 25)) := (by repeat' (first | exact Below.refl _ _ | refine Below.alloc ?_ ?_ _ | refine Below.setCell ?_ ?_ _ | refine Below.drew ?_ | (apply below_step; assumption) | (simp; done) | (simp; omega) | omega))
  refine (rest_any A n c _ hn (HC.out.below hB1) hcap).mono ?_
  rintro e w2 ⟨A2, n2, c2, rfl, hn2, hcode2, rfl⟩
  have HC2 := Lib.hid hcode2
  clear hcode2
  go_wp2_with fail
  refine (DrawResAdd_any A2 n2 c2 _ (by omega) HC2.out).mono ?_
  rintro e w2 ⟨b, b', rfl, hb2⟩
  have hz2 := hb2.size
  simp at hz2
  obtain ⟨hc2, hf2⟩ := bcell hb2
  have hB2 := hB1.trans (hb2.mono hB1.size)
  have hg2 := (hg.below hB2 (Nat.le_refl _))
  have hy2 := (hy.below hB2 (Nat.le_refl _))
  have q20 : w1.heap.size < w2.heap.size := by omega
  have q21 : w1.heap.size + 1 < w2.heap.size := by omega
  have p20 : w1.heap.size < w2.heap.size + 1 := by omega
  have p21 : w1.heap.size < w2.heap.size + 1 + 1 := by omega
  have hsh := fun w hg hy => ResShare_any a f w x y hg hy
  have hsp := fun w => sResShare_any a f w
  have hfu := fun w hg hy => ResShare_any f f w x y hg hy
  have hmo := fun w hg hy => ResShare_any (resAdd a b) f w x y hg hy
  by_cases hok : a.ok = true ∧ f.ok = true
  · obtain ⟨ha, hff⟩ := hok
    have hS0 := share_pos ha hff
    have hfull := share_full hff
    have hmono := fun h => share_mono (b := b) (c := f) (a := a) h hff
    have hle := share_le ha hff
    have hge := share_ge ha hff
    generalize resShare a f = S at *
    generalize resShare f f = F at *
    generalize resShare (resAdd a b) f = T at *
    have HSH := Lib.hid hsh
    have HSP := Lib.hid hsp
    have HFU := Lib.hid hfu
    have HMO := Lib.hid hmo
    have HFULL := Lib.hid hfull
    have HMONO := Lib.hid hmono
    have HLE := Lib.hid hle
    have HGE := Lib.hid hge
    clear hsh hsp hfu hmo hfull hmono hle hge ha hff HC HC2
    have hSS : (S != S) = false := by simp
    go_wp2_with fail
    refine (HSH.out _ ((hg2.alloc _).alloc _) ((hy2.alloc _).alloc _)).mono ?_
    rintro e w3 ⟨rfl, hb3⟩
    have hz3 := hb3.size
    simp at hz3
    obtain ⟨hc3, hf3⟩ := bcell hb3
    have hg3 := ((hg2.alloc _).alloc _).below hb3 (Nat.le_refl _)
    have hy3 := ((hy2.alloc _).alloc _).below hb3 (Nat.le_refl _)
    have q30 : w1.heap.size < w3.heap.size := by omega
    have q31 : w1.heap.size + 1 < w3.heap.size := by omega
    have q32 : w2.heap.size < w3.heap.size := by omega
    go_wp2_with fail
    refine (HSP.out _).mono ?_
    rintro e w4 ⟨rfl, hb4⟩
    have hz4 := hb4.size
    obtain ⟨hc4, hf4⟩ := bcell hb4
    have hg4 := hg3.below hb4 (Nat.le_refl _)
    have hy4 := hy3.below hb4 (Nat.le_refl _)
    have q40 : w1.heap.size < w4.heap.size := by omega
    have q41 : w1.heap.size + 1 < w4.heap.size := by omega
    have q42 : w2.heap.size < w4.heap.size := by omega
    go_wp2_with fail
    refine (sResAdd_any a b _).mono ?_
    rintro e w5 ⟨rfl, hb5⟩
    have hz5 := hb5.size
    obtain ⟨hc5, hf5⟩ := bcell hb5
    have hg5 := hg4.below hb5 (Nat.le_refl _)
    have hy5 := hy4.below hb5 (Nat.le_refl _)
    have q50 : w1.heap.size < w5.heap.size := by omega
    have q51 : w1.heap.size + 1 < w5.heap.size := by omega
    go_wp2_with fail
    refine (HFU.out _ (hg5.alloc _) (hy5.alloc _)).mono ?_
    rintro e w6 ⟨rfl, hb6⟩
    have hz6 := hb6.size
    simp at hz6
    obtain ⟨hc6, hf6⟩ := bcell hb6
    have hg6 := (hg5.alloc _).below hb6 (Nat.le_refl _)
    have hy6 := (hy5.alloc _).below hb6 (Nat.le_refl _)
    have q60 : w1.heap.size < w6.heap.size := by omega
    have q61 : w1.heap.size + 1 < w6.heap.size := by omega
    have q65 : w5.heap.size < w6.heap.size := by omega
    have hne := fun w => neq_res f ⟨0, 0, 0⟩ w
    dsimp only at hne
    by_cases hF : F = 1000
    case' pos =>
      subst hF
    case' neg =>
      have hz := (res_zero_iff f).2 (HFULL.out.resolve_left hF)
      rw [hz] at hne
      have hFn : (F != 1000) = true := by simp [hF]
      clear hF hz
    all_goals
      go_wp2_with fail
      refine (ResFits_any a f _ x hg6).mono ?_
      rintro e w7 ⟨rfl, hb7⟩
      have hz7 := hb7.size
      obtain ⟨hc7, hf7⟩ := bcell hb7
      have hg7 := hg6.below hb7 (Nat.le_refl _)
      have hy7 := hy6.below hb7 (Nat.le_refl _)
      have q70 : w1.heap.size < w7.heap.size := by omega
      have q71 : w1.heap.size + 1 < w7.heap.size := by omega
      have q75 : w5.heap.size < w7.heap.size := by omega
      cases hfit : resSubOk f a
      case' false => have hk := HGE.out hfit
      case' true => have hk := HLE.out hfit
      all_goals
        cases hadd : resAddOk a b
        · go_wp2_with fail
          all_goals (go_ret; exact ⟨rfl, (by repeat' (first | exact Below.refl _ _ | refine Below.alloc ?_ ?_ _ | refine Below.setCell ?_ ?_ _ | refine Below.drew ?_ | (apply below_step; assumption) | (simp; done) | (simp; omega) | omega))⟩)
        · have hT := HMONO.out hadd
          go_wp2_with fail
          refine (HMO.out _ hg7 hy7).mono ?_
          rintro e w8 ⟨rfl, hb8⟩
          have hz8 := hb8.size
          go_wp2_with fail
          all_goals (go_ret; exact ⟨rfl, (by repeat' (first | exact Below.refl _ _ | refine Below.alloc ?_ ?_ _ | refine Below.setCell ?_ ?_ _ | refine Below.drew ?_ | (apply below_step; assumption) | (simp; done) | (simp; omega) | omega))⟩)
  · have hm1 := share_neg hok
    rw [hm1] at hsh hsp
    have HSH := Lib.hid hsh
    have HSP := Lib.hid hsp
    clear hsh hsp hfu hmo hm1 hok HC HC2
    go_wp2_with fail
    refine (HSH.out _ ((hg2.alloc _).alloc _) ((hy2.alloc _).alloc _)).mono ?_
    rintro e w3 ⟨rfl, hb3⟩
    have hz3 := hb3.size
    simp at hz3
    obtain ⟨hc3, hf3⟩ := bcell hb3
    have q30 : w1.heap.size < w3.heap.size := by omega
    have q31 : w1.heap.size + 1 < w3.heap.size := by omega
    go_wp2_with fail
    refine (HSP.out _).mono ?_
    rintro e w4 ⟨rfl, hb4⟩
    have hz4 := hb4.size
    obtain ⟨hc4, hf4⟩ := bcell hb4
    have q40 : w1.heap.size < w4.heap.size := by omega
    have q41 : w1.heap.size + 1 < w4.heap.size := by omega
    go_wp2_with fail
    refine (HSP.out _).mono ?_
    rintro e w5 ⟨rfl, hb5⟩
    have hz5 := hb5.size
    go_wp2_with fail
    go_ret
    exact ⟨rfl, (by repeat' (first | exact Below.refl _ _ | refine Below.alloc ?_ ?_ _ | refine Below.setCell ?_ ?_ _ | refine Below.drew ?_ | (apply below_step; assumption) | (simp; done) | (simp; omega) | omega))⟩
theorem capG : Tryd.prog.globalNamed "loop.example/g00718/impl.errNoCap" = some 0 := by kernel_rfl
theorem capT : (Tryd.prog.globals[0]?).map (·.type) = some 55 := by kernel_rfl
theorem capAt_of_laid {r : List (String × DataW Unit)} {W : World} (h : laidMet Tryd.prog (("loop.example/g00718/impl.errNoCap", Rows.laid_loop_example_g00718_impl_errNoCap) :: r) W) : ∃ a, CapAt a W := by
  obtain ⟨a, s, hv, _⟩ := laid_sentinel h capG capT Tryd.underlying55 Tryd.rowPtr Tryd.underlying90 Tryd.underlying115 rfl rfl Tryd.underlying9 Tryd.cellsEs Tryd.cellsStr
  exact ⟨a, by simpa [CapAt] using World.var?_cell capG hv 0⟩
theorem rowVars : ∀ n ∈ ["loop.example/g00718/impl.errNoCap", "loop.example/g00718/impl.errRange"], ∃ g t ms, Tryd.prog.globalNamed n = some g ∧ (Tryd.prog.globals[g]?).map (·.type) = some t ∧ Tryd.prog.underlying t = some (.interface ms) := fun n hn => by
  rcases List.mem_cons.1 hn with rfl | hn
  · exact ⟨_, _, _, capG, capT, Tryd.underlying55⟩
  · obtain rfl := List.mem_singleton.1 hn
    exact ⟨_, _, _, Tryd.errG, Tryd.errT, Tryd.underlying55⟩
set_option maxRecDepth 100000 in
theorem contract (H : Type) (enc : TypeId × Value → H) (W : World) (base : Nat) (args : Array Value) (ds gs : List (DataW H)) (before : List MemPlace)
    (hval : ∀ (j : Nat) t v, Tryd.f5.params[j]? = some t → args[j]? = some v → Value.okWide Tryd.prog W .any base t v)
    (hW : DataW.Whole enc Tryd.prog Tryd.f5.params.toList Rows.fnShareSpec.vars false W args.toList ds gs before) (hL : laidMetH Tryd.prog Rows.fnShareRow.laid W) :
    Calls Tryd.prog 5 args W fun e W' => ∃ v, e = .returned v ∧ Rows.fnShareSpec.post enc Tryd.prog Tryd.f5 false true false false W args v W' := by
  have hW' := hW
  obtain ⟨p, q, hA0, hV, rfl, hfz, hnd⟩ := hW
  have hA : DataW.TrodAll enc Tryd.prog W 0 (fun _ => true) true Tryd.f5.params.toList args.toList ds p := hA0
  rw [Tryd.params5] at hA hval
  obtain ⟨v0, vs0, d0, ds0, p0, q0, hargs, rfl, rfl, h0, r0⟩ := trodAll_cons hA
  obtain ⟨rfl, rfl, rfl⟩ := trodAll_nil r0
  obtain rfl : args = #[v0] := by cases args; simp_all
  rw [MakeChecks.laidMetH_plain _ _ _ (by kernel_rfl)] at hL
  have hs0 := hval 0 _ v0 rfl rfl
  obtain ⟨gg0, gg1, rfl⟩ : ∃ g0 g1, gs = [g0, g1] := by
    match gs, hV with
    | [g0, g1], _ => exact ⟨g0, g1, rfl⟩
  obtain ⟨x, hg⟩ := errAt_of_laid hL
  obtain ⟨y, hy⟩ := capAt_of_laid hL.tail
  have fin : Calls Tryd.prog 5 #[v0] W fun e w' => e = .returned (.bool true) ∧ Below W.heap.size W w' := by
    obtain ⟨A, n, c, rfl, hn, hcap, hcode⟩ := open_code hs0 h0
    by_cases hlong : n ≤ 1048576
    · exact walk A n c W x y hg hy hlong hcap hcode
    · exact walk_big A n c W (by omega)
  refine fin.mono fun e W' ⟨he, hb⟩ => ?_
  subst he
  exact ⟨_, rfl, law_post Tryd.laidOut (by rw [Tryd.params5]; intro t ht; have k0 : Tryd.prog.readableRec 22 = true ∧ 22 < Tryd.prog.types.size := ⟨by kernel_rfl, of_decide_eq_true (by kernel_rfl)⟩; simp at ht; subst ht; exact k0) rowVars (tb := 4) rfl Tryd.underlying4 hW' rfl hb⟩

theorem door_met (os : Os) (args : Array Value) : laidMet Tryd.prog Rows.fnShareRow.laid ((World.doorLaid Tryd.prog 400 os).forCall (fun _ _ => 0) ⟨#[], args, []⟩).memory :=
  laidMet_of_run' 8 (by kernel_rfl) (by kernel_rfl)
set_option maxRecDepth 100000 in
theorem lifted (os : Os) (started : os.Started) (H : Type) (enc : TypeId × Value → H) (F : Stop.Interp) :
    ReturnsInHanded {} Tryd.checked os 5 .any ((OpenSpec.ofChange Rows.fnShareSpec).preRow enc Tryd.prog Tryd.f5 Rows.fnShareRow.domain false Rows.fnShareRow.laid) (((OpenSpec.ofChange Rows.fnShareSpec).at F).post enc Tryd.prog Tryd.f5 false true false false) := by
  refine returnsInHanded_of_row (C := Tryd.checked) (s := OpenSpec.ofChange Rows.fnShareSpec) Tryd.own started (by kernel_rfl) Tryd.func5
    (witness_row_atRef (enc := enc) (C := Tryd.checked) false (World.doorLaid Tryd.prog 400 os) #[.slice none 0 0] rfl (by kernel_rfl) (by kernel_rfl) (by kernel_rfl)
      (OpenSpec.preRow_of_B rfl 8 (by kernel_rfl) (by kernel_rfl) (door_met os _))) ?_
  intro W base args ds gs before hval hW _ _ _ hL _ _
  exact contract H enc W base args ds gs before hval hW hL

theorem said : Rows.FnShareSaid :=
  OpenClaim.holds_of_cond 5 Tryd.f5 rfl rfl rfl rfl rfl rfl rfl ⟨rfl, rfl, rfl, rfl, rfl⟩ rfl rfl rfl rfl rfl (by kernel_rfl) Tryd.func5 (by kernel_rfl)
    (of_decide_eq_true (by kernel_rfl)) (by unfold Func.isWrapper; first | (rw [if_pos (by decide +kernel)]; kernel_rfl) | (rw [if_neg (by decide +kernel)]; exact ⟨rfl, rfl⟩))
    (fun os started H enc _ F => by rw [OpenClaim.pre_eq_preRow]; exact lifted os started H enc F)

theorem plain (f : FuncId) (fn : Func) (hf : Tryd.pinned.checked.prog.funcNamed "loop.example/g00718/laws.FnShare" = some f) (hfn : Tryd.pinned.checked.prog.funcs[f]? = some fn) :
    true = Tryd.pinned.checked.prog.looks [] ∧ ∀ (j : Nat) t, fn.params[j]? = some t → Tryd.pinned.checked.prog.wantsStandIn t = false := by
  obtain rfl : f = 5 := Option.some.inj ((show Tryd.prog.funcNamed "loop.example/g00718/laws.FnShare" = some 5 by kernel_rfl).symm.trans hf) |>.symm
  obtain rfl : fn = Tryd.f5 := (Option.some.inj (Tryd.func5.symm.trans hfn)).symm
  refine ⟨by kernel_rfl, fun j t ht => ?_⟩
  rw [Tryd.params5] at ht
  have hm := Array.mem_of_getElem? ht
  have k0 : Tryd.pinned.checked.prog.wantsStandIn 22 = false := (show Tryd.prog.wantsStandIn 22 = false by kernel_rfl)
  simp at hm
  subst hm; exact k0

/-- The card. -/
theorem card : Rows.FnShareCardSaid :=
  Claim7.holds_tied_plain_at .later [] _ _ _ _ said (fun _ h => by cases h) (by kernel_rfl) (fun _ h => by cases h) fnShare_row_tie rfl ⟨rfl, rfl⟩ (by kernel_rfl) rfl plain (by kernel_rfl)
end Go.Proofs.YtfgdefgnhhimcaaDoor.fnShare
