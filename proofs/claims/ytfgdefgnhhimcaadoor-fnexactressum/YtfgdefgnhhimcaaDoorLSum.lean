/- FnExactResSum answers true at every list of amounts: ResSum and its model agree, and the list is left as it was. Condition: the package variable errRange holds what its initialiser lays (tied to the text by the card). -/
import Derived.Test.YtfgdefgnhhimcaaDoorResRow
import Derived.Test.YtfgdefgnhhimcaaDoorEqRes
import Derived.Deep.Slices
import Derived.Deep.Fields
namespace Go.Proofs.YtfgdefgnhhimcaaDoor.fnExactResSum
open Go.ChangeShapes Go.WideShapes Go.ChangeAt Go.RowKit Go.Joins

theorem walk_long (A : Option Addr) (n c : Nat) (w : World) (h : 1048576 < n) (hm : n ≤ maxLen) :
    Calls Tryd.prog 10 #[.slice A n c] w fun e w' => e = .returned (.bool true) ∧ Below w.heap.size w w' := by
  go_enter Tryd.func10, Tryd.ntmps10
  go_wp2_with fail
  refine (szResS_no A n c _ h hm).mono ?_
  rintro e w1 ⟨rfl, rfl⟩
  go_wp2_with fail
  go_ret
  exact ⟨rfl, (by repeat' (first | exact Below.refl _ _ | refine Below.alloc ?_ ?_ _ | refine Below.setCell ?_ ?_ _ | refine Below.drew ?_ | (apply below_step; assumption) | (simp; done) | (simp; omega) | omega))⟩
set_option maxHeartbeats 1600000 in
theorem walk (v : Value) (l : List RV) (w : World) (x : Addr) (hg : ErrAt x w) (hv : ResSl w v l) (hlen : l.length ≤ 1048576) :
    Calls Tryd.prog 10 #[v] w fun e w' => e = .returned (.bool true) ∧ Below w.heap.size w w' := by
  have hs := fun v w hv => sResSum_any v l w hv hlen
  have hi := fun v w hg hv => ResSum_any v l w x hg hv hlen
  cases h : (sumGo RV.zero l).2
  all_goals
    simp only [h] at hs hi
    generalize (sumGo RV.zero l).1 = r at hs hi
    have HS := Lib.hid hs
    have HI := Lib.hid hi
    have HV := Lib.hid hv
    clear h hs hi
    obtain ⟨A, c, rfl, _⟩ := hv.form
    have hl0 : (l.length : Int) ≤ 1048576 := by omega
    go_enter Tryd.func10, Tryd.ntmps10
    go_wp2_with fail
    refine (szResS_yes A l.length c _ hlen).mono ?_
    rintro e w1 ⟨rfl, rfl⟩
    go_wp2_with fail
    refine (toResS_any _ l _ HV.out hlen).mono ?_
    rintro e w1 ⟨g1, rfl, hg1, hgl1, hat1, hb1⟩
    have hz1 := hb1.size
    go_wp2_with fail
    refine (HS.out _ _ (.inr ⟨g1, 0, _, rfl, hgl1, hat1⟩)).mono ?_
    rintro e w2 ⟨rfl, hb2⟩
    have hz2 := hb2.size
    clear hat1
    have hb12 := hb1.trans (hb2.mono hz1)
    go_wp2_with fail
    refine (toResS_any _ l _ ((HV.out.below hb12).below ((Below.refl _ _).alloc (Nat.le_refl _) _)) hlen).mono ?_
    rintro e w3 ⟨g3, rfl, hg3, hgl3, hat3, hb3⟩
    have hz3 := hb3.size
    simp at hz3
    have HAT := Lib.hid hat3
    clear hat3
    obtain ⟨hc3, hf3⟩ := bcell hb3
    go_wp2_with fail
    refine (HI.out _ _ (((hg.below hb12 (Nat.le_refl _)).alloc _).below hb3 (Nat.le_refl _)) (.inr ⟨g3, 0, _, rfl, hgl3, HAT.out⟩)).mono ?_
    rintro e w4 ⟨rfl, hb4⟩
    have hz4 := hb4.size
    obtain ⟨hc4, hf4⟩ := bcell hb4
    have hs3 : w2.heap.size < w3.heap.size := by omega
    have hs4 : w2.heap.size < w4.heap.size := by omega
    go_wp2_with fail
    refine (eqRes_same r _).mono ?_
    rintro e w5 ⟨rfl, hb5⟩
    have hz5 := hb5.size
    simp at hz5
    have hB35 : Below w3.heap.size w3 w5 := (by repeat' (first | exact Below.refl _ _ | refine Below.alloc ?_ ?_ _ | refine Below.setCell ?_ ?_ _ | refine Below.drew ?_ | (apply below_step; assumption) | (simp; done) | (simp; omega) | omega))
    have hB5 : Below w.heap.size w w5 := (by repeat' (first | exact Below.refl _ _ | refine Below.alloc ?_ ?_ _ | refine Below.setCell ?_ ?_ _ | refine Below.drew ?_ | (apply below_step; assumption) | (simp; done) | (simp; omega) | omega))
    go_wp2_with fail
    refine (toResS_any _ l _ (HV.out.below hB5) hlen).mono ?_
    rintro e w6 ⟨g6, rfl, hg6, hgl6, hat6, hb6⟩
    have hz6 := hb6.size
    have HAT6 := Lib.hid hat6
    clear hat6
    have hB36 : Below w3.heap.size w3 w6 := hB35.trans (hb6.mono hB35.size)
    go_wp2_with fail
    refine (eqResS_same _ _ l _ (.inr ⟨g3, 0, _, rfl, by omega, HAT.out.below hB36 hgl3⟩) (.inr ⟨g6, 0, _, rfl, hgl6, HAT6.out⟩) hlen).mono ?_
    rintro e w7 ⟨rfl, hb7⟩
    have hz7 := hb7.size
    go_wp2_with fail
    go_ret
    exact ⟨rfl, (by repeat' (first | exact Below.refl _ _ | refine Below.alloc ?_ ?_ _ | refine Below.setCell ?_ ?_ _ | refine Below.drew ?_ | (apply below_step; assumption) | (simp; done) | (simp; omega) | omega))⟩

section
variable {H : Type} {enc : TypeId × Value → H} {W : World}
set_option maxRecDepth 100000 in
theorem open_resS {base fuel : Nat} {v : Value} {x : DataW H × List MemPlace} (hv : Value.okWide Tryd.prog W .any base 44 v) (h : DataW.trod enc Tryd.prog W 0 (fun _ => true) true fuel 44 v.cells.toList = some x) :
    ∃ A n c, v = .slice A n c ∧ n ≤ maxLen ∧ ∃ l : List RV, l.length = n ∧ ResSl W v l := by
  obtain ⟨A, n, c, rfl⟩ := okWide_slice Tryd.underlying44 hv
  rcases Go.Deep.open_slice Tryd.underlying44 h with ⟨hcs, _⟩ | ⟨a, len, cap, m, n', D, Pl, hcs, hb, hl, hm, hmm, hx, hi⟩
  · simp [Value.cells] at hcs
    obtain ⟨rfl, rfl, rfl⟩ := hcs
    exact ⟨none, 0, 0, rfl, by unfold maxLen; omega, [], rfl, .inl ⟨rfl, _, _, rfl⟩⟩
  · simp [Value.cells] at hcs
    obtain ⟨rfl, rfl, rfl⟩ := hcs
    rw [if_pos rfl] at hmm
    subst hmm
    have hel : ∀ i, i < n → ∃ r : RV, W.cell? (a.add (i * 3)) = some (.int .i64 r.c) ∧ W.cell? (a.add (i * 3 + 1)) = some (.int .i64 r.m) ∧ W.cell? (a.add (i * 3 + 2)) = some (.int .i64 r.p) := by
      intro i hin
      obtain ⟨cs', hc, ht⟩ := hi i (by omega)
      rw [Tryd.cellsRes] at hc
      obtain ⟨y0, y1, y2, k, _, hlen, g0, g1, g2⟩ := Go.Deep.trod_struct3 Tryd.underlying40 ht
      rw [Tryd.cellsRes] at hlen
      obtain ⟨_, _, hat⟩ := World.cells?_some hc
      match cs', hlen with
      | [c0, c1, c2], _ =>
        obtain ⟨r0, e0, _, _⟩ := DataW.trod_int Tryd.underlying3 g0
        obtain ⟨r1, e1, _, _⟩ := DataW.trod_int Tryd.underlying3 g1
        obtain ⟨r2, e2, _, _⟩ := DataW.trod_int Tryd.underlying3 g2
        have k3 : Tryd.prog.cellsOf 3 = 1 := by kernel_rfl
        simp [k3] at e0 e1 e2
        subst e0 e1 e2
        have a0 := hat 0 (by omega)
        have a1 := hat 1 (by omega)
        have a2 := hat 2 (by omega)
        rw [Go.Deep.add_add] at a0 a1 a2
        exact ⟨⟨r0, r1, r2⟩, by simpa using a0, by simpa using a1, by simpa using a2⟩
    have hne : Nonempty RV := ⟨RV.zero⟩
    obtain ⟨f, hf⟩ : ∃ f : Nat → RV, ∀ i, i < n → W.cell? (a.add (i * 3)) = some (.int .i64 (f i).c) ∧ W.cell? (a.add (i * 3 + 1)) = some (.int .i64 (f i).m) ∧ W.cell? (a.add (i * 3 + 2)) = some (.int .i64 (f i).p) := by
      classical
      refine ⟨fun i => if hi : i < n then Classical.choose (hel i hi) else RV.zero, fun i hi => ?_⟩
      simp only [dif_pos hi]
      exact Classical.choose_spec (hel i hi)
    refine ⟨_, n, _, rfl, by omega, (List.range n).map f, by simp, ?_⟩
    rcases Nat.eq_zero_or_pos n with rfl | hp
    · exact .inl ⟨rfl, _, _, rfl⟩
    · obtain ⟨b, off, spot⟩ := a
      have h0 := (hf 0 hp).1
      have hspot : spot = none := by simpa [Addr.add] using World.cell?_spot h0
      subst hspot
      have hlt := World.block_lt_of_cell? _ _ h0
      refine .inr ⟨b, off, m, by simp, by simpa [Addr.add] using hlt, fun i r hr => ?_⟩
      have hi : i < n := by
        have := (List.getElem?_eq_some_iff.1 hr).1
        simpa using this
      have hri : f i = r := by simpa [hi] using hr
      obtain ⟨h1, h2, h3⟩ := hf i hi
      rw [hri] at h1 h2 h3
      rw [add_plain] at h1 h2 h3
      exact ⟨h1, h2, h3⟩
end

theorem rowVars : ∀ n ∈ Rows.fnExactResSumSpec.vars, ∃ g t ms, Tryd.prog.globalNamed n = some g ∧ (Tryd.prog.globals[g]?).map (·.type) = some t ∧ Tryd.prog.underlying t = some (.interface ms) := errVars
set_option maxRecDepth 100000 in
theorem contract (H : Type) (enc : TypeId × Value → H) (W : World) (base : Nat) (args : Array Value) (ds gs : List (DataW H)) (before : List MemPlace)
    (hval : ∀ (j : Nat) t v, Tryd.f10.params[j]? = some t → args[j]? = some v → Value.okWide Tryd.prog W .any base t v)
    (hW : DataW.Whole enc Tryd.prog Tryd.f10.params.toList Rows.fnExactResSumSpec.vars false W args.toList ds gs before) (hL : laidMetH Tryd.prog Rows.fnExactResSumRow.laid W) :
    Calls Tryd.prog 10 args W fun e W' => ∃ v, e = .returned v ∧ Rows.fnExactResSumSpec.post enc Tryd.prog Tryd.f10 false true false false W args v W' := by
  have hW' := hW
  obtain ⟨p, q, hA0, hV, rfl, hfz, hnd⟩ := hW
  have hA : DataW.TrodAll enc Tryd.prog W 0 (fun _ => true) true Tryd.f10.params.toList args.toList ds p := hA0
  rw [Tryd.params10] at hA hval
  obtain ⟨v0, vs0, d0, ds0, p0, q0, hargs, rfl, rfl, h0, r0⟩ := trodAll_cons hA
  obtain ⟨rfl, rfl, rfl⟩ := trodAll_nil r0
  obtain rfl : args = #[v0] := by cases args; simp_all
  rw [MakeChecks.laidMetH_plain _ _ _ (by kernel_rfl)] at hL
  have hs0 := hval 0 _ v0 rfl rfl
  obtain ⟨gg, tt, cs, fuel, d, pp, rfl, _⟩ := trodVars_one hV
  obtain ⟨x, hg⟩ := errAt_of_laid hL
  have fin : Calls Tryd.prog 10 #[v0] W fun e w' => e = .returned (.bool true) ∧ Below W.heap.size W w' := by
    obtain ⟨fu, hf⟩ := h0
    obtain ⟨A, n, c, rfl, hn, l, hl, hsl⟩ := open_resS hs0 hf
    by_cases hlong : n ≤ 1048576
    · exact walk _ l W x hg hsl (by omega)
    · exact walk_long A n c W (by omega) hn
  refine fin.mono fun e W' ⟨he, hb⟩ => ?_
  subst he
  exact ⟨_, rfl, law_post Tryd.laidOut (by rw [Tryd.params10]; intro t ht; have k0 : Tryd.prog.readableRec 44 = true ∧ 44 < Tryd.prog.types.size := ⟨by kernel_rfl, of_decide_eq_true (by kernel_rfl)⟩; simp at ht; subst ht; exact k0) rowVars (tb := 4) rfl Tryd.underlying4 hW' rfl hb⟩

theorem door_met (os : Os) (args : Array Value) : laidMet Tryd.prog Rows.fnExactResSumRow.laid ((World.doorLaid Tryd.prog 400 os).forCall (fun _ _ => 0) ⟨#[], args, []⟩).memory :=
  laidMet_of_run' 8 (by kernel_rfl) (by kernel_rfl)
set_option maxRecDepth 100000 in
theorem lifted (os : Os) (started : os.Started) (H : Type) (enc : TypeId × Value → H) (F : Stop.Interp) :
    ReturnsInHanded {} Tryd.checked os 10 .any ((OpenSpec.ofChange Rows.fnExactResSumSpec).preRow enc Tryd.prog Tryd.f10 Rows.fnExactResSumRow.domain false Rows.fnExactResSumRow.laid) (((OpenSpec.ofChange Rows.fnExactResSumSpec).at F).post enc Tryd.prog Tryd.f10 false true false false) := by
  refine returnsInHanded_of_row (C := Tryd.checked) (s := OpenSpec.ofChange Rows.fnExactResSumSpec) Tryd.own started (by kernel_rfl) Tryd.func10
    (witness_row_atRef (enc := enc) (C := Tryd.checked) false (World.doorLaid Tryd.prog 400 os) #[.slice none 0 0] rfl (by kernel_rfl) (by kernel_rfl) (by kernel_rfl)
      (OpenSpec.preRow_of_B rfl 8 (by kernel_rfl) (by kernel_rfl) (door_met os _))) ?_
  intro W base args ds gs before hval hW _ _ _ hL _ _
  exact contract H enc W base args ds gs before hval hW hL

theorem said : Rows.FnExactResSumSaid :=
  OpenClaim.holds_of_cond 10 Tryd.f10 rfl rfl rfl rfl rfl rfl rfl ⟨rfl, rfl, rfl, rfl, rfl⟩ rfl rfl rfl rfl rfl (by kernel_rfl) Tryd.func10 (by kernel_rfl)
    (of_decide_eq_true (by kernel_rfl)) (by unfold Func.isWrapper; first | (rw [if_pos (by decide +kernel)]; kernel_rfl) | (rw [if_neg (by decide +kernel)]; exact ⟨rfl, rfl⟩))
    (fun os started H enc _ F => by rw [OpenClaim.pre_eq_preRow]; exact lifted os started H enc F)

theorem plain (f : FuncId) (fn : Func) (hf : Tryd.pinned.checked.prog.funcNamed "loop.example/g00718/laws.FnExactResSum" = some f) (hfn : Tryd.pinned.checked.prog.funcs[f]? = some fn) :
    true = Tryd.pinned.checked.prog.looks [] ∧ ∀ (j : Nat) t, fn.params[j]? = some t → Tryd.pinned.checked.prog.wantsStandIn t = false := by
  obtain rfl : f = 10 := Option.some.inj ((show Tryd.prog.funcNamed "loop.example/g00718/laws.FnExactResSum" = some 10 by kernel_rfl).symm.trans hf) |>.symm
  obtain rfl : fn = Tryd.f10 := (Option.some.inj (Tryd.func10.symm.trans hfn)).symm
  refine ⟨by kernel_rfl, fun j t ht => ?_⟩
  rw [Tryd.params10] at ht
  have hm := Array.mem_of_getElem? ht
  have k0 : Tryd.pinned.checked.prog.wantsStandIn 44 = false := (show Tryd.prog.wantsStandIn 44 = false by kernel_rfl)
  simp at hm
  subst hm; exact k0

/-- The card. -/
theorem card : Rows.FnExactResSumCardSaid :=
  Claim7.holds_tied_plain_at .later [] _ _ _ _ said (fun _ h => by cases h) (by kernel_rfl) (fun _ h => by cases h) fnExactResSum_row_tie rfl ⟨rfl, rfl⟩ (by kernel_rfl) rfl plain (by kernel_rfl)
end Go.Proofs.YtfgdefgnhhimcaaDoor.fnExactResSum
