/- FnLabs answers true at every code: a label that was put is returned and all others are unchanged; a list matches itself, and what it matches it still matches with further labels. No condition. -/
import Derived.Test.YtelfoedgbgandaaCodeRowB
import Derived.Test.YtelfoedgbgandaaDrawP
import Derived.Test.YtelfoedgbgandaaLabE
namespace Go.Proofs.Ytelfoedgbgandaa.fnLabs
open Go.ChangeShapes Go.WideShapes Go.ChangeAt Go.RowKit Go.Joins

theorem put_parts {l : List LV} {x : LV} (h : putOk l x = true) : labsOk l = true ∧ labsOk (putList l x) = true ∧ putList l x = ins x l := by
  simp only [putOk, Bool.and_eq_true] at h
  have e : putList l x = ins x l := by simp [putList, h.1, h.2]
  exact ⟨h.1, by rw [e]; exact h.2, e⟩
theorem put_get {l : List LV} {x : LV} (h : putOk l x = true) : getOf (putList l x) x.k = (x.v, true) := by
  obtain ⟨h1, h2, h3⟩ := put_parts h
  rw [getOf_yes h2, h3, ins_find (labsOk_from h1)]; simp
theorem put_other {l : List LV} {x : LV} {k : Int} (h : putOk l x = true) (hk : k ≠ x.k) : getOf (putList l x) k = getOf l k := by
  obtain ⟨h1, h2, h3⟩ := put_parts h
  rw [getOf_yes h2, getOf_yes h1, h3, ins_find (labsOk_from h1), if_neg (fun e => hk e.symm)]
theorem match_self {m : List LV} (h : labsOk m = true) : matchOf m m = true := by
  unfold matchOf
  simp only [h, Bool.true_and]
  rw [hasAllOf_iff]
  exact fun y hy => findK_mem (labsOk_from h) hy
theorem match_nil {m : List LV} (h : labsOk m = true) : matchOf m [] = true := by
  unfold matchOf
  rw [h]; rfl
theorem match_one {l : List LV} {x : LV} (h : putOk l x = true) : matchOf (putList l x) [x] = true := by
  obtain ⟨h1, h2, h3⟩ := put_parts h
  have hx : x.ok = true := mem_ok (labsOk_from h2) (by rw [h3]; exact mem_ins x l)
  have hk := LV.ok_iff.1 hx
  have ho : labsOk [x] = true := by
    rw [labsOk_short (by simp), labsFrom_yes hx (by omega)]; rfl
  unfold matchOf
  simp only [h2, ho, Bool.true_and]
  rw [hasAllOf_iff]
  intro y hy
  rw [List.mem_singleton] at hy
  subst hy
  exact findK_mem (labsOk_from h2) (by rw [h3]; exact mem_ins y l)

theorem walk_big (A : Option Addr) (n c : Nat) (w : World) (h : 1048576 < n) :
    Calls Try.prog 3 #[.slice A n c] w fun e w' => e = .returned (.bool true) ∧ Below w.heap.size w w' := by
  go_enter Try.func3, Try.ntmps3
  go_wp2_with fail
  refine (big_yes A n c _ h).mono ?_
  rintro e w1 ⟨rfl, rfl⟩
  go_wp2_with fail
  go_ret
  exact ⟨rfl, (by repeat' (first | exact Below.refl _ _ | refine Below.alloc ?_ ?_ _ | refine Below.setCell ?_ ?_ _ | refine Below.drew ?_ | (apply below_step; assumption) | (simp; done) | (simp; omega) | omega))⟩

set_option maxRecDepth 100000 in
set_option maxHeartbeats 3200000 in
theorem walk (A : Option Addr) (n c : Nat) (w : World) (hn : n ≤ 1048576) (hc : CodeAt w A n) :
    Calls Try.prog 3 #[.slice A n c] w fun e w' => e = .returned (.bool true) ∧ Below w.heap.size w w' := by
  have HD := Lib.hid (DrawLabsPut_any A n c w hn hc)
  clear hc
  go_enter Try.func3, Try.ntmps3
  go_wp2_with fail
  refine (big_no A n c _ hn).mono ?_
  rintro e w0 ⟨rfl, rfl⟩
  go_wp2_with fail
  refine HD.out.mono ?_
  rintro e w1 ⟨v1, l, x, rfl, ho1, hl, hB1⟩
  have hz1 := hB1.size
  have HT2 := Lib.hid (BlockIs.new w1 26 #[.int .i64 x.k, .int .i64 x.v])
  have hX : Below w1.heap.size w1 (w1.alloc (.cells #[.int .i64 x.k, .int .i64 x.v] 26)) := (Below.refl _ _).alloc (Nat.le_refl _) _
  have hXs : w1.heap.size < (w1.alloc (.cells #[.int .i64 x.k, .int .i64 x.v] 26)).heap.size := by simp
  have hs := sLabsPut_any v1 l x (w1.alloc (.cells #[.int .i64 x.k, .int .i64 x.v] 26)) (ho1.sl.below hX) (by omega)
  have hi := fun w3 (hb : Below w1.heap.size w1 w3) => LabsPut_any v1 l x w3 (ho1.sl.below hb) (by omega)
  have SL := Lib.hid (fun w3 (hb : Below w1.heap.size w1 w3) => ho1.sl.below hb)
  have HB1 := Lib.hid hB1
  cases hok : putOk l x
  · rw [hok] at hs hi
    have HS := Lib.hid hs
    have HI := Lib.hid hi
    clear hs hi hok ho1 hB1
    go_wp2_with fail
    refine HS.out.mono ?_
    rintro e w3 ⟨v3, rfl, _, hB3⟩
    have hC3 : Below w1.heap.size w1 w3 := hX.trans (hB3.mono (by omega))
    have hT3 := HT2.out.below hB3 hXs
    have t0 := hT3.cell 0
    have t1 := hT3.cell 1
    simp at t0 t1
    clear hT3
    go_wp2_with fail
    refine (HI.out w3 hC3).mono ?_
    rintro e w4 ⟨v4, rfl, _, hB4⟩
    go_wp2_with fail
    go_ret
    exact ⟨by simp, HB1.out.trans ((hC3.trans (hB4.mono hC3.size)).mono hz1)⟩
  · have HG := Lib.hid (put_get hok)
    have HO := Lib.hid (fun k => put_other (k := k) hok)
    have HM1 := Lib.hid (match_self (put_parts hok).2.1)
    have HM2 := Lib.hid (match_nil (put_parts hok).2.1)
    have HM3 := Lib.hid (match_one hok)
    have HM4 := Lib.hid (put_parts hok).2.1
    have hlp := putOk_len hok
    rw [hok] at hs hi
    generalize putList l x = more at hs hi HG HO HM1 HM2 HM3 HM4 hlp
    have HS := Lib.hid hs
    have HI := Lib.hid hi
    clear hs hi hok ho1 hB1
    go_wp2_with fail
    refine HS.out.mono ?_
    rintro e w3 ⟨v3, rfl, _, hB3⟩
    have hC3 : Below w1.heap.size w1 w3 := hX.trans (hB3.mono (by omega))
    have hT3 := HT2.out.below hB3 hXs
    have HT3 := Lib.hid hT3
    have hl3 := hT3.lt
    have t0 := hT3.cell 0
    have t1 := hT3.cell 1
    simp at t0 t1
    clear hT3
    go_wp2_with fail
    refine (HI.out w3 hC3).mono ?_
    rintro e w4 ⟨v4, rfl, ho4, hB4⟩
    have hC4 : Below w1.heap.size w1 w4 := hC3.trans (hB4.mono hC3.size)
    have hz34 := hB4.size
    have HT4 := Lib.hid (HT3.out.below hB4 hl3)
    have hl4 : w1.heap.size < w4.heap.size := by omega
    have SM := Lib.hid (fun w5 (hb : Below w4.heap.size w4 w5) => ho4.sl.below hb)
    have HTW : Hid (∀ w5, Below w4.heap.size w4 w5 → w5.cell? ⟨w1.heap.size, 0, none⟩ = some (.int .i64 x.k) ∧ w5.cell? ⟨w1.heap.size, 1, none⟩ = some (.int .i64 x.v)) := fun w5 hb => by
      have := HT4.out.below hb hl4
      exact ⟨this.cell 0, this.cell 1⟩
    clear t0 t1 ho4 hB3 hB4 HS HI hC3
    have t0 := (HTW.out w4 (Below.refl _ _)).1
    have R0 := LabsGet_any v4 more x.k w4 (SM.out w4 (Below.refl _ _)) (by omega)
    rw [HG.out] at R0
    have HR0 := Lib.hid R0
    clear R0
    go_wp2_with fail
    refine HR0.out.mono ?_
    rintro e w5 ⟨rfl, hB5⟩
    have hC5 := hB5
    clear t0
    go_wp2_with fail
    go_loopw [11] (fun s11 wr => ∃ k : Nat, k ≤ 10 ∧ s11 = .int .i64 k ∧ Below w4.heap.size w4 wr) (fun s11 _ => (10 - intOf s11).toNat)
    case atStart => exact ⟨0, by omega, rfl, hC5⟩
    case round =>
      obtain ⟨k, hk, rfl, hC⟩ := hrel
      by_cases hlt : k < 10
      · have hki : (k : Int) ≤ 9 := by omega
        have hC1 : Below w1.heap.size w1 wr := hC4.trans (hC.mono (by omega))
        have A1 := LabsGet_any v1 l k wr (SL.out wr hC1) (by omega)
        have A2 := fun w6 (hb : Below w4.heap.size w4 w6) => LabsGet_any v4 more k w6 (SM.out w6 hb) (by omega)
        by_cases hkx : (k : Int) = x.k
        · have hne : ((k : Int) != x.k) = false := by simpa using hkx
          have H1 := Lib.hid A1
          have H2 := Lib.hid A2
          clear A1 A2 hkx
          go_wp2_with fail
          refine H1.out.mono ?_
          rintro e w6 ⟨rfl, hB6⟩
          have hC6 : Below w4.heap.size w4 w6 := hC.trans (hB6.mono hC.size)
          go_wp2_with fail
          refine (H2.out w6 hC6).mono ?_
          rintro e w7 ⟨rfl, hB7⟩
          have hC7 : Below w4.heap.size w4 w7 := hC6.trans (hB7.mono hC6.size)
          have t0 := (HTW.out w7 hC7).1
          go_wp2_with fail
          go_roundw
          case rel => exact ⟨k + 1, by omega, by go_num, hC7⟩
          case measure => simp [intOf]; omega
        · have hne : ((k : Int) != x.k) = true := by simpa using hkx
          rw [HO.out k hkx] at A2
          generalize getOf l k = z at A1 A2
          obtain ⟨z, b⟩ := z
          have hzz : (z != z) = false := by simp
          have hbb : (b != b) = false := by simp
          have H1 := Lib.hid A1
          have H2 := Lib.hid A2
          clear A1 A2 hkx
          go_wp2_with fail
          refine H1.out.mono ?_
          rintro e w6 ⟨rfl, hB6⟩
          have hC6 : Below w4.heap.size w4 w6 := hC.trans (hB6.mono hC.size)
          go_wp2_with fail
          refine (H2.out w6 hC6).mono ?_
          rintro e w7 ⟨rfl, hB7⟩
          have hC7 : Below w4.heap.size w4 w7 := hC6.trans (hB7.mono hC6.size)
          have t0 := (HTW.out w7 hC7).1
          go_wp2_with fail
          go_roundw
          case rel => exact ⟨k + 1, by omega, by go_num, hC7⟩
          case measure => simp [intOf]; omega
      · have hki : ¬ (k : Int) ≤ 9 := by omega
        have t1 := (HTW.out wr hC).2
        have hvv : (x.v == x.v) = true := by simp
        have B1 := LabsMatch_any v4 v4 more more wr (SM.out wr hC) (SM.out wr hC) (by omega) (by omega)
        rw [HM1.out] at B1
        have H1 := Lib.hid B1
        have B2 := fun w6 (hb : Below w4.heap.size w4 w6) => LabsMatch_any v4 (.slice none 0 0) more [] w6 (SM.out w6 hb) (.inl ⟨rfl, _, _, rfl⟩) (by omega) (by simp)
        rw [HM2.out] at B2
        have H2 := Lib.hid B2
        have B3 := fun v3 w6 (hb : Below w4.heap.size w4 w6) (h3 : LabSl w6 v3 [x]) => LabsMatch_any v4 v3 more [x] w6 (SM.out w6 hb) h3 (by omega) (by simp)
        rw [HM3.out] at B3
        have H3 := Lib.hid B3
        have B4 := fun w6 (hb : Below w4.heap.size w4 w6) => LabsOk_any v4 more w6 (SM.out w6 hb) (by omega)
        rw [HM4.out] at B4
        have H4 := Lib.hid B4
        clear B1 B2 B3 B4
        go_wp2_with fail
        refine H1.out.mono ?_
        rintro e w6 ⟨rfl, hB6⟩
        have hC6 : Below w4.heap.size w4 w6 := hC.trans (hB6.mono hC.size)
        go_wp2_with fail
        refine (H2.out w6 hC6).mono ?_
        rintro e w7 ⟨rfl, hB7⟩
        have hC7 : Below w4.heap.size w4 w7 := hC6.trans (hB7.mono hC6.size)
        obtain ⟨k0, k1⟩ := HTW.out w7 hC7
        go_wp2_with fail
        refine (H3.out _ _ (hC7.alloc (hC7.size) _) (.inr ⟨w7.heap.size, 0, 1, rfl, by simp, LabAt.of_cells (BlockIs.new w7 26 (labL [x]).toArray)⟩)).mono ?_
        rintro e w8 ⟨rfl, hB8⟩
        have hC8 : Below w4.heap.size w4 w8 := (hC7.alloc hC7.size _).trans (hB8.mono (by simp; exact Nat.le_succ_of_le hC7.size))
        go_wp2_with fail
        refine (H4.out w8 hC8).mono ?_
        rintro e w9 ⟨rfl, hB9⟩
        have hC9 : Below w4.heap.size w4 w9 := hC8.trans (hB9.mono hC8.size)
        go_wp2_with fail
        go_ret
        exact ⟨rfl, HB1.out.trans ((hC4.trans (hC9.mono (by omega))).mono hz1)⟩

theorem rowVars : ∀ n ∈ Rows.fnLabsSpec.vars, ∃ g t ms, Try.prog.globalNamed n = some g ∧ (Try.prog.globals[g]?).map (·.type) = some t ∧ Try.prog.underlying t = some (.interface ms) := fun n hn => by cases hn
set_option maxRecDepth 100000 in
theorem contract (H : Type) (enc : TypeId × Value → H) (W : World) (base : Nat) (args : Array Value) (ds gs : List (DataW H)) (before : List MemPlace)
    (hval : ∀ (j : Nat) t v, Try.f3.params[j]? = some t → args[j]? = some v → Value.okWide Try.prog W .any base t v)
    (hW : DataW.Whole enc Try.prog Try.f3.params.toList Rows.fnLabsSpec.vars false W args.toList ds gs before) (hL : laidMetH Try.prog Rows.fnLabsRow.laid W) :
    Calls Try.prog 3 args W fun e W' => ∃ v, e = .returned v ∧ Rows.fnLabsSpec.post enc Try.prog Try.f3 false true false false W args v W' := by
  have hW' := hW
  obtain ⟨p, q, hA0, hV, rfl, hfz, hnd⟩ := hW
  have hA : DataW.TrodAll enc Try.prog W 0 (fun _ => true) true Try.f3.params.toList args.toList ds p := hA0
  rw [Try.params3] at hA hval
  obtain ⟨v0, vs0, d0, ds0, p0, q0, hargs, rfl, rfl, h0, r0⟩ := trodAll_cons hA
  obtain ⟨rfl, rfl, rfl⟩ := trodAll_nil r0
  obtain rfl : args = #[v0] := by cases args; simp_all
  obtain rfl : gs = [] := by cases gs with | nil => rfl | cons _ _ => exact (show False from hV).elim
  rw [MakeChecks.laidMetH_plain _ _ _ (by kernel_rfl)] at hL
  have hs0 := hval 0 _ v0 rfl rfl
  have fin : Calls Try.prog 3 #[v0] W fun e w' => e = .returned (.bool true) ∧ Below W.heap.size W w' := by
    obtain ⟨A, n, c, rfl, hn, _, hcode⟩ := open_code hs0 h0
    by_cases hlong : n ≤ 1048576
    · exact walk A n c W hlong hcode
    · exact walk_big A n c W (by omega)
  refine fin.mono fun e W' ⟨he, hb⟩ => ?_
  subst he
  exact ⟨_, rfl, law_post Try.laidOut (by rw [Try.params3]; intro t ht; have k0 : Try.prog.readableRec 22 = true ∧ 22 < Try.prog.types.size := ⟨by kernel_rfl, of_decide_eq_true (by kernel_rfl)⟩; simp at ht; subst ht; exact k0) rowVars (tb := 4) rfl Try.underlying4 hW' rfl hb⟩

theorem door_met (os : Os) (args : Array Value) : laidMet Try.prog Rows.fnLabsRow.laid ((World.doorLaid Try.prog 400 os).forCall (fun _ _ => 0) ⟨#[], args, []⟩).memory :=
  laidMet_of_run' 8 (by kernel_rfl) (by kernel_rfl)
set_option maxRecDepth 100000 in
theorem lifted (os : Os) (started : os.Started) (H : Type) (enc : TypeId × Value → H) (F : Stop.Interp) :
    ReturnsInHanded {} Try.checked os 3 .any ((OpenSpec.ofChange Rows.fnLabsSpec).preRow enc Try.prog Try.f3 Rows.fnLabsRow.domain false Rows.fnLabsRow.laid) (((OpenSpec.ofChange Rows.fnLabsSpec).at F).post enc Try.prog Try.f3 false true false false) := by
  refine returnsInHanded_of_row (C := Try.checked) (s := OpenSpec.ofChange Rows.fnLabsSpec) Try.own started (by kernel_rfl) Try.func3
    (witness_row_atRef (enc := enc) (C := Try.checked) false (World.doorLaid Try.prog 400 os) #[.slice none 0 0] rfl (by kernel_rfl) (by kernel_rfl) (by kernel_rfl)
      (OpenSpec.preRow_of_B rfl 8 (by kernel_rfl) (by kernel_rfl) (door_met os _))) ?_
  intro W base args ds gs before hval hW _ _ _ hL _ _
  exact contract H enc W base args ds gs before hval hW hL

theorem said : Rows.FnLabsSaid :=
  OpenClaim.holds_of_cond 3 Try.f3 rfl rfl rfl rfl rfl rfl rfl ⟨rfl, rfl, rfl, rfl, rfl⟩ rfl rfl rfl rfl rfl (by kernel_rfl) Try.func3 (by kernel_rfl)
    (of_decide_eq_true (by kernel_rfl)) (by unfold Func.isWrapper; first | (rw [if_pos (by decide +kernel)]; kernel_rfl) | (rw [if_neg (by decide +kernel)]; exact ⟨rfl, rfl⟩))
    (fun os started H enc _ F => by rw [OpenClaim.pre_eq_preRow]; exact lifted os started H enc F)

end Go.Proofs.Ytelfoedgbgandaa.fnLabs
