/- FnTols answers true at every code: more tolerations never tolerate less, and every list of taints is tolerated by itself. No condition. -/
import Derived.Test.YtelfoedgbgandaaCodeRowB
import Derived.Test.YtelfoedgbgandaaDrawT
import Derived.Test.YtelfoedgbgandaaTaintS
namespace Go.Proofs.Ytelfoedgbgandaa.fnTols
open Go.ChangeShapes Go.WideShapes Go.ChangeAt Go.RowKit Go.Joins

theorem tol_self {a : List Int} (h : labsOk (tl a) = true) : tolOf a a = true := by
  unfold tolOf
  rw [matchOf_both h h, hasAllOf_iff]
  exact fun x hx => findK_mem (labsOk_from h) hx
theorem tol_nil {b : List Int} (h : labsOk (tl b) = true) : tolOf [] b = true := by
  unfold tolOf
  rw [matchOf_both h rfl]; rfl
theorem tol_one {a b : List Int} {z : Int} (h : tolOf a b = true) (hz : z ∈ a) : tolOf [z] b = true := by
  unfold tolOf matchOf at h ⊢
  simp only [Bool.and_eq_true] at h ⊢
  obtain ⟨⟨hb, ha⟩, hm⟩ := h
  have hx : (⟨z, 0⟩ : LV) ∈ tl a := List.mem_map.2 ⟨z, hz, rfl⟩
  have ho := mem_ok (labsOk_from ha) hx
  have hk := LV.ok_iff.1 ho
  simp only at hk
  refine ⟨⟨hb, ?_⟩, ?_⟩
  · show labsOk [⟨z, 0⟩] = true
    rw [labsOk_short (by simp), labsFrom_yes ho (by show -1 < z; omega)]; rfl
  · show hasAllOf (tl b) [⟨z, 0⟩] = true
    rw [hasAllOf_iff] at hm ⊢
    intro x hx'
    rw [List.mem_singleton] at hx'
    subst hx'
    exact hm _ hx
theorem sl_one {w : World} {g k cap : Nat} {l : List Int} {z : Int} (hat : IntAt w g 0 l) (hg : g < w.heap.size) (hz : l[k]? = some z) : IntSl w (.slice (some ⟨g, k, none⟩) 1 cap) [z] := by
  refine .inr ⟨g, k, cap, rfl, hg, fun i r hr => ?_⟩
  match i, hr with
  | 0, hr =>
    simp at hr
    subst hr
    have := hat k z hz
    simpa using this

theorem walk_big (A : Option Addr) (n c : Nat) (w : World) (h : 1048576 < n) :
    Calls Try.prog 4 #[.slice A n c] w fun e w' => e = .returned (.bool true) ∧ Below w.heap.size w w' := by
  go_enter Try.func4, Try.ntmps4
  go_wp2_with fail
  refine (big_yes A n c _ h).mono ?_
  rintro e w1 ⟨rfl, rfl⟩
  go_wp2_with fail
  go_ret
  exact ⟨rfl, (by repeat' (first | exact Below.refl _ _ | refine Below.alloc ?_ ?_ _ | refine Below.setCell ?_ ?_ _ | refine Below.drew ?_ | (apply below_step; assumption) | (simp; done) | (simp; omega) | omega))⟩

set_option maxRecDepth 100000 in
set_option maxHeartbeats 3200000 in
theorem walk (A : Option Addr) (n c : Nat) (w : World) (hn : n ≤ 1048576) (hc : CodeAt w A n) :
    Calls Try.prog 4 #[.slice A n c] w fun e w' => e = .returned (.bool true) ∧ Below w.heap.size w w' := by
  have HD := Lib.hid (DrawTolerates_any A n c w hn hc)
  clear hc
  go_enter Try.func4, Try.ntmps4
  go_wp2_with fail
  refine (big_no A n c _ hn).mono ?_
  rintro e w0 ⟨rfl, rfl⟩
  go_wp2_with fail
  refine HD.out.mono ?_
  rintro e w1 ⟨v1, v2, a, b, rfl, ho1, ho2, ha, hb, hB1⟩
  have hz1 := hB1.size
  have S1 := Lib.hid (fun w2 (hb : Below w1.heap.size w1 w2) => ho1.sl.below hb)
  have S2 := Lib.hid (fun w2 (hb : Below w1.heap.size w1 w2) => ho2.sl.below hb)
  have hi := fun w2 hb => Tolerates_any v1 v2 a b w2 (S1.out w2 hb) (S2.out w2 hb) (by omega) (by omega)
  have hs := fun w2 hb => sTolerates_any v1 v2 a b w2 (S1.out w2 hb) (S2.out w2 hb) (by omega) (by omega)
  have hoa := fun w2 hb => sTaintsOk_any v1 a w2 (S1.out w2 hb) (by omega)
  have hob := fun w2 hb => sTaintsOk_any v2 b w2 (S2.out w2 hb) (by omega)
  have HB1 := Lib.hid hB1
  have hF : ∃ A1 c1, v1 = .slice A1 a.length c1 ∧ a.length ≤ c1 ∧ c1 ≤ maxLen ∧ (0 < a.length → ∃ g, A1 = some ⟨g, 0, none⟩ ∧ g < w1.heap.size ∧ IntAt w1 g 0 a) := by
    rcases ho1.form with ⟨rfl, rfl⟩ | ⟨g, cap, rfl, _, hlt, h1, h2, hat⟩
    · exact ⟨_, _, rfl, by simp, by unfold maxLen; omega, fun h => absurd h (by simp)⟩
    · exact ⟨_, _, rfl, h1, h2, fun _ => ⟨g, rfl, hlt, hat⟩⟩
  obtain ⟨A1, c1, rfl, hac, hcm, hA1⟩ := hF
  unfold maxLen at hcm
  have HA1 := Lib.hid hA1
  have HT := Lib.hid (fun z => tol_one (a := a) (b := b) (z := z))
  have HTS := Lib.hid (tol_self (a := a))
  have HTN := Lib.hid (tol_nil (b := b))
  generalize ht : tolOf a b = t at hi hs HT
  have HS := Lib.hid hs
  have HI := Lib.hid hi
  have htt : (t != t) = false := by simp
  have htt' : (t == t) = true := by simp
  cases hao : labsOk (tl a)
  · rw [hao] at hoa
    have HOA := Lib.hid hoa
    clear hs hi hoa hob ho1 ho2 hA1 ht hao hB1
    go_wp2_with fail
    refine (HI.out w1 (Below.refl _ _)).mono ?_
    rintro e w2 ⟨rfl, hB2⟩
    have hz2 := hB2.size
    go_wp2_with fail
    refine (HS.out w2 hB2).mono ?_
    rintro e w3 ⟨rfl, hB3⟩
    have hC3 : Below w1.heap.size w1 w3 := hB2.trans (hB3.mono hz2)
    go_wp2_with fail
    refine (HOA.out w3 hC3).mono ?_
    rintro e w4 ⟨rfl, hB4⟩
    have hC4 : Below w1.heap.size w1 w4 := hC3.trans (hB4.mono hC3.size)
    go_wp2_with fail
    refine (HS.out w4 hC4).mono ?_
    rintro e w5 ⟨rfl, hB5⟩
    go_wp2_with fail
    go_ret
    exact ⟨by simp, HB1.out.trans ((hC4.trans (hB5.mono hC4.size)).mono hz1)⟩
  · rw [hao] at hoa
    cases hbo : labsOk (tl b)
    · rw [hbo] at hob
      have HOA := Lib.hid hoa
      have HOB := Lib.hid hob
      clear hs hi hoa hob ho1 ho2 hA1 ht hao hbo hB1
      go_wp2_with fail
      refine (HI.out w1 (Below.refl _ _)).mono ?_
      rintro e w2 ⟨rfl, hB2⟩
      have hz2 := hB2.size
      go_wp2_with fail
      refine (HS.out w2 hB2).mono ?_
      rintro e w3 ⟨rfl, hB3⟩
      have hC3 : Below w1.heap.size w1 w3 := hB2.trans (hB3.mono hz2)
      go_wp2_with fail
      refine (HOA.out w3 hC3).mono ?_
      rintro e w4 ⟨rfl, hB4⟩
      have hC4 : Below w1.heap.size w1 w4 := hC3.trans (hB4.mono hC3.size)
      go_wp2_with fail
      refine (HOB.out w4 hC4).mono ?_
      rintro e w5 ⟨rfl, hB5⟩
      have hC5 : Below w1.heap.size w1 w5 := hC4.trans (hB5.mono hC4.size)
      go_wp2_with fail
      refine (HS.out w5 hC5).mono ?_
      rintro e w6 ⟨rfl, hB6⟩
      go_wp2_with fail
      go_ret
      exact ⟨by simp, HB1.out.trans ((hC5.trans (hB6.mono hC5.size)).mono hz1)⟩
    · rw [hbo] at hob
      have HOA := Lib.hid hoa
      have HOB := Lib.hid hob
      have R1 := fun w2 hb => Tolerates_any _ _ a a w2 (S1.out w2 hb) (S1.out w2 hb) (by omega) (by omega)
      rw [HTS.out hao] at R1
      have R2 := fun w2 hb => Tolerates_any (.slice none 0 0) v2 [] b w2 (.inl ⟨rfl, _, _, rfl⟩) (S2.out w2 hb) (by simp) (by omega)
      rw [HTN.out hbo] at R2
      have R3 := fun w2 hb => TaintsOk_any v2 b w2 (S2.out w2 hb) (by omega)
      rw [hbo] at R3
      have HR1 := Lib.hid R1
      have HR2 := Lib.hid R2
      have HR3 := Lib.hid R3
      clear hs hi hoa hob ho1 ho2 hA1 ht hao hbo hB1 R1 R2 R3
      go_wp2_with fail
      refine (HI.out w1 (Below.refl _ _)).mono ?_
      rintro e w2 ⟨rfl, hB2⟩
      have hz2 := hB2.size
      go_wp2_with fail
      refine (HS.out w2 hB2).mono ?_
      rintro e w3 ⟨rfl, hB3⟩
      have hC3 : Below w1.heap.size w1 w3 := hB2.trans (hB3.mono hz2)
      go_wp2_with fail
      refine (HOA.out w3 hC3).mono ?_
      rintro e w4 ⟨rfl, hB4⟩
      have hC4 : Below w1.heap.size w1 w4 := hC3.trans (hB4.mono hC3.size)
      go_wp2_with fail
      refine (HOB.out w4 hC4).mono ?_
      rintro e w5 ⟨rfl, hB5⟩
      have hC5 : Below w1.heap.size w1 w5 := hC4.trans (hB5.mono hC4.size)
      clear hB2 hB3 hB4 hB5 hC3 hC4
      go_wp2_with fail
      go_loopw [6] (fun s6 wr => ∃ k : Nat, k ≤ a.length ∧ s6 = .int .i64 k ∧ Below w1.heap.size w1 wr) (fun s6 _ => (a.length - intOf s6).toNat)
      case atStart => exact ⟨0, by omega, rfl, hC5⟩
      case round =>
        obtain ⟨k, hk, rfl, hC⟩ := hrel
        by_cases hlt : k < a.length
        · have hlti : (k : Int) < (a.length : Int) := by omega
          cases t
          · go_wp2_with fail
            go_roundw
            case rel => exact ⟨k + 1, by omega, by go_num, hC⟩
            case measure => simp [intOf]; omega
          · obtain ⟨g, rfl, hg, hat⟩ := HA1.out (by omega)
            obtain ⟨z, hz⟩ : ∃ r, a[k]? = some r := ⟨_, List.getElem?_eq_getElem hlt⟩
            have R := fun c2 => Tolerates_any (.slice (some ⟨g, k, none⟩) 1 c2) v2 [z] b wr (sl_one (hat.below hC hg) (Nat.lt_of_lt_of_le hg hC.size) hz) (S2.out wr hC) (by simp) (by omega)
            rw [HT.out z rfl (List.mem_of_getElem? hz)] at R
            have HR := Lib.hid R
            have hc1k : (k : Int) + 1 ≤ (c1 : Int) := by omega
            have hne : ¬ c1 = k := by omega
            clear R hat hz
            go_wp2_with fail
            refine (HR.out _).mono ?_
            rintro e w6 ⟨rfl, hB6⟩
            go_wp2_with fail
            go_roundw
            case rel => exact ⟨k + 1, by omega, by go_num, hC.trans (hB6.mono hC.size)⟩
            case measure => simp [intOf]; omega
        · have hlti : ¬ (k : Int) < (a.length : Int) := by omega
          go_wp2_with fail
          refine (HR1.out wr hC).mono ?_
          rintro e w6 ⟨rfl, hB6⟩
          have hC6 : Below w1.heap.size w1 w6 := hC.trans (hB6.mono hC.size)
          go_wp2_with fail
          refine (HR2.out w6 hC6).mono ?_
          rintro e w7 ⟨rfl, hB7⟩
          have hC7 : Below w1.heap.size w1 w7 := hC6.trans (hB7.mono hC6.size)
          cases t
          · go_wp2_with fail
            go_ret
            exact ⟨rfl, HB1.out.trans (hC7.mono hz1)⟩
          · go_wp2_with fail
            refine (HR3.out w7 hC7).mono ?_
            rintro e w8 ⟨rfl, hB8⟩
            have hC8 : Below w1.heap.size w1 w8 := hC7.trans (hB8.mono hC7.size)
            go_wp2_with fail
            go_ret
            exact ⟨rfl, HB1.out.trans (hC8.mono hz1)⟩

theorem rowVars : ∀ n ∈ Rows.fnTolsSpec.vars, ∃ g t ms, Try.prog.globalNamed n = some g ∧ (Try.prog.globals[g]?).map (·.type) = some t ∧ Try.prog.underlying t = some (.interface ms) := fun n hn => by cases hn
set_option maxRecDepth 100000 in
theorem contract (H : Type) (enc : TypeId × Value → H) (W : World) (base : Nat) (args : Array Value) (ds gs : List (DataW H)) (before : List MemPlace)
    (hval : ∀ (j : Nat) t v, Try.f4.params[j]? = some t → args[j]? = some v → Value.okWide Try.prog W .any base t v)
    (hW : DataW.Whole enc Try.prog Try.f4.params.toList Rows.fnTolsSpec.vars false W args.toList ds gs before) (hL : laidMetH Try.prog Rows.fnTolsRow.laid W) :
    Calls Try.prog 4 args W fun e W' => ∃ v, e = .returned v ∧ Rows.fnTolsSpec.post enc Try.prog Try.f4 false true false false W args v W' := by
  have hW' := hW
  obtain ⟨p, q, hA0, hV, rfl, hfz, hnd⟩ := hW
  have hA : DataW.TrodAll enc Try.prog W 0 (fun _ => true) true Try.f4.params.toList args.toList ds p := hA0
  rw [Try.params4] at hA hval
  obtain ⟨v0, vs0, d0, ds0, p0, q0, hargs, rfl, rfl, h0, r0⟩ := trodAll_cons hA
  obtain ⟨rfl, rfl, rfl⟩ := trodAll_nil r0
  obtain rfl : args = #[v0] := by cases args; simp_all
  obtain rfl : gs = [] := by cases gs with | nil => rfl | cons _ _ => exact (show False from hV).elim
  rw [MakeChecks.laidMetH_plain _ _ _ (by kernel_rfl)] at hL
  have hs0 := hval 0 _ v0 rfl rfl
  have fin : Calls Try.prog 4 #[v0] W fun e w' => e = .returned (.bool true) ∧ Below W.heap.size W w' := by
    obtain ⟨A, n, c, rfl, hn, _, hcode⟩ := open_code hs0 h0
    by_cases hlong : n ≤ 1048576
    · exact walk A n c W hlong hcode
    · exact walk_big A n c W (by omega)
  refine fin.mono fun e W' ⟨he, hb⟩ => ?_
  subst he
  exact ⟨_, rfl, law_post Try.laidOut (by rw [Try.params4]; intro t ht; have k0 : Try.prog.readableRec 22 = true ∧ 22 < Try.prog.types.size := ⟨by kernel_rfl, of_decide_eq_true (by kernel_rfl)⟩; simp at ht; subst ht; exact k0) rowVars (tb := 4) rfl Try.underlying4 hW' rfl hb⟩

theorem door_met (os : Os) (args : Array Value) : laidMet Try.prog Rows.fnTolsRow.laid ((World.doorLaid Try.prog 400 os).forCall (fun _ _ => 0) ⟨#[], args, []⟩).memory :=
  laidMet_of_run' 8 (by kernel_rfl) (by kernel_rfl)
set_option maxRecDepth 100000 in
theorem lifted (os : Os) (started : os.Started) (H : Type) (enc : TypeId × Value → H) (F : Stop.Interp) :
    ReturnsInHanded {} Try.checked os 4 .any ((OpenSpec.ofChange Rows.fnTolsSpec).preRow enc Try.prog Try.f4 Rows.fnTolsRow.domain false Rows.fnTolsRow.laid) (((OpenSpec.ofChange Rows.fnTolsSpec).at F).post enc Try.prog Try.f4 false true false false) := by
  refine returnsInHanded_of_row (C := Try.checked) (s := OpenSpec.ofChange Rows.fnTolsSpec) Try.own started (by kernel_rfl) Try.func4
    (witness_row_atRef (enc := enc) (C := Try.checked) false (World.doorLaid Try.prog 400 os) #[.slice none 0 0] rfl (by kernel_rfl) (by kernel_rfl) (by kernel_rfl)
      (OpenSpec.preRow_of_B rfl 8 (by kernel_rfl) (by kernel_rfl) (door_met os _))) ?_
  intro W base args ds gs before hval hW _ _ _ hL _ _
  exact contract H enc W base args ds gs before hval hW hL

theorem said : Rows.FnTolsSaid :=
  OpenClaim.holds_of_cond 4 Try.f4 rfl rfl rfl rfl rfl rfl rfl ⟨rfl, rfl, rfl, rfl, rfl⟩ rfl rfl rfl rfl rfl (by kernel_rfl) Try.func4 (by kernel_rfl)
    (of_decide_eq_true (by kernel_rfl)) (by unfold Func.isWrapper; first | (rw [if_pos (by decide +kernel)]; kernel_rfl) | (rw [if_neg (by decide +kernel)]; exact ⟨rfl, rfl⟩))
    (fun os started H enc _ F => by rw [OpenClaim.pre_eq_preRow]; exact lifted os started H enc F)

end Go.Proofs.Ytelfoedgbgandaa.fnTols
