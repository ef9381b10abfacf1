/- The contract of the model's LabsPut. -/
import Derived.Test.YtelfoedgbgandaaPutI
import Derived.Test.YtelfoedgbgandaaLabS2
namespace Go.Proofs.Ytelfoedgbgandaa
open Go.RowKit

theorem size_da (w : World) (n : Nat) (o : Obj) : ((w.drewN n).alloc o).heap.size = w.heap.size + 1 := by
  show (w.heap.push o).size = _
  simp
/-- How far the model has come: what is out, whether x is in, what is left. -/
def PutAtS (x : LV) (a out : List LV) (inn : Bool) (rest : List LV) : Prop :=
  (inn = false ∧ ins x a = out ++ ins x rest ∧ ∃ p, labsFrom p rest = true) ∨ (inn = true ∧ ins x a = out ++ rest ∧ labsFrom x.k rest = true)
theorem putS_len {x : LV} {a out rest : List LV} {inn : Bool} (h : PutAtS x a out inn rest) (ha : a.length ≤ 6) : out.length ≤ 7 := by
  have hl := ins_len x a
  rcases h with ⟨_, h, _⟩ | ⟨_, h, _⟩ <;> (rw [h, List.length_append] at hl; omega)
theorem putS_same {x y : LV} {a out r : List LV} (h : PutAtS x a out false (y :: r)) (hk : y.k = x.k) : PutAtS x a (out ++ [x]) true r := by
  rcases h with ⟨_, h, p, hp⟩ | ⟨h, _⟩
  · simp only [labsFrom, Bool.and_eq_true] at hp
    refine .inr ⟨rfl, ?_, by rw [← hk]; exact hp.2⟩
    rw [h]
    have : ¬ y.k < x.k := by omega
    simp [ins, this, hk]
  · cases h
theorem putS_more {x y : LV} {a out r : List LV} (h : PutAtS x a out false (y :: r)) (hk : x.k < y.k) : PutAtS x a (out ++ [x] ++ [y]) true r := by
  rcases h with ⟨_, h, p, hp⟩ | ⟨h, _⟩
  · simp only [labsFrom, Bool.and_eq_true] at hp
    refine .inr ⟨rfl, ?_, labsFrom_mono (by omega) hp.2⟩
    rw [h]
    have h1 : ¬ y.k < x.k := by omega
    have h2 : ¬ y.k = x.k := by omega
    simp [ins, h1, h2]
  · cases h
theorem putS_less {x y : LV} {a out r : List LV} (h : PutAtS x a out false (y :: r)) (hk : y.k < x.k) : PutAtS x a (out ++ [y]) false r := by
  rcases h with ⟨_, h, p, hp⟩ | ⟨h, _⟩
  · simp only [labsFrom, Bool.and_eq_true] at hp
    refine .inl ⟨rfl, ?_, _, hp.2⟩
    rw [h]
    simp [ins, hk]
  · cases h
theorem putS_in {x y : LV} {a out r : List LV} (h : PutAtS x a out true (y :: r)) : x.k < y.k ∧ PutAtS x a (out ++ [y]) true r := by
  rcases h with ⟨h, _⟩ | ⟨_, h, hp⟩
  · cases h
  · simp only [labsFrom, Bool.and_eq_true, decide_eq_true_eq] at hp
    refine ⟨hp.1.2, .inr ⟨rfl, ?_, labsFrom_mono (by omega) hp.2⟩⟩
    rw [h]; simp

set_option maxHeartbeats 3200000 in
theorem sLabsPut_any (v : Value) (a : List LV) (x : LV) (w : World) (hv : LabSl w v a) (hlen : a.length ≤ 1048576) :
    Calls Try.prog 13 #[v, .agg #[.int .i64 x.k, .int .i64 x.v]] w (RetOwnB w (putList a x) (putOk a x)) := by
  have hr := sLabsOk_any v a (w.alloc (.cells #[.int .i64 x.k, .int .i64 x.v] 26)) (hv.below ((Below.refl _ _).alloc (Nat.le_refl _) _)) hlen
  cases ha : labsOk a
  · rw [ha] at hr
    rw [(put_bad1 (x := x) ha).1, (put_bad1 (x := x) ha).2]
    have HR := Lib.hid hr
    clear hr ha hv
    go_enter Try.func13, Try.ntmps13
    go_wp2_with fail
    refine HR.out.mono ?_
    rintro e w1 ⟨rfl, hb1⟩
    have hz1 := hb1.size
    simp at hz1
    go_wp2_with fail
    go_ret2
    exact ⟨_, rfl, Owns.nil _ _, (by repeat' (first | exact Below.refl _ _ | refine Below.alloc ?_ ?_ _ | refine Below.setCell ?_ ?_ _ | refine Below.drew ?_ | (apply below_step; assumption) | (simp; done) | (simp; omega) | omega))⟩
  · rw [ha] at hr
    have HR := Lib.hid hr
    have hl6 := labsOk_len ha
    have HS : Hid (PutAtS x a [] false a) := .inl ⟨rfl, by simp, _, labsOk_from ha⟩
    have HPO : Hid (putOk a x = labsOk (ins x a) ∧ putList a x = if labsOk (ins x a) then ins x a else []) := by
      show _ ∧ _
      simp [putOk, putList, ha]
    obtain ⟨A, c, rfl, hA⟩ := hv.form
    have HA := Lib.hid hA
    clear hr ha hv hA
    go_enter Try.func13, Try.ntmps13
    go_wp2_with fail
    refine HR.out.mono ?_
    rintro e w1 ⟨rfl, hb1⟩
    have hz1 := hb1.size
    simp at hz1
    have hC1 : Below w.heap.size w w1 := (by repeat' (first | exact Below.refl _ _ | refine Below.alloc ?_ ?_ _ | refine Below.setCell ?_ ?_ _ | refine Below.drew ?_ | (apply below_step; assumption) | (simp; done) | (simp; omega) | omega))
    have HT1 := Lib.hid ((BlockIs.new w 26 #[.int .i64 x.k, .int .i64 x.v]).below hb1 (by simp))
    have hwl : w.heap.size < w1.heap.size := by omega
    clear hb1 HR
    go_wp2_with fail
    go_loopw [6, 7, 8] (fun s6 s7 s8 wr => ∃ (k : Nat) (out : List LV) (inn : Bool), k ≤ a.length ∧ s8 = .int .i64 k ∧ s7 = .bool inn ∧ Owns wr w1.heap.size s6 out ∧ PutAtS x a out inn (a.drop k) ∧ Below w1.heap.size w1 wr) (fun _ _ s8 _ => (a.length - intOf s8).toNat)
    case atStart =>
      refine ⟨0, [], false, by omega, rfl, rfl, ?_, by rw [List.drop_zero]; exact HS.out, (by repeat' (first | exact Below.refl _ _ | refine Below.alloc ?_ ?_ _ | refine Below.setCell ?_ ?_ _ | refine Below.drew ?_ | (apply below_step; assumption) | (simp; done) | (simp; omega) | omega))⟩
      exact World.ownsRow_made w1 #[] 0 (Nat.le_refl _) (by unfold maxLen; omega) rfl
    case round =>
      obtain ⟨k, out, inn, hk, rfl, rfl, hown, hst, hB⟩ := hrel
      have HOW := Lib.hid hown
      have HST := Lib.hid hst
      have hol := putS_len hst hl6
      have hzr := hB.size
      have hT := HT1.out.below hB hwl
      have t0 := hT.cell 0
      have t1 := hT.cell 1
      simp at t0 t1
      have HT := Lib.hid hT
      clear hown hst hT
      by_cases hlt : k < a.length
      · obtain ⟨b, off, rfl, hbw, hat⟩ := HA.out (by omega)
        obtain ⟨y, hy⟩ : ∃ r, a[k]? = some r := ⟨_, List.getElem?_eq_getElem hlt⟩
        have HD := Lib.hid (drop_at hy)
        have hC : Below w.heap.size w wr := hC1.trans (hB.mono (by omega))
        obtain ⟨q0, q1⟩ := (hat.below hC hbw) k y hy
        have HAT := Lib.hid hat
        have HY := Lib.hid hy
        have hlti : (k : Int) < (a.length : Int) := by omega
        have hbr : b < wr.heap.size := by omega
        have hwr : w.heap.size < wr.heap.size := by omega
        clear hat hy
        cases inn
        · have HST' : Hid (PutAtS x a out false (y :: a.drop (k + 1))) := by
            show PutAtS _ _ _ _ _
            rw [← HD.out]; exact HST.out
          rcases Int.lt_trichotomy y.k x.k with hc | hc | hc
          · have HN := Lib.hid (putS_less HST'.out hc)
            have hne : (y.k != x.k) = true := by simp; omega
            have b1 : decide (x.k ≤ y.k) = false := by simp; omega
            clear hc
            go_wp2_with fail
            go_quiet (fail)
            go_wp2_with fail
            go_quiet (fail)
            go_wp2_with (at_builtin; refine wpList_append_lab _ rfl (.tmp 43) (.tmp 48) rfl w1.heap.size _ out y wr.heap.size rfl (Owns.alloc (HOW.out.drewN _) _) rfl ((BlockIs.new' rfl).cell 0) ((BlockIs.new' rfl).cell 1) (by first | omega | (simp; omega)) (by rw [size_da]; omega) ?_; intro v' w3 hown3 hb3)
            go_roundw
            case rel =>
              exact ⟨k + 1, out ++ [y], false, by omega, by go_num, rfl, hown3, HN.out, ((below_drewN hB _).alloc (by simpa using hzr) _).trans hb3⟩
            case measure => simp [intOf]; omega
          · have HN := Lib.hid (putS_same HST'.out hc)
            have hne : (y.k != x.k) = false := by simp; omega
            have b1 : decide (x.k ≤ y.k) = true := by simp; omega
            clear hc
            go_wp2_with fail
            go_quiet (fail)
            go_wp2_with (at_builtin; refine wpList_append_lab _ rfl (.tmp 31) (.tmp 33) rfl w1.heap.size _ out x wr.heap.size rfl (Owns.alloc (HOW.out.drewN _) _) rfl ((BlockIs.new' rfl).cell 0) ((BlockIs.new' rfl).cell 1) (by first | omega | (simp; omega)) (by rw [size_da]; omega) ?_; intro v' w3 hown3 hb3)
            have hB3 := ((below_drewN hB _).alloc (by simpa using hzr) _).trans hb3
            have hz3 := hB3.size
            have hC3 : Below w.heap.size w w3 := hC1.trans (hB3.mono (by omega))
            have hT3 := HT1.out.below hB3 hwl
            obtain ⟨q2, q3⟩ := (HAT.out.below hC3 hbw) k y HY.out
            clear t0 t1 q0 q1
            have t0 := hT3.cell 0
            simp at t0
            have HO3 := Lib.hid hown3
            clear hown3 hb3 hT3
            go_quiet (fail)
            go_wp2_with fail
            go_roundw
            case rel =>
              exact ⟨k + 1, out ++ [x], true, by omega, by go_num, rfl, HO3.out, HN.out, below_drewN hB3 _⟩
            case measure => simp [intOf]; omega
          · have HN := Lib.hid (putS_more HST'.out hc)
            have hne : (y.k != x.k) = true := by simp; omega
            have b1 : decide (x.k ≤ y.k) = true := by simp; omega
            clear hc
            go_wp2_with fail
            go_quiet (fail)
            go_wp2_with (at_builtin; refine wpList_append_lab _ rfl (.tmp 31) (.tmp 33) rfl w1.heap.size _ out x wr.heap.size rfl (Owns.alloc (HOW.out.drewN _) _) rfl ((BlockIs.new' rfl).cell 0) ((BlockIs.new' rfl).cell 1) (by first | omega | (simp; omega)) (by rw [size_da]; omega) ?_; intro v' w3 hown3 hb3)
            have hB3 := ((below_drewN hB _).alloc (by simpa using hzr) _).trans hb3
            have hz3 := hB3.size
            have hC3 : Below w.heap.size w w3 := hC1.trans (hB3.mono (by omega))
            have hT3 := HT1.out.below hB3 hwl
            obtain ⟨q2, q3⟩ := (HAT.out.below hC3 hbw) k y HY.out
            clear t0 t1 q0 q1
            have t0 := hT3.cell 0
            simp at t0
            have HO3 := Lib.hid hown3
            clear hown3 hb3 hT3
            go_quiet (fail)
            go_wp2_with (at_builtin; refine wpList_append_lab _ rfl (.tmp 43) (.tmp 48) rfl w1.heap.size _ (out ++ [x]) y w3.heap.size rfl (Owns.alloc (HO3.out.drewN _) _) rfl ((BlockIs.new' rfl).cell 0) ((BlockIs.new' rfl).cell 1) (by first | omega | (simp; omega)) (by rw [size_da]; omega) ?_; intro v5 w5 hown5 hb5)
            go_roundw
            case rel =>
              exact ⟨k + 1, out ++ [x] ++ [y], true, by omega, by go_num, rfl, hown5, HN.out, ((below_drewN hB3 _).alloc (by simpa using hz3) _).trans hb5⟩
            case measure => simp [intOf]; omega
        · have HN := Lib.hid (putS_in (by rw [← HD.out]; exact HST.out))
          have hne : (y.k != x.k) = true := by have := HN.out.1; simp; omega
          go_wp2_with fail
          go_quiet (fail)
          go_wp2_with fail
          go_quiet (fail)
          go_wp2_with (at_builtin; refine wpList_append_lab _ rfl (.tmp 43) (.tmp 48) rfl w1.heap.size _ out y wr.heap.size rfl (Owns.alloc (HOW.out.drewN _) _) rfl ((BlockIs.new' rfl).cell 0) ((BlockIs.new' rfl).cell 1) (by first | omega | (simp; omega)) (by rw [size_da]; omega) ?_; intro v' w3 hown3 hb3)
          go_roundw
          case rel =>
            exact ⟨k + 1, out ++ [y], true, by omega, by go_num, rfl, hown3, HN.out.2, ((below_drewN hB _).alloc (by simpa using hzr) _).trans hb3⟩
          case measure => simp [intOf]; omega
      · have hkl : k = a.length := by omega
        have HST' : Hid (PutAtS x a out inn []) := by
          show PutAtS _ _ _ _ _
          rw [← List.drop_length (l := a), ← hkl]; exact HST.out
        clear hkl
        have hki : ¬ (k : Int) < (a.length : Int) := by omega
        cases inn
        · have HE : Hid (ins x a = out ++ [x]) := by
            show _ = _
            rcases HST'.out with ⟨_, h, _⟩ | ⟨h, _⟩
            · exact h
            · cases h
          have HI := Lib.hid (ins_len x a)
          go_wp2_with (at_builtin; refine wpList_append_lab _ rfl (.tmp 52) (.tmp 54) rfl w1.heap.size _ out x wr.heap.size rfl (HOW.out.alloc _) rfl (by simp) (by simp) (by omega) (by simp; omega) ?_; intro v' w3 hown3 hb3)
          have hB3 := (hB.alloc (by omega) _).trans hb3
          rw [← HE.out] at hown3
          have hC3 : Below w.heap.size w w3 := hC1.trans (hB3.mono (by omega))
          have hk := sLabsOk_any v' _ w3 hown3.sl (by have := HI.out; omega)
          have HO3 := Lib.hid hown3
          clear hown3 hb3 HOW
          cases hok : labsOk (ins x a)
          all_goals
            rw [hok] at hk
            have HK := Lib.hid hk
            have HOK := Lib.hid hok
            clear hk hok
            go_wp2_with fail
            refine HK.out.mono ?_
            rintro e w4 ⟨rfl, hb4⟩
            go_wp2_with fail
            go_ret2
            rw [HPO.out.1, HPO.out.2, HOK.out]
          · exact ⟨_, rfl, Owns.nil _ _, hC3.trans (hb4.mono hC3.size)⟩
          · exact ⟨_, rfl, (HO3.out.below hb4 (Nat.le_refl _)).lower (by omega), hC3.trans (hb4.mono hC3.size)⟩
        · have HE : Hid (ins x a = out) := by
            show _ = _
            rcases HST'.out with ⟨h, _⟩ | ⟨_, h, _⟩
            · cases h
            · rw [h, List.append_nil]
          have HI := Lib.hid (ins_len x a)
          have hown3 := HOW.out
          rw [← HE.out] at hown3
          have hC3 : Below w.heap.size w wr := hC1.trans (hB.mono (by omega))
          have hk := sLabsOk_any _ _ wr hown3.sl (by have := HI.out; omega)
          have HO3 := Lib.hid hown3
          clear hown3 HOW
          cases hok : labsOk (ins x a)
          all_goals
            rw [hok] at hk
            have HK := Lib.hid hk
            have HOK := Lib.hid hok
            clear hk hok
            go_wp2_with fail
            refine HK.out.mono ?_
            rintro e w4 ⟨rfl, hb4⟩
            go_wp2_with fail
            go_ret2
            rw [HPO.out.1, HPO.out.2, HOK.out]
          · exact ⟨_, rfl, Owns.nil _ _, hC3.trans (hb4.mono hC3.size)⟩
          · exact ⟨_, rfl, (HO3.out.below hb4 (Nat.le_refl _)).lower (by omega), hC3.trans (hb4.mono hC3.size)⟩
end Go.Proofs.Ytelfoedgbgandaa
