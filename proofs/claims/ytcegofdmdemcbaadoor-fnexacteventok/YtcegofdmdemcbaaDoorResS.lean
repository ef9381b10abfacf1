/- The contracts of the model's ResOk, ResAdd, ResSub, ResFits, and of the laws' toRes, eqRes. -/
import Derived.Test.YtcegofdmdemcbaaDoorResA
namespace Go.Proofs.YtcegofdmdemcbaaDoor
open Go.RowKit

theorem l01Amount_yes (n : Int) (w : World) (h1 : 0 ≤ n) (h2 : n ≤ 1000000) :
    Calls Tryd.prog 35 #[.int .i64 n] w fun e w' => e = .returned (.bool true) ∧ w = w' := by
  go_enter Tryd.func35, Tryd.ntmps35
  go_wp2
  go_ret
  exact ⟨by simp, rfl⟩
theorem l01Amount_no (n : Int) (w : World) (h : ¬ (0 ≤ n ∧ n ≤ 1000000)) :
    Calls Tryd.prog 35 #[.int .i64 n] w fun e w' => e = .returned (.bool false) ∧ w = w' := by
  by_cases h1 : 0 ≤ n
  · have h2 : 1000000 < n := by omega
    clear h
    go_enter Tryd.func35, Tryd.ntmps35
    go_wp2
    go_ret
    exact ⟨by simp; omega, rfl⟩
  · have h2 : n < 0 := by omega
    clear h h1
    go_enter Tryd.func35, Tryd.ntmps35
    go_wp2
    go_ret
    exact ⟨by simp, rfl⟩

theorem sResOk_any (r : RV) (w : World) :
    Calls Tryd.prog 23 #[.agg #[.int .i64 r.c, .int .i64 r.m, .int .i64 r.p]] w fun e w' => e = .returned (.bool r.ok) ∧ Below w.heap.size w w' := by
  by_cases hc : 0 ≤ r.c ∧ r.c ≤ 1000000
  · by_cases hm : 0 ≤ r.m ∧ r.m ≤ 1000000
    · by_cases hp : 0 ≤ r.p ∧ r.p ≤ 1000000
      · have H := Lib.hid (RV.ok_iff.2 ⟨hc.1, hc.2, hm.1, hm.2, hp.1, hp.2⟩)
        have HC := Lib.hid hc
        have HM := Lib.hid hm
        have HP := Lib.hid hp
        clear hc hm hp
        go_enter Tryd.func23, Tryd.ntmps23
        go_wp2_with fail
        refine (l01Amount_yes r.c _ HC.out.1 HC.out.2).mono ?_
        rintro e w1 ⟨rfl, rfl⟩
        go_wp2_with fail
        refine (l01Amount_yes r.m _ HM.out.1 HM.out.2).mono ?_
        rintro e w1 ⟨rfl, rfl⟩
        go_wp2_with fail
        refine (l01Amount_yes r.p _ HP.out.1 HP.out.2).mono ?_
        rintro e w1 ⟨rfl, rfl⟩
        go_wp2_with fail
        go_ret
        exact ⟨by rw [H.out]; rfl, (by repeat' (first | exact Below.refl _ _ | refine Below.alloc ?_ ?_ _ | refine Below.setCell ?_ ?_ _ | refine Below.drew ?_ | (apply below_step; assumption) | (simp; done) | (simp; omega) | omega))⟩
      · have H := Lib.hid (RV.bad_iff.2 (fun h => hp ⟨h.2.2.2.2.1, h.2.2.2.2.2⟩))
        have HC := Lib.hid hc
        have HM := Lib.hid hm
        have HP := Lib.hid hp
        clear hc hm hp
        go_enter Tryd.func23, Tryd.ntmps23
        go_wp2_with fail
        refine (l01Amount_yes r.c _ HC.out.1 HC.out.2).mono ?_
        rintro e w1 ⟨rfl, rfl⟩
        go_wp2_with fail
        refine (l01Amount_yes r.m _ HM.out.1 HM.out.2).mono ?_
        rintro e w1 ⟨rfl, rfl⟩
        go_wp2_with fail
        refine (l01Amount_no r.p _ HP.out).mono ?_
        rintro e w1 ⟨rfl, rfl⟩
        go_wp2_with fail
        go_ret
        exact ⟨by rw [H.out]; rfl, (by repeat' (first | exact Below.refl _ _ | refine Below.alloc ?_ ?_ _ | refine Below.setCell ?_ ?_ _ | refine Below.drew ?_ | (apply below_step; assumption) | (simp; done) | (simp; omega) | omega))⟩
    · have H := Lib.hid (RV.bad_iff.2 (fun h => hm ⟨h.2.2.1, h.2.2.2.1⟩))
      have HC := Lib.hid hc
      have HM := Lib.hid hm
      clear hc hm
      go_enter Tryd.func23, Tryd.ntmps23
      go_wp2_with fail
      refine (l01Amount_yes r.c _ HC.out.1 HC.out.2).mono ?_
      rintro e w1 ⟨rfl, rfl⟩
      go_wp2_with fail
      refine (l01Amount_no r.m _ HM.out).mono ?_
      rintro e w1 ⟨rfl, rfl⟩
      go_wp2_with fail
      go_ret
      exact ⟨by rw [H.out]; rfl, (by repeat' (first | exact Below.refl _ _ | refine Below.alloc ?_ ?_ _ | refine Below.setCell ?_ ?_ _ | refine Below.drew ?_ | (apply below_step; assumption) | (simp; done) | (simp; omega) | omega))⟩
  · have H := Lib.hid (RV.bad_iff.2 (fun h => hc ⟨h.1, h.2.1⟩))
    have HC := Lib.hid hc
    clear hc
    go_enter Tryd.func23, Tryd.ntmps23
    go_wp2_with fail
    refine (l01Amount_no r.c _ HC.out).mono ?_
    rintro e w1 ⟨rfl, rfl⟩
    go_wp2_with fail
    go_ret
    exact ⟨by rw [H.out]; rfl, (by repeat' (first | exact Below.refl _ _ | refine Below.alloc ?_ ?_ _ | refine Below.setCell ?_ ?_ _ | refine Below.drew ?_ | (apply below_step; assumption) | (simp; done) | (simp; omega) | omega))⟩

/-- toRes: a copy. -/
theorem toRes_any (r : RV) (w : World) :
    Calls Tryd.prog 26 #[.agg #[.int .i64 r.c, .int .i64 r.m, .int .i64 r.p]] w fun e w' => e = .returned (.agg #[.int .i64 r.c, .int .i64 r.m, .int .i64 r.p]) ∧ Below w.heap.size w w' := by
  go_enter Tryd.func26, Tryd.ntmps26
  go_wp2
  exact bodyPost_ret (v := .agg #[.int .i64 r.c, .int .i64 r.m, .int .i64 r.p]) (by simp [results, Tryd.results26, go_sem]) rfl ⟨rfl, (by repeat' (first | exact Below.refl _ _ | refine Below.alloc ?_ ?_ _ | refine Below.setCell ?_ ?_ _ | refine Below.drew ?_ | (apply below_step; assumption) | (simp; done) | (simp; omega) | omega))⟩
/-- eqRes of two equal amounts. -/
theorem eqRes_same (r : RV) (w : World) :
    Calls Tryd.prog 32 #[.agg #[.int .i64 r.c, .int .i64 r.m, .int .i64 r.p], .agg #[.int .i64 r.c, .int .i64 r.m, .int .i64 r.p]] w fun e w' => e = .returned (.bool true) ∧ Below w.heap.size w w' := by
  have h1 : (r.c != r.c) = false := by simp
  have h2 : (r.m != r.m) = false := by simp
  have h3 : (r.p != r.p) = false := by simp
  go_enter Tryd.func32, Tryd.ntmps32
  go_wp2
  go_ret
  exact ⟨rfl, (by repeat' (first | exact Below.refl _ _ | refine Below.alloc ?_ ?_ _ | refine Below.setCell ?_ ?_ _ | refine Below.drew ?_ | (apply below_step; assumption) | (simp; done) | (simp; omega) | omega))⟩

theorem sResOk_at (a : RV) (b : Bool) (h : a.ok = b) (w : World) : Calls Tryd.prog 23 #[.agg #[.int .i64 a.c, .int .i64 a.m, .int .i64 a.p]] w fun e w' => e = .returned (.bool b) ∧ Below w.heap.size w w' := by
  have := sResOk_any a w; rwa [h] at this

end Go.Proofs.YtcegofdmdemcbaaDoor
