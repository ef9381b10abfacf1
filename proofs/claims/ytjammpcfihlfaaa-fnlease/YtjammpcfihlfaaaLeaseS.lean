/- The contracts of the model's LeaseOk, LeaseTry, LeaseHolds; the laws' toLease, eqLease. -/
import Derived.Test.YtjammpcfihlfaaaLeaseI
namespace Go.Proofs.Ytjammpcfihlfaaa
open Go.RowKit

theorem l06Who_any (n : Int) (w : World) : Calls Try.prog 44 #[.int .i64 n] w fun e w' => e = .returned (.bool (lWithin n 1 4)) ∧ w = w' := by
  unfold lWithin
  generalize e1 : decide ((1 : Int) ≤ n) = b1
  cases b1
  all_goals
    go_enter Try.func44, Try.ntmps44
    go_wp2
    go_ret
    exact ⟨by simp, rfl⟩
theorem l06Time_any (n : Int) (w : World) : Calls Try.prog 45 #[.int .i64 n] w fun e w' => e = .returned (.bool (lWithin n 0 100000)) ∧ w = w' := by
  unfold lWithin
  generalize e1 : decide ((0 : Int) ≤ n) = b1
  cases b1
  all_goals
    go_enter Try.func45, Try.ntmps45
    go_wp2
    go_ret
    exact ⟨by simp, rfl⟩
theorem l06Epoch_any (n : Int) (w : World) : Calls Try.prog 52 #[.int .i64 n] w fun e w' => e = .returned (.bool (lWithin n 1 1000)) ∧ w = w' := by
  unfold lWithin
  generalize e1 : decide ((1 : Int) ≤ n) = b1
  cases b1
  all_goals
    go_enter Try.func52, Try.ntmps52
    go_wp2
    go_ret
    exact ⟨by simp, rfl⟩
theorem l01Amt_any (n : Int) (w : World) : Calls Try.prog 66 #[.int .i64 n] w fun e w' => e = .returned (.bool (lWithin n 0 1000000)) ∧ w = w' := by
  unfold lWithin
  generalize e1 : decide ((0 : Int) ≤ n) = b1
  cases b1
  all_goals
    go_enter Try.func66, Try.ntmps66
    go_wp2
    go_ret
    exact ⟨by simp, rfl⟩
theorem leaseOk_eq6 (l : RV) (z b1 c1 c2 d1 d2 : Bool) (hz : leaseZero l = z) (h1 : lWithin l.c 1 4 = b1) (h2 : decide (1 ≤ l.m) = c1) (h3 : decide (l.m ≤ 1000) = c2) (h4 : decide (0 ≤ l.p) = d1) (h5 : decide (l.p ≤ 200000) = d2) : leaseOk l = (z || (b1 && (c1 && c2) && (d1 && d2))) := by
  subst hz h1 h2 h3 h4 h5; rfl
theorem sLeaseOk_any (l : RV) (w : World) : Calls Try.prog 25 #[.agg #[.int .i64 l.c, .int .i64 l.m, .int .i64 l.p]] w fun e w' => e = .returned (.bool (leaseOk l)) ∧ Below w.heap.size w w' := by
  have heq := fun w => eq_lease0 l w
  have hgd := guard_lease
  have h1 := fun w => l06Who_any l.c w
  have HE := Lib.hid (leaseOk_eq6 l)
  generalize leaseOk l = ok at *
  generalize ez : leaseZero l = z at *
  generalize e1 : lWithin l.c 1 4 = b1 at *
  generalize e2 : decide (1 ≤ l.m) = b2
  generalize e3 : decide (l.m ≤ 1000) = b3
  generalize e4 : decide (0 ≤ l.p) = b4
  generalize e5 : decide (l.p ≤ 200000) = b5
  have HE' := Lib.hid (HE.out _ _ _ _ _ _ rfl rfl e2 e3 e4 e5)
  have H1 := Lib.hid h1
  clear h1 HE ez e1
  go_enter Try.func25, Try.ntmps25
  cases z
  · go_wp2_with fail
    refine (H1.out _).mono ?_
    rintro e w1 ⟨rfl, rfl⟩
    cases b1
    · go_wp2_with fail
      go_ret
      exact ⟨by rw [HE'.out]; simp, (by repeat' (first | exact Below.refl _ _ | refine Below.alloc ?_ ?_ _ | refine Below.setCell ?_ ?_ _ | refine Below.drew ?_ | (apply below_step; assumption) | (simp; done) | (simp; omega) | omega))⟩
    cases b2
    · go_wp2_with fail
      go_ret
      exact ⟨by rw [HE'.out]; simp, (by repeat' (first | exact Below.refl _ _ | refine Below.alloc ?_ ?_ _ | refine Below.setCell ?_ ?_ _ | refine Below.drew ?_ | (apply below_step; assumption) | (simp; done) | (simp; omega) | omega))⟩
    cases b3
    · go_wp2_with fail
      go_ret
      exact ⟨by rw [HE'.out]; simp, (by repeat' (first | exact Below.refl _ _ | refine Below.alloc ?_ ?_ _ | refine Below.setCell ?_ ?_ _ | refine Below.drew ?_ | (apply below_step; assumption) | (simp; done) | (simp; omega) | omega))⟩
    cases b4
    · go_wp2_with fail
      go_ret
      exact ⟨by rw [HE'.out]; simp, (by repeat' (first | exact Below.refl _ _ | refine Below.alloc ?_ ?_ _ | refine Below.setCell ?_ ?_ _ | refine Below.drew ?_ | (apply below_step; assumption) | (simp; done) | (simp; omega) | omega))⟩
    go_wp2_with fail
    go_ret
    exact ⟨by rw [HE'.out]; simp, (by repeat' (first | exact Below.refl _ _ | refine Below.alloc ?_ ?_ _ | refine Below.setCell ?_ ?_ _ | refine Below.drew ?_ | (apply below_step; assumption) | (simp; done) | (simp; omega) | omega))⟩
  · go_wp2_with fail
    go_ret
    exact ⟨by rw [HE'.out]; simp, (by repeat' (first | exact Below.refl _ _ | refine Below.alloc ?_ ?_ _ | refine Below.setCell ?_ ?_ _ | refine Below.drew ?_ | (apply below_step; assumption) | (simp; done) | (simp; omega) | omega))⟩

theorem leaseTry_eq5 (l : RV) (who now span : Int) (b0 b1 b2 c1 c2 : Bool) (h0 : leaseOk l = b0) (h1 : lWithin who 1 4 = b1) (h2 : lWithin now 0 100000 = b2) (h3 : decide (span < 1) = c1) (h4 : decide (1000 < span) = c2) :
    leaseTry l who now span = if b0 && b1 && b2 && !c1 && !c2 then leaseGot l who now span else (RV.zero, 1) := by
  subst h0 h1 h2 h3 h4
  have : lWithin span 1 1000 = (!decide (span < 1) && !decide (1000 < span)) := by
    unfold lWithin
    by_cases h : span < 1 <;> by_cases h2 : 1000 < span <;> simp [h, h2] <;> omega
  unfold leaseTry
  rw [this, Bool.and_assoc (leaseOk l && lWithin who 1 4 && lWithin now 0 100000)]
set_option maxHeartbeats 1600000 in
theorem sLeaseTry_any (l : RV) (who now span : Int) (w : World) : Calls Try.prog 14 #[.agg #[.int .i64 l.c, .int .i64 l.m, .int .i64 l.p], .int .i64 who, .int .i64 now, .int .i64 span] w (RetL (leaseTry l who now span) w) := by
  have h0 := fun w => sLeaseOk_any l w
  have h1 := fun w => l06Who_any who w
  have h2 := fun w => l06Time_any now w
  have HE := Lib.hid (leaseTry_eq5 l who now span)
  have HB := Lib.hid (leaseOk_bounds (l := l))
  have HW2 := Lib.hid (lWithin_iff (n := now) (a := 0) (b := 100000)).1
  generalize leaseTry l who now span = ans at *
  generalize leaseOk l = b0 at *
  generalize lWithin who 1 4 = b1 at *
  generalize lWithin now 0 100000 = b2 at *
  generalize e3 : decide (span < 1) = b3 at *
  generalize e4 : decide (1000 < span) = b4 at *
  have HE' := Lib.hid (HE.out _ _ _ _ _ rfl rfl rfl rfl rfl)
  have H0 := Lib.hid h0
  have H1 := Lib.hid h1
  have H2 := Lib.hid h2
  clear h0 h1 h2 HE
  go_enter Try.func14, Try.ntmps14
  go_wp2_with fail
  refine (H0.out _).mono ?_
  rintro e w1 ⟨rfl, hb1⟩
  have hz1 := hb1.size
  simp at hz1
  obtain ⟨hc1, hf1⟩ := bcell hb1
  have q0 : w.heap.size < w1.heap.size := by omega
  have q1 : w.heap.size + 1 < w1.heap.size := by omega
  cases b0
  · go_wp2_with fail
    refine bodyPost_ret (v := .tuple #[.agg #[.int .i64 RV.zero.c, .int .i64 RV.zero.m, .int .i64 RV.zero.p], .int .i64 1]) (by simp [results, Try.results14, go_sem, RV.zero, hc1]) rfl ?_
    exact RetL_mk (by rw [HE'.out]; simp [RV.zero]) (by repeat' (first | exact Below.refl _ _ | refine Below.alloc ?_ ?_ _ | refine Below.setCell ?_ ?_ _ | refine Below.drew ?_ | (apply below_step; assumption) | (simp; done) | (simp; omega) | omega))
  go_wp2_with fail
  refine (H1.out _).mono ?_
  rintro e w2 ⟨rfl, rfl⟩
  cases b1
  · go_wp2_with fail
    refine bodyPost_ret (v := .tuple #[.agg #[.int .i64 RV.zero.c, .int .i64 RV.zero.m, .int .i64 RV.zero.p], .int .i64 1]) (by simp [results, Try.results14, go_sem, RV.zero, hc1]) rfl ?_
    exact RetL_mk (by rw [HE'.out]; simp [RV.zero]) (by repeat' (first | exact Below.refl _ _ | refine Below.alloc ?_ ?_ _ | refine Below.setCell ?_ ?_ _ | refine Below.drew ?_ | (apply below_step; assumption) | (simp; done) | (simp; omega) | omega))
  go_wp2_with fail
  refine (H2.out _).mono ?_
  rintro e w2 ⟨rfl, rfl⟩
  cases b2
  · go_wp2_with fail
    refine bodyPost_ret (v := .tuple #[.agg #[.int .i64 RV.zero.c, .int .i64 RV.zero.m, .int .i64 RV.zero.p], .int .i64 1]) (by simp [results, Try.results14, go_sem, RV.zero, hc1]) rfl ?_
    exact RetL_mk (by rw [HE'.out]; simp [RV.zero]) (by repeat' (first | exact Below.refl _ _ | refine Below.alloc ?_ ?_ _ | refine Below.setCell ?_ ?_ _ | refine Below.drew ?_ | (apply below_step; assumption) | (simp; done) | (simp; omega) | omega))
  cases b3
  rotate_left
  · go_wp2_with fail
    refine bodyPost_ret (v := .tuple #[.agg #[.int .i64 RV.zero.c, .int .i64 RV.zero.m, .int .i64 RV.zero.p], .int .i64 1]) (by simp [results, Try.results14, go_sem, RV.zero, hc1]) rfl ?_
    exact RetL_mk (by rw [HE'.out]; simp [RV.zero]) (by repeat' (first | exact Below.refl _ _ | refine Below.alloc ?_ ?_ _ | refine Below.setCell ?_ ?_ _ | refine Below.drew ?_ | (apply below_step; assumption) | (simp; done) | (simp; omega) | omega))
  cases b4
  rotate_left
  · go_wp2_with fail
    refine bodyPost_ret (v := .tuple #[.agg #[.int .i64 RV.zero.c, .int .i64 RV.zero.m, .int .i64 RV.zero.p], .int .i64 1]) (by simp [results, Try.results14, go_sem, RV.zero, hc1]) rfl ?_
    exact RetL_mk (by rw [HE'.out]; simp [RV.zero]) (by repeat' (first | exact Below.refl _ _ | refine Below.alloc ?_ ?_ _ | refine Below.setCell ?_ ?_ _ | refine Below.drew ?_ | (apply below_step; assumption) | (simp; done) | (simp; omega) | omega))
  obtain ⟨c1, c2, c3, c4, c5, c6⟩ := HB.out (by simp)
  obtain ⟨d1, d2⟩ := HW2.out (by simp)
  have d3 := of_decide_eq_false e3
  have d4 := of_decide_eq_false e4
  have HA := Lib.hid HE'.out
  clear HE' HB HW2
  generalize e1 : decide (now < l.p) = held
  cases held
  · generalize e2 : (l.m == 1000) = full
    cases full
    · go_wp2_with fail
      refine bodyPost_ret (v := .tuple #[.agg #[.int .i64 who, .int .i64 (l.m + 1), .int .i64 (now + span)], .int .i64 0]) (by simp [results, Try.results14, go_sem, hc1]) rfl ?_
      have e2' : ¬ l.m = 1000 := by simpa using e2
      exact RetL_mk (by rw [HA.out]; exact leaseGot_late (Int.not_lt.1 (of_decide_eq_false e1)) (by omega)) (by repeat' (first | exact Below.refl _ _ | refine Below.alloc ?_ ?_ _ | refine Below.setCell ?_ ?_ _ | refine Below.drew ?_ | (apply below_step; assumption) | (simp; done) | (simp; omega) | omega))
    · go_wp2_with fail
      refine bodyPost_ret (v := .tuple #[.agg #[.int .i64 RV.zero.c, .int .i64 RV.zero.m, .int .i64 RV.zero.p], .int .i64 5]) (by simp [results, Try.results14, go_sem, RV.zero, hc1]) rfl ?_
      have e2' : l.m = 1000 := by simpa using e2
      exact RetL_mk (by rw [HA.out]; exact leaseGot_full (Int.not_lt.1 (of_decide_eq_false e1)) c4 (by omega)) (by repeat' (first | exact Below.refl _ _ | refine Below.alloc ?_ ?_ _ | refine Below.setCell ?_ ?_ _ | refine Below.drew ?_ | (apply below_step; assumption) | (simp; done) | (simp; omega) | omega))
  · generalize e2 : (l.c == who) = own
    cases own
    · go_wp2_with fail
      refine bodyPost_ret (v := .tuple #[.agg #[.int .i64 RV.zero.c, .int .i64 RV.zero.m, .int .i64 RV.zero.p], .int .i64 2]) (by simp [results, Try.results14, go_sem, RV.zero, hc1]) rfl ?_
      exact RetL_mk (by rw [HA.out]; exact leaseGot_held (Int.not_le.2 (of_decide_eq_true e1)) (by simpa using e2)) (by repeat' (first | exact Below.refl _ _ | refine Below.alloc ?_ ?_ _ | refine Below.setCell ?_ ?_ _ | refine Below.drew ?_ | (apply below_step; assumption) | (simp; done) | (simp; omega) | omega))
    · go_wp2_with fail
      refine bodyPost_ret (v := .tuple #[.agg #[.int .i64 who, .int .i64 l.m, .int .i64 (now + span)], .int .i64 0]) (by simp [results, Try.results14, go_sem, hc1]) rfl ?_
      exact RetL_mk (by rw [HA.out]; exact leaseGot_own (Int.not_le.2 (of_decide_eq_true e1)) (by simpa using e2)) (by repeat' (first | exact Below.refl _ _ | refine Below.alloc ?_ ?_ _ | refine Below.setCell ?_ ?_ _ | refine Below.drew ?_ | (apply below_step; assumption) | (simp; done) | (simp; omega) | omega))

theorem leaseHolds_eqG (l : RV) (who epoch now : Int) (b0 b1 b2 b3 b4 : Bool) (h0 : leaseOk l = b0) (h1 : (l.c == who) = b1) (h2 : (l.m == epoch) = b2) (h3 : (epoch != 0) = b3) (h4 : decide (now < l.p) = b4) :
    leaseHolds l who epoch now = (b0 && b1 && b2 && b3 && b4) := by
  subst h0 h1 h2 h3 h4
  have : (!decide (l.p ≤ now)) = decide (now < l.p) := by
    by_cases h : l.p ≤ now
    · simp [h, show ¬ now < l.p by omega]
    · simp [h, show now < l.p by omega]
  unfold leaseHolds
  rw [this]
theorem sLeaseHolds_any (l : RV) (who epoch now : Int) (w : World) : Calls Try.prog 29 #[.agg #[.int .i64 l.c, .int .i64 l.m, .int .i64 l.p], .int .i64 who, .int .i64 epoch, .int .i64 now] w fun e w' => e = .returned (.bool (leaseHolds l who epoch now)) ∧ Below w.heap.size w w' := by
  have h0 := fun w => sLeaseOk_any l w
  have HE := Lib.hid (leaseHolds_eqG l who epoch now)
  generalize leaseHolds l who epoch now = ans at *
  generalize leaseOk l = b0 at *
  generalize e1 : (l.c == who) = b1 at *
  generalize e2 : (l.m == epoch) = b2 at *
  generalize e3 : (epoch != 0) = b3 at *
  generalize e4 : decide (now < l.p) = b4 at *
  have HE' := Lib.hid (HE.out _ _ _ _ _ rfl rfl rfl rfl rfl)
  have H0 := Lib.hid h0
  clear h0 HE
  go_enter Try.func29, Try.ntmps29
  go_wp2_with fail
  refine (H0.out _).mono ?_
  rintro e w1 ⟨rfl, hb1⟩
  have hz1 := hb1.size
  simp at hz1
  obtain ⟨hc1, hf1⟩ := bcell hb1
  have q0 : w.heap.size < w1.heap.size := by omega
  cases b0
  · go_wp2_with fail
    go_ret
    exact ⟨by rw [HE'.out]; simp, (by repeat' (first | exact Below.refl _ _ | refine Below.alloc ?_ ?_ _ | refine Below.setCell ?_ ?_ _ | refine Below.drew ?_ | (apply below_step; assumption) | (simp; done) | (simp; omega) | omega))⟩
  cases b1
  · go_wp2_with fail
    go_ret
    exact ⟨by rw [HE'.out]; simp, (by repeat' (first | exact Below.refl _ _ | refine Below.alloc ?_ ?_ _ | refine Below.setCell ?_ ?_ _ | refine Below.drew ?_ | (apply below_step; assumption) | (simp; done) | (simp; omega) | omega))⟩
  cases b2
  · go_wp2_with fail
    go_ret
    exact ⟨by rw [HE'.out]; simp, (by repeat' (first | exact Below.refl _ _ | refine Below.alloc ?_ ?_ _ | refine Below.setCell ?_ ?_ _ | refine Below.drew ?_ | (apply below_step; assumption) | (simp; done) | (simp; omega) | omega))⟩
  cases b3
  · go_wp2_with fail
    go_ret
    exact ⟨by rw [HE'.out]; simp, (by repeat' (first | exact Below.refl _ _ | refine Below.alloc ?_ ?_ _ | refine Below.setCell ?_ ?_ _ | refine Below.drew ?_ | (apply below_step; assumption) | (simp; done) | (simp; omega) | omega))⟩
  go_wp2_with fail
  go_ret
  exact ⟨by rw [HE'.out]; simp, (by repeat' (first | exact Below.refl _ _ | refine Below.alloc ?_ ?_ _ | refine Below.setCell ?_ ?_ _ | refine Below.drew ?_ | (apply below_step; assumption) | (simp; done) | (simp; omega) | omega))⟩

theorem toLease_any (r : RV) (w : World) :
    Calls Try.prog 26 #[.agg #[.int .i64 r.c, .int .i64 r.m, .int .i64 r.p]] w fun e w' => e = .returned (.agg #[.int .i64 r.c, .int .i64 r.m, .int .i64 r.p]) ∧ Below w.heap.size w w' := by
  go_enter Try.func26, Try.ntmps26
  go_wp2
  refine bodyPost_ret (v := .agg #[.int .i64 r.c, .int .i64 r.m, .int .i64 r.p]) (by simp [results, Try.results26, go_sem]) rfl ⟨rfl, (by repeat' (first | exact Below.refl _ _ | refine Below.alloc ?_ ?_ _ | refine Below.setCell ?_ ?_ _ | refine Below.drew ?_ | (apply below_step; assumption) | (simp; done) | (simp; omega) | omega))⟩
theorem eqLease_same (r : RV) (w : World) :
    Calls Try.prog 28 #[.agg #[.int .i64 r.c, .int .i64 r.m, .int .i64 r.p], .agg #[.int .i64 r.c, .int .i64 r.m, .int .i64 r.p]] w fun e w' => e = .returned (.bool true) ∧ Below w.heap.size w w' := by
  have h0 : (r.c != r.c) = false := by simp
  have h1 : (r.m != r.m) = false := by simp
  have h2 : (r.p != r.p) = false := by simp
  go_enter Try.func28, Try.ntmps28
  go_wp2
  go_ret
  exact ⟨rfl, (by repeat' (first | exact Below.refl _ _ | refine Below.alloc ?_ ?_ _ | refine Below.setCell ?_ ?_ _ | refine Below.drew ?_ | (apply below_step; assumption) | (simp; done) | (simp; omega) | omega))⟩
theorem toItem_any (r : RV) (w : World) :
    Calls Try.prog 36 #[.agg #[.int .i64 r.c, .int .i64 r.m, .int .i64 r.p]] w fun e w' => e = .returned (.agg #[.int .i64 r.c, .int .i64 r.m, .int .i64 r.p]) ∧ Below w.heap.size w w' := by
  go_enter Try.func36, Try.ntmps36
  go_wp2
  refine bodyPost_ret (v := .agg #[.int .i64 r.c, .int .i64 r.m, .int .i64 r.p]) (by simp [results, Try.results36, go_sem]) rfl ⟨rfl, (by repeat' (first | exact Below.refl _ _ | refine Below.alloc ?_ ?_ _ | refine Below.setCell ?_ ?_ _ | refine Below.drew ?_ | (apply below_step; assumption) | (simp; done) | (simp; omega) | omega))⟩
theorem eqItem_same (r : RV) (w : World) :
    Calls Try.prog 35 #[.agg #[.int .i64 r.c, .int .i64 r.m, .int .i64 r.p], .agg #[.int .i64 r.c, .int .i64 r.m, .int .i64 r.p]] w fun e w' => e = .returned (.bool true) ∧ Below w.heap.size w w' := by
  have h0 : (r.c != r.c) = false := by simp
  have h1 : (r.m != r.m) = false := by simp
  have h2 : (r.p != r.p) = false := by simp
  go_enter Try.func35, Try.ntmps35
  go_wp2
  go_ret
  exact ⟨rfl, (by repeat' (first | exact Below.refl _ _ | refine Below.alloc ?_ ?_ _ | refine Below.setCell ?_ ?_ _ | refine Below.drew ?_ | (apply below_step; assumption) | (simp; done) | (simp; omega) | omega))⟩
end Go.Proofs.Ytjammpcfihlfaaa
