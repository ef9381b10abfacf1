/- The contracts of LeaseOk, LeaseTry, LeaseHolds and of what they call. -/
import Derived.Test.YtjammpcfihlfaaaBase
import Derived.Test.YtjammpcfihlfaaaLeaseP
import Derived.Laws.StructEq
namespace Go.Proofs.Ytjammpcfihlfaaa
open Go.RowKit

theorem within_any (n a b : Int) (w : World) : Calls Try.prog 59 #[.int .i64 n, .int .i64 a, .int .i64 b] w fun e w' => e = .returned (.bool (lWithin n a b)) ∧ w = w' := by
  unfold lWithin
  generalize e1 : decide (a ≤ n) = b1
  cases b1
  all_goals
    go_enter Try.func59, Try.ntmps59
    go_wp2
    go_ret
    exact ⟨by simp, rfl⟩
theorem replicaOk_any (n : Int) (w : World) : Calls Try.prog 46 #[.int .i64 n] w fun e w' => e = .returned (.bool (lWithin n 1 4)) ∧ w = w' := by
  go_enter Try.func46, Try.ntmps46
  go_wp2_with fail
  refine (within_any n 1 4 _).mono ?_
  rintro e w1 ⟨rfl, rfl⟩
  go_wp2_with fail
  go_ret
  exact ⟨rfl, rfl⟩
theorem timeOk_any (n : Int) (w : World) : Calls Try.prog 47 #[.int .i64 n] w fun e w' => e = .returned (.bool (lWithin n 0 100000)) ∧ w = w' := by
  go_enter Try.func47, Try.ntmps47
  go_wp2_with fail
  refine (within_any n 0 100000 _).mono ?_
  rintro e w1 ⟨rfl, rfl⟩
  go_wp2_with fail
  go_ret
  exact ⟨rfl, rfl⟩
theorem spanOk_any (n : Int) (w : World) : Calls Try.prog 48 #[.int .i64 n] w fun e w' => e = .returned (.bool (lWithin n 1 1000)) ∧ w = w' := by
  go_enter Try.func48, Try.ntmps48
  go_wp2_with fail
  refine (within_any n 1 1000 _).mono ?_
  rintro e w1 ⟨rfl, rfl⟩
  go_wp2_with fail
  go_ret
  exact ⟨rfl, rfl⟩
theorem epochOk_any (n : Int) (w : World) : Calls Try.prog 56 #[.int .i64 n] w fun e w' => e = .returned (.bool (lWithin n 1 1000)) ∧ w = w' := by
  go_enter Try.func56, Try.ntmps56
  go_wp2_with fail
  refine (within_any n 1 1000 _).mono ?_
  rintro e w1 ⟨rfl, rfl⟩
  go_wp2_with fail
  go_ret
  exact ⟨rfl, rfl⟩
theorem expired_any (l : RV) (now : Int) (w : World) : Calls Try.prog 49 #[.agg #[.int .i64 l.c, .int .i64 l.m, .int .i64 l.p], .int .i64 now] w fun e w' => e = .returned (.bool (decide (l.p ≤ now))) ∧ Below w.heap.size w w' := by
  go_enter Try.func49, Try.ntmps49
  go_wp2
  go_ret
  exact ⟨rfl, (by repeat' (first | exact Below.refl _ _ | refine Below.alloc ?_ ?_ _ | refine Below.setCell ?_ ?_ _ | refine Below.drew ?_ | (apply below_step; assumption) | (simp; done) | (simp; omega) | omega))⟩

theorem eqIn_lease (a b : RV) (w : World) : (Op.equalIn 10000 25 (.agg #[.int .i64 a.c, .int .i64 a.m, .int .i64 a.p]) (.agg #[.int .i64 b.c, .int .i64 b.m, .int .i64 b.p])).run Try.prog w = .ok (a.c == b.c && (a.m == b.m && a.p == b.p)) w := by
  have u3 := Try.underlying3
  have hS : Try.prog.underlying 25 = some (.struct (Try.prog.fieldsOf 25)) := by kernel_rfl
  have hp : Try.prog.stoodInHeld 25 = false := by kernel_rfl
  rw [show (10000 : Nat) = 9999 + 1 from rfl, run_equalIn_agg w 9999 25 _ _ hS hp]
  simp only [Program.fieldsOf, Try.underlying25]
  go_simp
  by_cases h1 : a.c = b.c <;> by_cases h2 : a.m = b.m <;> by_cases h3 : a.p = b.p <;> simp [h1, h2, h3]
theorem eq_lease (a b : RV) (w : World) : (binOp .eql 25 (.agg #[.int .i64 a.c, .int .i64 a.m, .int .i64 a.p]) (.agg #[.int .i64 b.c, .int .i64 b.m, .int .i64 b.p])).run Try.prog w = .ok (.bool (a.c == b.c && (a.m == b.m && a.p == b.p))) w := by
  rw [run_eql_struct, eqIn_lease]; rfl
theorem eq_lease0 (a : RV) (w : World) : (binOp .eql 25 (.agg #[.int .i64 a.c, .int .i64 a.m, .int .i64 a.p]) (.agg #[.int .i64 0, .int .i64 0, .int .i64 0])).run Try.prog w = .ok (.bool (leaseZero a)) w := eq_lease a ⟨0, 0, 0⟩ w
theorem guard_lease (op : BinOp) (x y : Operand) (xs ys : Array Value) (w : World) : (eqGuard op 25 x y (.agg xs) (.agg ys)).run Try.prog w = .ok () w := run_eqGuard_agg w op 25 x y xs ys (by kernel_rfl)

theorem LeaseOk_any (l : RV) (w : World) : Calls Try.prog 27 #[.agg #[.int .i64 l.c, .int .i64 l.m, .int .i64 l.p]] w fun e w' => e = .returned (.bool (leaseOk l)) ∧ Below w.heap.size w w' := by
  have heq := fun w => eq_lease0 l w
  have hgd := guard_lease
  have h1 := fun w => replicaOk_any l.c w
  have h2 := fun w => epochOk_any l.m w
  have h3 := fun w => within_any l.p 0 200000 w
  have HE := Lib.hid (leaseOk_eq l)
  generalize leaseOk l = ok at *
  generalize ez : leaseZero l = z at *
  generalize e1 : lWithin l.c 1 4 = b1 at *
  generalize e2 : lWithin l.m 1 1000 = b2 at *
  generalize e3 : lWithin l.p 0 200000 = b3 at *
  have HE' := Lib.hid (HE.out _ _ _ _ rfl rfl rfl rfl)
  have H1 := Lib.hid h1
  have H2 := Lib.hid h2
  have H3 := Lib.hid h3
  clear h1 h2 h3 HE ez e1 e2 e3
  go_enter Try.func27, Try.ntmps27
  cases z
  · go_wp2_with fail
    refine (H1.out _).mono ?_
    rintro e w1 ⟨rfl, rfl⟩
    cases b1
    · go_wp2_with fail
      go_ret
      exact ⟨by rw [HE'.out]; simp, (by repeat' (first | exact Below.refl _ _ | refine Below.alloc ?_ ?_ _ | refine Below.setCell ?_ ?_ _ | refine Below.drew ?_ | (apply below_step; assumption) | (simp; done) | (simp; omega) | omega))⟩
    go_wp2_with fail
    refine (H2.out _).mono ?_
    rintro e w1 ⟨rfl, rfl⟩
    cases b2
    · go_wp2_with fail
      go_ret
      exact ⟨by rw [HE'.out]; simp, (by repeat' (first | exact Below.refl _ _ | refine Below.alloc ?_ ?_ _ | refine Below.setCell ?_ ?_ _ | refine Below.drew ?_ | (apply below_step; assumption) | (simp; done) | (simp; omega) | omega))⟩
    go_wp2_with fail
    refine (H3.out _).mono ?_
    rintro e w1 ⟨rfl, rfl⟩
    go_wp2_with fail
    go_ret
    exact ⟨by rw [HE'.out]; simp, (by repeat' (first | exact Below.refl _ _ | refine Below.alloc ?_ ?_ _ | refine Below.setCell ?_ ?_ _ | refine Below.drew ?_ | (apply below_step; assumption) | (simp; done) | (simp; omega) | omega))⟩
  · go_wp2_with fail
    go_ret
    exact ⟨by rw [HE'.out]; simp, (by repeat' (first | exact Below.refl _ _ | refine Below.alloc ?_ ?_ _ | refine Below.setCell ?_ ?_ _ | refine Below.drew ?_ | (apply below_step; assumption) | (simp; done) | (simp; omega) | omega))⟩

theorem RetL_mk {r : RV × Int} {w w' : World} {a b c d : Int} (h : r = (⟨a, b, c⟩, d)) (hb : Below w.heap.size w w') : RetL r w (.returned (.tuple #[.agg #[.int .i64 a, .int .i64 b, .int .i64 c], .int .i64 d])) w' := by subst h; exact ⟨rfl, hb⟩
theorem leaseGot_late {l : RV} {who now span : Int} (h : l.p ≤ now) (h2 : ¬ 1000 < l.m + 1) : leaseGot l who now span = (⟨who, l.m + 1, now + span⟩, 0) := by
  unfold leaseGot; rw [if_pos h, if_neg (by omega)]
theorem leaseGot_full {l : RV} {who now span : Int} (h : l.p ≤ now) (hm : l.m ≤ 1000) (h2 : 1000 < l.m + 1) : leaseGot l who now span = (⟨0, 0, 0⟩, 5) := by
  unfold leaseGot; rw [if_pos h, if_pos (by omega)]; rfl
theorem leaseGot_own {l : RV} {who now span : Int} (h : ¬ l.p ≤ now) (h2 : l.c = who) : leaseGot l who now span = (⟨who, l.m, now + span⟩, 0) := by
  unfold leaseGot; rw [if_neg h, if_pos h2]
theorem leaseGot_held {l : RV} {who now span : Int} (h : ¬ l.p ≤ now) (h2 : ¬ l.c = who) : leaseGot l who now span = (⟨0, 0, 0⟩, 2) := by
  unfold leaseGot; rw [if_neg h, if_neg h2]; rfl
set_option maxHeartbeats 1600000 in
theorem LeaseTry_any (l : RV) (who now span : Int) (w : World) : Calls Try.prog 15 #[.agg #[.int .i64 l.c, .int .i64 l.m, .int .i64 l.p], .int .i64 who, .int .i64 now, .int .i64 span] w (RetL (leaseTry l who now span) w) := by
  have h0 := fun w => LeaseOk_any l w
  have h1 := fun w => replicaOk_any who w
  have h2 := fun w => timeOk_any now w
  have h3 := fun w => spanOk_any span w
  have HE := Lib.hid (leaseTry_eq l who now span)
  have HB := Lib.hid (leaseOk_bounds (l := l))
  have HW2 := Lib.hid (lWithin_iff (n := now) (a := 0) (b := 100000)).1
  have HW3 := Lib.hid (lWithin_iff (n := span) (a := 1) (b := 1000)).1
  generalize leaseTry l who now span = ans at *
  generalize leaseOk l = b0 at *
  generalize lWithin who 1 4 = b1 at *
  generalize lWithin now 0 100000 = b2 at *
  generalize lWithin span 1 1000 = b3 at *
  have HE' := Lib.hid (HE.out _ _ _ _ rfl rfl rfl rfl)
  have H0 := Lib.hid h0
  have H1 := Lib.hid h1
  have H2 := Lib.hid h2
  have H3 := Lib.hid h3
  clear h0 h1 h2 h3 HE
  go_enter Try.func15, Try.ntmps15
  go_wp2_with fail
  refine (H0.out _).mono ?_
  rintro e w1 ⟨rfl, hb1⟩
  have hz1 := hb1.size
  simp at hz1
  obtain ⟨hc1, hf1⟩ := bcell hb1
  have q0 : w.heap.size < w1.heap.size := by omega
  have q1 : w.heap.size + 1 < w1.heap.size := by omega
  cases b0
  · go_wp2_with fail
    refine bodyPost_ret (v := .tuple #[.agg #[.int .i64 RV.zero.c, .int .i64 RV.zero.m, .int .i64 RV.zero.p], .int .i64 1]) (by simp [results, Try.results15, go_sem, RV.zero, hc1]) rfl ?_
    exact RetL_mk (by rw [HE'.out]; simp [RV.zero]) (by repeat' (first | exact Below.refl _ _ | refine Below.alloc ?_ ?_ _ | refine Below.setCell ?_ ?_ _ | refine Below.drew ?_ | (apply below_step; assumption) | (simp; done) | (simp; omega) | omega))
  go_wp2_with fail
  refine (H1.out _).mono ?_
  rintro e w2 ⟨rfl, rfl⟩
  cases b1
  · go_wp2_with fail
    refine bodyPost_ret (v := .tuple #[.agg #[.int .i64 RV.zero.c, .int .i64 RV.zero.m, .int .i64 RV.zero.p], .int .i64 1]) (by simp [results, Try.results15, go_sem, RV.zero, hc1]) rfl ?_
    exact RetL_mk (by rw [HE'.out]; simp [RV.zero]) (by repeat' (first | exact Below.refl _ _ | refine Below.alloc ?_ ?_ _ | refine Below.setCell ?_ ?_ _ | refine Below.drew ?_ | (apply below_step; assumption) | (simp; done) | (simp; omega) | omega))
  go_wp2_with fail
  refine (H2.out _).mono ?_
  rintro e w2 ⟨rfl, rfl⟩
  cases b2
  · go_wp2_with fail
    refine bodyPost_ret (v := .tuple #[.agg #[.int .i64 RV.zero.c, .int .i64 RV.zero.m, .int .i64 RV.zero.p], .int .i64 1]) (by simp [results, Try.results15, go_sem, RV.zero, hc1]) rfl ?_
    exact RetL_mk (by rw [HE'.out]; simp [RV.zero]) (by repeat' (first | exact Below.refl _ _ | refine Below.alloc ?_ ?_ _ | refine Below.setCell ?_ ?_ _ | refine Below.drew ?_ | (apply below_step; assumption) | (simp; done) | (simp; omega) | omega))
  go_wp2_with fail
  refine (H3.out _).mono ?_
  rintro e w2 ⟨rfl, rfl⟩
  cases b3
  · go_wp2_with fail
    refine bodyPost_ret (v := .tuple #[.agg #[.int .i64 RV.zero.c, .int .i64 RV.zero.m, .int .i64 RV.zero.p], .int .i64 1]) (by simp [results, Try.results15, go_sem, RV.zero, hc1]) rfl ?_
    exact RetL_mk (by rw [HE'.out]; simp [RV.zero]) (by repeat' (first | exact Below.refl _ _ | refine Below.alloc ?_ ?_ _ | refine Below.setCell ?_ ?_ _ | refine Below.drew ?_ | (apply below_step; assumption) | (simp; done) | (simp; omega) | omega))
  obtain ⟨c1, c2, c3, c4, c5, c6⟩ := HB.out (by simp)
  obtain ⟨d1, d2⟩ := HW2.out (by simp)
  obtain ⟨d3, d4⟩ := HW3.out (by simp)
  have HA := Lib.hid HE'.out
  clear HE' HB HW2 HW3
  go_wp2_with fail
  refine (expired_any l now _).mono ?_
  rintro e w2 ⟨rfl, hb2⟩
  have hz2 := hb2.size
  obtain ⟨hc2, hf2⟩ := bcell hb2
  have q2 : w.heap.size < w2.heap.size := by omega
  have q3 : w.heap.size + 1 < w2.heap.size := by omega
  generalize e1 : decide (l.p ≤ now) = late
  cases late
  · generalize e2 : (l.c != who) = other
    cases other
    · go_wp2_with fail
      refine bodyPost_ret (v := .tuple #[.agg #[.int .i64 who, .int .i64 l.m, .int .i64 (now + span)], .int .i64 0]) (by simp [results, Try.results15, go_sem, hc1, hc2, q1]) rfl ?_
      exact RetL_mk (by rw [HA.out]; exact leaseGot_own (of_decide_eq_false e1) (by simpa using e2)) (by repeat' (first | exact Below.refl _ _ | refine Below.alloc ?_ ?_ _ | refine Below.setCell ?_ ?_ _ | refine Below.drew ?_ | (apply below_step; assumption) | (simp; done) | (simp; omega) | omega))
    · go_wp2_with fail
      refine bodyPost_ret (v := .tuple #[.agg #[.int .i64 RV.zero.c, .int .i64 RV.zero.m, .int .i64 RV.zero.p], .int .i64 2]) (by simp [results, Try.results15, go_sem, RV.zero, hc1, hc2, q1]) rfl ?_
      exact RetL_mk (by rw [HA.out]; exact leaseGot_held (of_decide_eq_false e1) (by simpa using e2)) (by repeat' (first | exact Below.refl _ _ | refine Below.alloc ?_ ?_ _ | refine Below.setCell ?_ ?_ _ | refine Below.drew ?_ | (apply below_step; assumption) | (simp; done) | (simp; omega) | omega))
  · generalize e2 : decide (1000 < l.m + 1) = full
    cases full
    · go_wp2_with fail
      refine bodyPost_ret (v := .tuple #[.agg #[.int .i64 who, .int .i64 (l.m + 1), .int .i64 (now + span)], .int .i64 0]) (by simp [results, Try.results15, go_sem, hc1, hc2, q1]) rfl ?_
      exact RetL_mk (by rw [HA.out]; exact leaseGot_late (of_decide_eq_true e1) (of_decide_eq_false e2)) (by repeat' (first | exact Below.refl _ _ | refine Below.alloc ?_ ?_ _ | refine Below.setCell ?_ ?_ _ | refine Below.drew ?_ | (apply below_step; assumption) | (simp; done) | (simp; omega) | omega))
    · go_wp2_with fail
      refine bodyPost_ret (v := .tuple #[.agg #[.int .i64 RV.zero.c, .int .i64 RV.zero.m, .int .i64 RV.zero.p], .int .i64 5]) (by simp [results, Try.results15, go_sem, RV.zero, hc1, hc2, q1]) rfl ?_
      exact RetL_mk (by rw [HA.out]; exact leaseGot_full (of_decide_eq_true e1) c4 (of_decide_eq_true e2)) (by repeat' (first | exact Below.refl _ _ | refine Below.alloc ?_ ?_ _ | refine Below.setCell ?_ ?_ _ | refine Below.drew ?_ | (apply below_step; assumption) | (simp; done) | (simp; omega) | omega))

set_option maxHeartbeats 1600000 in
theorem LeaseHolds_any (l : RV) (who epoch now : Int) (w : World) : Calls Try.prog 17 #[.agg #[.int .i64 l.c, .int .i64 l.m, .int .i64 l.p], .int .i64 who, .int .i64 epoch, .int .i64 now] w fun e w' => e = .returned (.bool (leaseHolds l who epoch now)) ∧ Below w.heap.size w w' := by
  have h0 := fun w => LeaseOk_any l w
  have h4 := fun w => expired_any l now w
  have HE := Lib.hid (leaseHolds_eq l who epoch now)
  generalize leaseHolds l who epoch now = ans at *
  generalize leaseOk l = b0 at *
  generalize e1 : (l.c == who) = b1 at *
  generalize e2 : (l.m == epoch) = b2 at *
  generalize e3 : (epoch != 0) = b3 at *
  generalize e4 : decide (l.p ≤ now) = b4 at *
  have HE' := Lib.hid (HE.out _ _ _ _ _ rfl rfl rfl rfl rfl)
  have H0 := Lib.hid h0
  have H4 := Lib.hid h4
  clear h0 h4 HE e4
  go_enter Try.func17, Try.ntmps17
  go_wp2_with fail
  refine (H0.out _).mono ?_
  rintro e w1 ⟨rfl, hb1⟩
  have hz1 := hb1.size
  simp at hz1
  obtain ⟨hc1, hf1⟩ := bcell hb1
  have q0 : w.heap.size < w1.heap.size := by omega
  cases b0
  · go_wp2_with fail
    go_ret
    exact ⟨by rw [HE'.out]; simp, (by repeat' (first | exact Below.refl _ _ | refine Below.alloc ?_ ?_ _ | refine Below.setCell ?_ ?_ _ | refine Below.drew ?_ | (apply below_step; assumption) | (simp; done) | (simp; omega) | omega))⟩
  cases b1
  · go_wp2_with fail
    go_ret
    exact ⟨by rw [HE'.out]; simp, (by repeat' (first | exact Below.refl _ _ | refine Below.alloc ?_ ?_ _ | refine Below.setCell ?_ ?_ _ | refine Below.drew ?_ | (apply below_step; assumption) | (simp; done) | (simp; omega) | omega))⟩
  cases b2
  · go_wp2_with fail
    go_ret
    exact ⟨by rw [HE'.out]; simp, (by repeat' (first | exact Below.refl _ _ | refine Below.alloc ?_ ?_ _ | refine Below.setCell ?_ ?_ _ | refine Below.drew ?_ | (apply below_step; assumption) | (simp; done) | (simp; omega) | omega))⟩
  cases b3
  · go_wp2_with fail
    go_ret
    exact ⟨by rw [HE'.out]; simp, (by repeat' (first | exact Below.refl _ _ | refine Below.alloc ?_ ?_ _ | refine Below.setCell ?_ ?_ _ | refine Below.drew ?_ | (apply below_step; assumption) | (simp; done) | (simp; omega) | omega))⟩
  go_wp2_with fail
  refine (H4.out _).mono ?_
  rintro e w2 ⟨rfl, hb2⟩
  have hz2 := hb2.size
  go_wp2_with fail
  go_ret
  exact ⟨by rw [HE'.out]; simp, (by repeat' (first | exact Below.refl _ _ | refine Below.alloc ?_ ?_ _ | refine Below.setCell ?_ ?_ _ | refine Below.drew ?_ | (apply below_step; assumption) | (simp; done) | (simp; omega) | omega))⟩
end Go.Proofs.Ytjammpcfihlfaaa
