/- The contracts of the model's LeaseOk, LeaseTry, LeaseHolds; the laws' toLease, eqLease. -/
import Derived.Test.YtcegofdmdemcbaaDoorLeaseI
namespace Go.Proofs.YtcegofdmdemcbaaDoor
open Go.RowKit

theorem l06Who_any (n : Int) (w : World) : Calls Tryd.prog 11 #[.int .i64 n] w fun e w' => e = .returned (.bool (lWithin n 1 4)) ∧ w = w' := by
  unfold lWithin
  generalize e1 : decide ((1 : Int) ≤ n) = b1
  cases b1
  all_goals
    go_enter Tryd.func11, Tryd.ntmps11
    go_wp2
    go_ret
    exact ⟨by simp, rfl⟩
theorem l01Amt_any (n : Int) (w : World) : Calls Tryd.prog 35 #[.int .i64 n] w fun e w' => e = .returned (.bool (lWithin n 0 1000000)) ∧ w = w' := by
  unfold lWithin
  generalize e1 : decide ((0 : Int) ≤ n) = b1
  cases b1
  all_goals
    go_enter Tryd.func35, Tryd.ntmps35
    go_wp2
    go_ret
    exact ⟨by simp, rfl⟩
theorem leaseOk_eq6 (l : RV) (z b1 c1 c2 d1 d2 : Bool) (hz : leaseZero l = z) (h1 : lWithin l.c 1 4 = b1) (h2 : decide (1 ≤ l.m) = c1) (h3 : decide (l.m ≤ 1000) = c2) (h4 : decide (0 ≤ l.p) = d1) (h5 : decide (l.p ≤ 200000) = d2) : leaseOk l = (z || (b1 && (c1 && c2) && (d1 && d2))) := by
  subst hz h1 h2 h3 h4 h5; rfl
theorem leaseTry_eq5 (l : RV) (who now span : Int) (b0 b1 b2 c1 c2 : Bool) (h0 : leaseOk l = b0) (h1 : lWithin who 1 4 = b1) (h2 : lWithin now 0 100000 = b2) (h3 : decide (span < 1) = c1) (h4 : decide (1000 < span) = c2) :
    leaseTry l who now span = if b0 && b1 && b2 && !c1 && !c2 then leaseGot l who now span else (RV.zero, 1) := by
  subst h0 h1 h2 h3 h4
  have : lWithin span 1 1000 = (!decide (span < 1) && !decide (1000 < span)) := by
    unfold lWithin
    by_cases h : span < 1 <;> by_cases h2 : 1000 < span <;> simp [h, h2] <;> omega
  unfold leaseTry
  rw [this, Bool.and_assoc (leaseOk l && lWithin who 1 4 && lWithin now 0 100000)]
theorem leaseHolds_eqG (l : RV) (who epoch now : Int) (b0 b1 b2 b3 b4 : Bool) (h0 : leaseOk l = b0) (h1 : (l.c == who) = b1) (h2 : (l.m == epoch) = b2) (h3 : (epoch != 0) = b3) (h4 : decide (now < l.p) = b4) :
    leaseHolds l who epoch now = (b0 && b1 && b2 && b3 && b4) := by
  subst h0 h1 h2 h3 h4
  have : (!decide (l.p ≤ now)) = decide (now < l.p) := by
    by_cases h : l.p ≤ now
    · simp [h, show ¬ now < l.p by omega]
    · simp [h, show now < l.p by omega]
  unfold leaseHolds
  rw [this]
end Go.Proofs.YtcegofdmdemcbaaDoor
