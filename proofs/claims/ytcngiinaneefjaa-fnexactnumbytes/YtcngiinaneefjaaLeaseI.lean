/- The contracts of LeaseOk, LeaseTry, LeaseHolds and of what they call. -/
import Derived.Test.YtcngiinaneefjaaBase
import Derived.Test.YtcngiinaneefjaaLeaseP
import Derived.Laws.StructEq
namespace Go.Proofs.Ytcngiinaneefjaa
open Go.RowKit

theorem within_any (n a b : Int) (w : World) : Calls Try.prog 19 #[.int .i64 n, .int .i64 a, .int .i64 b] w fun e w' => e = .returned (.bool (lWithin n a b)) ∧ w = w' := by
  unfold lWithin
  generalize e1 : decide (a ≤ n) = b1
  cases b1
  all_goals
    go_enter Try.func19, Try.ntmps19
    go_wp2
    go_ret
    exact ⟨by simp, rfl⟩
theorem RetL_mk {r : RV × Int} {w w' : World} {a b c d : Int} (h : r = (⟨a, b, c⟩, d)) (hb : Below w.heap.size w w') : RetL r w (.returned (.tuple #[.agg #[.int .i64 a, .int .i64 b, .int .i64 c], .int .i64 d])) w' := by subst h; exact ⟨rfl, hb⟩
theorem leaseGot_late {l : RV} {who now span : Int} (h : l.p ≤ now) (h2 : ¬ 1000 < l.m + 1) : leaseGot l who now span = (⟨who, l.m + 1, now + span⟩, 0) := by
  unfold leaseGot; rw [if_pos h, if_neg (by omega)]
theorem leaseGot_full {l : RV} {who now span : Int} (h : l.p ≤ now) (hm : l.m ≤ 1000) (h2 : 1000 < l.m + 1) : leaseGot l who now span = (⟨0, 0, 0⟩, 5) := by
  unfold leaseGot; rw [if_pos h, if_pos (by omega)]; rfl
theorem leaseGot_own {l : RV} {who now span : Int} (h : ¬ l.p ≤ now) (h2 : l.c = who) : leaseGot l who now span = (⟨who, l.m, now + span⟩, 0) := by
  unfold leaseGot; rw [if_neg h, if_pos h2]
theorem leaseGot_held {l : RV} {who now span : Int} (h : ¬ l.p ≤ now) (h2 : ¬ l.c = who) : leaseGot l who now span = (⟨0, 0, 0⟩, 2) := by
  unfold leaseGot; rw [if_neg h, if_neg h2]; rfl
end Go.Proofs.Ytcngiinaneefjaa
