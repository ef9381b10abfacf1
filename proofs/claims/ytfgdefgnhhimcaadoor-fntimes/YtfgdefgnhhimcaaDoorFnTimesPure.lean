/- What FnTimes says, in plain Lean: k times an amount is the sum of k copies. -/
import Derived.Test.YtfgdefgnhhimcaaDoorResPure2
import Derived.Test.YtfgdefgnhhimcaaDoorFnResPure
namespace Go.Proofs.YtfgdefgnhhimcaaDoor
theorem sum_rep_from {a : RV} (ha : a.ok = true) : ∀ (m : Nat) (j : Int), 0 ≤ j → (a.times j).ok = true →
    sumGo (a.times j) (List.replicate m a) = ((a.times (j + m)).kept, (a.times (j + m)).ok)
  | 0, j, _, hj => by
    rw [List.replicate_zero, show j + ((0 : Nat) : Int) = j by omega, hj, RV.kept_yes hj]; rfl
  | m + 1, j, h0, hj => by
    have e := resAdd_in hj ha
    rw [RV.times_succ] at e
    rw [List.replicate_succ]
    cases hs : (a.times (j + 1)).ok
    · rw [sumGo_cons_no (by rw [e.2]; exact hs)]
      have hf : (a.times (j + ((m + 1 : Nat) : Int))).ok = false := by
        cases hq : (a.times (j + ((m + 1 : Nat) : Int))).ok
        · rfl
        · have := RV.times_mono (k := j + 1) ha (by omega) (by omega) hq
          rw [hs] at this; cases this
      rw [hf, RV.kept_no hf]
    · rw [sumGo_cons_yes (by rw [e.2]; exact hs), e.1, RV.kept_yes hs, sum_rep_from ha m (j + 1) (by omega) hs]
      rw [show j + 1 + (m : Int) = j + ((m + 1 : Nat) : Int) by omega]
theorem sum_rep (a : RV) (k : Nat) (h1 : 0 < k) (h2 : k ≤ 1000001) : sumGo RV.zero (List.replicate k a) = (resTimes a k, resTimesOk a k) := by
  cases ha : a.ok
  · obtain ⟨m, rfl⟩ : ∃ m, k = m + 1 := ⟨k - 1, by omega⟩
    rw [(resTimes_out (.inr ha)).1, (resTimes_out (.inr ha)).2, List.replicate_succ, sumGo_cons_no (resAdd_out (.inr ha)).2]
  · have := sum_rep_from ha k 0 (by omega) (by rw [RV.times_zero]; exact zero_ok)
    rw [RV.times_zero, Int.zero_add] at this
    rw [this, (resTimes_in (by omega) ha).1, (resTimes_in (by omega) ha).2, show min (k : Int) 1000001 = k by omega]
theorem times_none (a : RV) : resTimes a 0 = RV.zero ∧ resTimesOk a 0 = a.ok := by
  cases ha : a.ok
  · exact resTimes_out (.inr ha)
  · rw [(resTimes_in (by omega) ha).1, (resTimes_in (by omega) ha).2, show min (0 : Int) 1000001 = 0 by omega, RV.times_zero]
    exact ⟨RV.kept_yes zero_ok, zero_ok⟩
end Go.Proofs.YtfgdefgnhhimcaaDoor
