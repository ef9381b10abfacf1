/- Amounts in plain Lean: sums of lists. -/
import Derived.Test.YtcngiinaneefjaaResPure
import Derived.Test.YtcngiinaneefjaaListPure
namespace Go.Proofs.Ytcngiinaneefjaa
/-- ResSum from a sum so far. -/
def sumGo : RV → List RV → RV × Bool
  | s, [] => (s, true)
  | s, r :: l => if resAddOk s r then sumGo (resAdd s r) l else (RV.zero, false)
theorem sumGo_cons_yes {s r : RV} {l : List RV} (h : resAddOk s r = true) : sumGo s (r :: l) = sumGo (resAdd s r) l := by
  rw [sumGo, if_pos h]
theorem sumGo_cons_no {s r : RV} {l : List RV} (h : resAddOk s r = false) : sumGo s (r :: l) = (RV.zero, false) := by
  rw [sumGo, if_neg (by rw [h]; decide)]
end Go.Proofs.Ytcngiinaneefjaa
