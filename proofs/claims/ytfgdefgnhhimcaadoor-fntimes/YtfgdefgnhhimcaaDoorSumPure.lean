/- Amounts in plain Lean: sums of lists. -/
import Derived.Test.YtfgdefgnhhimcaaDoorResPure
namespace Go.Proofs.YtfgdefgnhhimcaaDoor
/-- ResSum from a sum so far. -/
def sumGo : RV → List RV → RV × Bool
  | s, [] => (s, true)
  | s, r :: l => if resAddOk s r then sumGo (resAdd s r) l else (RV.zero, false)
theorem sumGo_cons_yes {s r : RV} {l : List RV} (h : resAddOk s r = true) : sumGo s (r :: l) = sumGo (resAdd s r) l := by
  rw [sumGo, if_pos h]
theorem sumGo_cons_no {s r : RV} {l : List RV} (h : resAddOk s r = false) : sumGo s (r :: l) = (RV.zero, false) := by
  rw [sumGo, if_neg (by rw [h]; decide)]
theorem drop_at {l : List RV} {k : Nat} {r : RV} (h : l[k]? = some r) : l.drop k = r :: l.drop (k + 1) := by
  obtain ⟨hk, rfl⟩ := List.getElem?_eq_some_iff.1 h
  exact List.drop_eq_getElem_cons hk
end Go.Proofs.YtfgdefgnhhimcaaDoor
