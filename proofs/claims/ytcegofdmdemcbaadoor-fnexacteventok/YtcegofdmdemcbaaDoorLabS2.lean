/- The contracts of the model's LabsGet and LabsMatch. -/
import Derived.Test.YtcegofdmdemcbaaDoorLabS
namespace Go.Proofs.YtcegofdmdemcbaaDoor
open Go.RowKit

theorem sLabsOk_any (v : Value) (l : List LV) (w : World) (hv : LabSl w v l) (hlen : l.length ≤ 1048576) :
    Calls Tryd.prog 24 #[v] w fun e w' => e = .returned (.bool (labsOk l)) ∧ Below w.heap.size w w' := by
  by_cases h : l.length ≤ 6
  · exact sLabsOk_short v l w hv h
  · obtain ⟨A, c, rfl, _⟩ := hv.form
    rw [labsOk_long (by omega)]
    exact sLabsOk_long A l.length c w (by omega) hlen




theorem hasAllOf_yes {a r : List LV} {x : LV} (h1 : (findK a x.k).2 = true) (h2 : (findK a x.k).1 = x.v) : hasAllOf a (x :: r) = hasAllOf a r := by simp [hasAllOf, h1, h2]
theorem hasAllOf_no1 {a r : List LV} {x : LV} (h1 : (findK a x.k).2 = false) : hasAllOf a (x :: r) = false := by simp [hasAllOf, h1]
theorem hasAllOf_no2 {a r : List LV} {x : LV} (h2 : (findK a x.k).1 ≠ x.v) : hasAllOf a (x :: r) = false := by simp [hasAllOf, h2]
theorem matchOf_both {a b : List LV} (ha : labsOk a = true) (hb : labsOk b = true) : matchOf a b = hasAllOf a b := by simp [matchOf, ha, hb]

end Go.Proofs.YtcegofdmdemcbaaDoor
