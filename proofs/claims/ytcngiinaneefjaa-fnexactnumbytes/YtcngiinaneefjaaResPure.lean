/- Amounts in plain Lean: what chapter 1's functions compute. -/
import Derived.WalkKit
namespace Go.Proofs.Ytcngiinaneefjaa

/-- An amount. -/
structure RV where
  c : Int
  m : Int
  p : Int

def RV.ok (r : RV) : Bool := decide (0 ≤ r.c ∧ r.c ≤ 1000000 ∧ 0 ≤ r.m ∧ r.m ≤ 1000000 ∧ 0 ≤ r.p ∧ r.p ≤ 1000000)
theorem RV.ok_iff {r : RV} : r.ok = true ↔ (0 ≤ r.c ∧ r.c ≤ 1000000 ∧ 0 ≤ r.m ∧ r.m ≤ 1000000 ∧ 0 ≤ r.p ∧ r.p ≤ 1000000) := by
  unfold RV.ok; exact decide_eq_true_iff
theorem RV.bad_iff {r : RV} : r.ok = false ↔ ¬ (0 ≤ r.c ∧ r.c ≤ 1000000 ∧ 0 ≤ r.m ∧ r.m ≤ 1000000 ∧ 0 ≤ r.p ∧ r.p ≤ 1000000) := by
  unfold RV.ok; exact decide_eq_false_iff_not
def RV.zero : RV := ⟨0, 0, 0⟩
def RV.add (a b : RV) : RV := ⟨a.c + b.c, a.m + b.m, a.p + b.p⟩
def RV.sub (a b : RV) : RV := ⟨a.c - b.c, a.m - b.m, a.p - b.p⟩

/-- keepValid. -/
def RV.kept (r : RV) : RV := if r.ok then r else RV.zero
theorem RV.kept_yes {r : RV} (h : r.ok = true) : r.kept = r := by unfold RV.kept; rw [if_pos h]
theorem RV.kept_no {r : RV} (h : r.ok = false) : r.kept = RV.zero := by unfold RV.kept; rw [if_neg (by rw [h]; decide)]
/-- ResAdd. -/
def resAddOk (a b : RV) : Bool := a.ok && b.ok && (a.add b).ok
def resAdd (a b : RV) : RV := if resAddOk a b then a.add b else RV.zero
/-- ResSub. -/
def resSubOk (a b : RV) : Bool := a.ok && b.ok && (a.sub b).ok
def resSub (a b : RV) : RV := if resSubOk a b then a.sub b else RV.zero
theorem resAdd_in {a b : RV} (ha : a.ok = true) (hb : b.ok = true) : resAdd a b = (a.add b).kept ∧ resAddOk a b = (a.add b).ok := by
  unfold resAdd resAddOk RV.kept; simp [ha, hb]
theorem resAdd_out {a b : RV} (h : a.ok = false ∨ b.ok = false) : resAdd a b = RV.zero ∧ resAddOk a b = false := by
  unfold resAdd resAddOk; rcases h with h | h <;> simp [h]
theorem resSub_in {a b : RV} (ha : a.ok = true) (hb : b.ok = true) : resSub a b = (a.sub b).kept ∧ resSubOk a b = (a.sub b).ok := by
  unfold resSub resSubOk RV.kept; simp [ha, hb]
theorem resSub_out {a b : RV} (h : a.ok = false ∨ b.ok = false) : resSub a b = RV.zero ∧ resSubOk a b = false := by
  unfold resSub resSubOk; rcases h with h | h <;> simp [h]
theorem resSubOk_in {a b : RV} (ha : a.ok = true) (hb : b.ok = true) : resSubOk b a = true ↔ (a.c ≤ b.c ∧ a.m ≤ b.m ∧ a.p ≤ b.p) := by
  have hA := RV.ok_iff.1 ha
  have hB := RV.ok_iff.1 hb
  rw [(resSub_in hb ha).2, RV.ok_iff]
  unfold RV.sub
  dsimp only
  omega
/-- The ending 'an amount and a bool'. -/
def RetR (r : RV) (b : Bool) (w : World) (e : Ending) (w' : World) : Prop := e = .returned (.tuple #[.agg #[.int .i64 r.c, .int .i64 r.m, .int .i64 r.p], .bool b]) ∧ Go.RowKit.Below w.heap.size w w'
theorem RetR.of {r r' : RV} {b b' : Bool} {w : World} (hr : r' = r) (hb : b' = b) : RetR r b w = RetR r' b' w := by rw [hr, hb]
end Go.Proofs.Ytcngiinaneefjaa
