/- Amounts in plain Lean: multiples. -/
import Derived.Test.YtfgdefgnhhimcaaDoorResPure
namespace Go.Proofs.YtfgdefgnhhimcaaDoor

/-- ResTimes. -/
def RV.times (a : RV) (n : Int) : RV := ⟨a.c * n, a.m * n, a.p * n⟩
def resTimesOk (a : RV) (n : Int) : Bool := decide (0 ≤ n) && a.ok && (a.times (min n 1000001)).ok
def resTimes (a : RV) (n : Int) : RV := if resTimesOk a n then a.times (min n 1000001) else RV.zero
theorem resTimes_in {a : RV} {n : Int} (h0 : 0 ≤ n) (ha : a.ok = true) : resTimes a n = (a.times (min n 1000001)).kept ∧ resTimesOk a n = (a.times (min n 1000001)).ok := by
  unfold resTimes resTimesOk RV.kept; simp [h0, ha]
theorem resTimes_out {a : RV} {n : Int} (h : n < 0 ∨ a.ok = false) : resTimes a n = RV.zero ∧ resTimesOk a n = false := by
  unfold resTimes resTimesOk
  rcases h with h | h
  · have : ¬ 0 ≤ n := by omega
    simp [this]
  · simp [h]
theorem mul_bounds {x n : Int} (h0 : 0 ≤ x) (h1 : x ≤ 1000000) (h2 : 0 ≤ n) (h3 : n ≤ 1000001) : 0 ≤ x * n ∧ x * n ≤ 1000001000000 :=
  ⟨Int.mul_nonneg h0 h2, Int.le_trans (Int.mul_le_mul h1 h3 h2 (by decide)) (by decide)⟩
theorem RV.times_succ (a : RV) (k : Int) : (a.times k).add a = a.times (k + 1) := by
  unfold RV.times RV.add; simp only [Int.mul_add, Int.mul_one]
theorem RV.times_zero (a : RV) : a.times 0 = RV.zero := by unfold RV.times RV.zero; simp
/-- More of an amount that is already too much is too much. -/
theorem RV.times_mono {a : RV} {k n : Int} (ha : a.ok = true) (hk : 0 ≤ k) (h : k ≤ n) (hn : (a.times n).ok = true) : (a.times k).ok = true := by
  obtain ⟨a1, a2, a3, a4, a5, a6⟩ := RV.ok_iff.1 ha
  have hN := RV.ok_iff.1 hn
  unfold RV.times at hN
  obtain ⟨b1, b2, b3, b4, b5, b6⟩ := hN
  refine RV.ok_iff.2 ?_
  unfold RV.times
  exact ⟨Int.mul_nonneg a1 hk, Int.le_trans (Int.mul_le_mul_of_nonneg_left h a1) b2, Int.mul_nonneg a3 hk, Int.le_trans (Int.mul_le_mul_of_nonneg_left h a3) b4, Int.mul_nonneg a5 hk, Int.le_trans (Int.mul_le_mul_of_nonneg_left h a5) b6⟩
end Go.Proofs.YtfgdefgnhhimcaaDoor
