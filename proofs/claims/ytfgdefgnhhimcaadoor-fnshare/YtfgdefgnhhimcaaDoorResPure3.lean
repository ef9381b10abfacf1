/- Amounts in plain Lean: shares. -/
import Derived.Test.YtfgdefgnhhimcaaDoorResPure
namespace Go.Proofs.YtfgdefgnhhimcaaDoor

def shr (u c : Int) : Int := if 0 < c then 1000 * u / c else if 0 < u then 1001 else 0
theorem shr_pos {u c : Int} (h : 0 < c) : shr u c = 1000 * u / c := by unfold shr; rw [if_pos h]
theorem shr_over {u c : Int} (h : ¬ 0 < c) (hu : 0 < u) : shr u c = 1001 := by unfold shr; rw [if_neg h, if_pos hu]
theorem shr_none {u c : Int} (h : ¬ 0 < c) (hu : ¬ 0 < u) : shr u c = 0 := by unfold shr; rw [if_neg h, if_neg hu]
theorem shr_bounds {u c : Int} (h0 : 0 ≤ u) (h1 : u ≤ 1000000) : 0 ≤ shr u c ∧ shr u c ≤ 1000000000 := by
  unfold shr
  split
  · next h =>
    refine ⟨Int.ediv_nonneg (by omega) (by omega), ?_⟩
    refine Int.le_trans (Int.ediv_le_self _ (by omega)) (by omega)
  · split <;> omega
/-- The greatest share of the first k fields. -/
def shareTo (u c : RV) : Nat → Int
  | 0 => 0
  | 1 => max 0 (shr u.c c.c)
  | 2 => max (max 0 (shr u.c c.c)) (shr u.m c.m)
  | _ => max (max (max 0 (shr u.c c.c)) (shr u.m c.m)) (shr u.p c.p)
def resShare (u c : RV) : Int := if u.ok && c.ok then shareTo u c 3 else -1
theorem resShare_in {u c : RV} (hu : u.ok = true) (hc : c.ok = true) : resShare u c = shareTo u c 3 := by unfold resShare; simp [hu, hc]
theorem resShare_out {u c : RV} (h : u.ok = false ∨ c.ok = false) : resShare u c = -1 := by
  unfold resShare; rcases h with h | h <;> simp [h]
theorem shareTo_three {u c : RV} (hu : u.ok = true) : shareTo u c 3 = max (shr u.c c.c) (max (shr u.m c.m) (shr u.p c.p)) := by
  obtain ⟨a1, a2, a3, a4, a5, a6⟩ := RV.ok_iff.1 hu
  have b1 := shr_bounds (c := c.c) a1 a2
  have b2 := shr_bounds (c := c.m) a3 a4
  have b3 := shr_bounds (c := c.p) a5 a6
  have e : shareTo u c 3 = max (max (max 0 (shr u.c c.c)) (shr u.m c.m)) (shr u.p c.p) := rfl
  rw [e]
  omega
end Go.Proofs.YtfgdefgnhhimcaaDoor
