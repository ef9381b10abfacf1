/- What FnShare says, in plain terms. -/
import Derived.Test.YtfgdefgnhhimcaaDoorResPure3
import Derived.Test.YtfgdefgnhhimcaaDoorFnResPure
namespace Go.Proofs.YtfgdefgnhhimcaaDoor
theorem shr_self (u : Int) : shr u u = if 0 < u then 1000 else 0 := by
  unfold shr
  by_cases h : 0 < u
  · rw [if_pos h, if_pos h]; exact Int.mul_ediv_cancel _ (by omega)
  · rw [if_neg h, if_neg h, if_neg h]
theorem shr_mono {u v c : Int} (h : u ≤ v) : shr u c ≤ shr v c := by
  unfold shr
  by_cases h1 : 0 < c
  · rw [if_pos h1, if_pos h1]; exact Int.ediv_le_ediv h1 (by omega)
  · rw [if_neg h1, if_neg h1]; split <;> split <;> omega
theorem shr_fits {u c : Int} (h : u ≤ c) : shr u c ≤ 1000 := by
  unfold shr
  by_cases h1 : 0 < c
  · rw [if_pos h1]
    have : 1000 * u / c ≤ 1000 * c / c := Int.ediv_le_ediv h1 (by omega)
    rwa [Int.mul_ediv_cancel _ (by omega)] at this
  · rw [if_neg h1, if_neg (by omega)]; decide
theorem shr_ge {u c : Int} (hc : 0 ≤ c) (h : c < u) : 1000 ≤ shr u c := by
  unfold shr
  by_cases h1 : 0 < c
  · rw [if_pos h1]
    have : 1000 * c / c ≤ 1000 * u / c := Int.ediv_le_ediv h1 (by omega)
    rwa [Int.mul_ediv_cancel _ (by omega)] at this
  · rw [if_neg h1, if_pos (by omega)]; decide
theorem resShare_max {u c : RV} (hu : u.ok = true) (hc : c.ok = true) : resShare u c = max (shr u.c c.c) (max (shr u.m c.m) (shr u.p c.p)) := by
  rw [resShare_in hu hc, shareTo_three hu]
theorem share_full {c : RV} (hc : c.ok = true) : resShare c c = 1000 ∨ c = RV.zero := by
  obtain ⟨a1, a2, a3, a4, a5, a6⟩ := RV.ok_iff.1 hc
  rw [resShare_max hc hc, shr_self, shr_self, shr_self]
  by_cases h1 : 0 < c.c
  · left; rw [if_pos h1]; split <;> split <;> omega
  · by_cases h2 : 0 < c.m
    · left; rw [if_neg h1, if_pos h2]; split <;> omega
    · by_cases h3 : 0 < c.p
      · left; rw [if_neg h1, if_neg h2, if_pos h3]; omega
      · right
        obtain ⟨x, y, z⟩ := c
        unfold RV.zero
        simp only [RV.mk.injEq]
        simp only at a1 a3 a5 h1 h2 h3
        omega
theorem share_mono {a b c : RV} (h : resAddOk a b = true) (hc : c.ok = true) : resShare a c ≤ resShare (resAdd a b) c := by
  obtain ⟨ha, hb, hs⟩ := addOk_parts h
  rw [addOk_val h, resShare_max ha hc, resShare_max hs hc]
  obtain ⟨b1, b2, b3, b4, b5, b6⟩ := RV.ok_iff.1 hb
  have h1 : shr a.c c.c ≤ shr (a.add b).c c.c := shr_mono (by unfold RV.add; dsimp only; omega)
  have h2 : shr a.m c.m ≤ shr (a.add b).m c.m := shr_mono (by unfold RV.add; dsimp only; omega)
  have h3 : shr a.p c.p ≤ shr (a.add b).p c.p := shr_mono (by unfold RV.add; dsimp only; omega)
  omega
theorem share_le {a c : RV} (ha : a.ok = true) (hc : c.ok = true) (h : resSubOk c a = true) : resShare a c ≤ 1000 := by
  obtain ⟨h1, h2, h3⟩ := (resSubOk_in ha hc).1 h
  rw [resShare_max ha hc]
  have k1 := shr_fits h1
  have k2 := shr_fits h2
  have k3 := shr_fits h3
  omega
theorem share_ge {a c : RV} (ha : a.ok = true) (hc : c.ok = true) (h : resSubOk c a = false) : 1000 ≤ resShare a c := by
  obtain ⟨c1, c2, c3, c4, c5, c6⟩ := RV.ok_iff.1 hc
  have hn : ¬ (a.c ≤ c.c ∧ a.m ≤ c.m ∧ a.p ≤ c.p) := fun hh => by rw [(resSubOk_in ha hc).2 hh] at h; cases h
  rw [resShare_max ha hc]
  by_cases h1 : a.c ≤ c.c
  · by_cases h2 : a.m ≤ c.m
    · have := shr_ge c5 (show c.p < a.p by omega); omega
    · have := shr_ge c3 (show c.m < a.m by omega); omega
  · have := shr_ge c1 (show c.c < a.c by omega); omega
theorem share_neg {a c : RV} (h : ¬ (a.ok = true ∧ c.ok = true)) : resShare a c = -1 := by
  cases ha : a.ok
  · exact resShare_out (.inl ha)
  · cases hc : c.ok
    · exact resShare_out (.inr hc)
    · exact absurd ⟨ha, hc⟩ h
theorem share_pos {a c : RV} (ha : a.ok = true) (hc : c.ok = true) : 0 ≤ resShare a c := by
  obtain ⟨a1, a2, a3, a4, a5, a6⟩ := RV.ok_iff.1 ha
  rw [resShare_max ha hc]
  have := (shr_bounds (c := c.c) a1 a2).1
  omega
end Go.Proofs.YtfgdefgnhhimcaaDoor
