/- What FnRes says, in plain terms. -/
import Derived.Test.YtfgdefgnhhimcaaDoorSumPure
namespace Go.Proofs.YtfgdefgnhhimcaaDoor
theorem addOk_parts {a b : RV} (h : resAddOk a b = true) : a.ok = true ∧ b.ok = true ∧ (a.add b).ok = true := by
  unfold resAddOk at h; simp at h; exact ⟨h.1.1, h.1.2, h.2⟩
theorem addOk_val {a b : RV} (h : resAddOk a b = true) : resAdd a b = a.add b := by unfold resAdd; rw [if_pos h]
theorem add_sub_back (a b : RV) : (a.add b).sub b = a := by
  cases a; unfold RV.add RV.sub; simp only [RV.mk.injEq]; omega
theorem add_sub_left (a b : RV) : (a.add b).sub a = b := by
  cases b; unfold RV.add RV.sub; simp only [RV.mk.injEq]; omega
theorem zero_add (a : RV) : RV.zero.add a = a := by cases a; unfold RV.zero RV.add; simp
theorem zero_ok : RV.zero.ok = true := by decide
theorem back_ok {a b : RV} (h : resAddOk a b = true) : resSubOk (resAdd a b) b = true ∧ resSub (resAdd a b) b = a := by
  obtain ⟨ha, hb, hs⟩ := addOk_parts h
  rw [addOk_val h, (resSub_in hs hb).1, (resSub_in hs hb).2, add_sub_back]
  exact ⟨ha, RV.kept_yes ha⟩
theorem fits_ok {a b : RV} (h : resAddOk a b = true) : resSubOk (resAdd a b) a = true := by
  obtain ⟨ha, hb, hs⟩ := addOk_parts h
  rw [addOk_val h, (resSub_in hs ha).2, add_sub_left]
  exact hb
theorem sum_two {a b : RV} (h : resAddOk a b = true) : sumGo RV.zero [a, b] = (resAdd a b, true) := by
  obtain ⟨ha, hb, hs⟩ := addOk_parts h
  have h1 : resAddOk RV.zero a = true := by rw [(resAdd_in zero_ok ha).2, zero_add]; exact ha
  have h2 : resAdd RV.zero a = a := by rw [(resAdd_in zero_ok ha).1, zero_add]; exact RV.kept_yes ha
  rw [sumGo_cons_yes h1, h2, sumGo_cons_yes h]; rfl
end Go.Proofs.YtfgdefgnhhimcaaDoor
