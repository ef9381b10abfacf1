/- The laws' helpers over slices of labels: toLab, toLabS, eqLab, eqLabS, szLabS. -/
import Derived.Test.YtcngiinaneefjaaLabD
import Derived.Deep.RegionHeld3
namespace Go.Proofs.Ytcngiinaneefjaa
open Go.RowKit

/-- The cells of a list of labels. -/
def labL (l : List LV) : List Value := l.flatMap fun x => [.int .i64 x.k, .int .i64 x.v]
theorem labL_len (l : List LV) : (labL l).length = l.length * 2 := by
  induction l with
  | nil => rfl
  | cons x r ih => simp [labL] at ih ⊢; omega
theorem labL_cons (x : LV) (r : List LV) : labL (x :: r) = .int .i64 x.k :: .int .i64 x.v :: labL r := rfl
theorem labL_at {l : List LV} {i : Nat} {x : LV} (h : l[i]? = some x) : (labL l)[i * 2]? = some (.int .i64 x.k) ∧ (labL l)[i * 2 + 1]? = some (.int .i64 x.v) := by
  induction l generalizing i with
  | nil => simp at h
  | cons y r ih =>
    cases i with
    | zero => simp at h; subst h; exact ⟨rfl, rfl⟩
    | succ i =>
      simp at h
      have := ih h
      rw [labL_cons, show (i + 1) * 2 = i * 2 + 1 + 1 by omega]
      simpa using this
theorem labL_ext {l : List LV} {cs : List Value} (hl : cs.length = l.length * 2) (h : ∀ i r, l[i]? = some r → cs[i * 2]? = some (.int .i64 r.k) ∧ cs[i * 2 + 1]? = some (.int .i64 r.v)) : cs = labL l := by
  apply List.ext_getElem?
  intro j
  rcases Nat.lt_or_ge (j / 2) l.length with hj | hj
  · obtain ⟨r, hr⟩ : ∃ r, l[j / 2]? = some r := ⟨_, List.getElem?_eq_getElem hj⟩
    obtain ⟨a1, a2⟩ := h _ _ hr
    obtain ⟨b1, b2⟩ := labL_at hr
    rcases Nat.mod_two_eq_zero_or_one j with e | e
    · have : j / 2 * 2 = j := by omega
      rw [this] at a1 b1; rw [a1, b1]
    · have : j / 2 * 2 + 1 = j := by omega
      rw [this] at a2 b2; rw [a2, b2]
  · rw [List.getElem?_eq_none (by omega), List.getElem?_eq_none (by rw [labL_len]; omega)]
theorem LabAt.of_block {w : World} {g : Nat} {t : TypeId} {l : List LV} {cs : Array Value} (h : BlockIs w g t cs) (hc : ∀ (j : Nat) (u : Value), (labL l)[j]? = some u → cs[j]? = some u) : LabAt w g 0 l := fun i r hr => by
  obtain ⟨h1, h2⟩ := labL_at hr
  simp only [Nat.zero_add]
  exact ⟨(h.cell _).trans (hc _ _ h1), (h.cell _).trans (hc _ _ h2)⟩
theorem LabAt.of_cells {w : World} {g : Nat} {t : TypeId} {l : List LV} (h : BlockIs w g t (labL l).toArray) : LabAt w g 0 l := LabAt.of_block h (fun j u hu => by simpa using hu)

theorem four_keep (X : World) {b0 o0 b1 o1 b2 o2 b3 o3 : Nat} {v0 v1 v2 v3 : Value} (h : X.cell? ⟨b0, o0, none⟩ = some v0 ∧ X.cell? ⟨b1, o1, none⟩ = some v1 ∧ X.cell? ⟨b2, o2, none⟩ = some v2 ∧ X.cell? ⟨b3, o3, none⟩ = some v3) : ∀ w' : World, Below X.heap.size X w' → Below X.heap.size X w' ∧ w'.cell? ⟨b0, o0, none⟩ = some v0 ∧ w'.cell? ⟨b1, o1, none⟩ = some v1 ∧ w'.cell? ⟨b2, o2, none⟩ = some v2 ∧ w'.cell? ⟨b3, o3, none⟩ = some v3 := by
  intro w' hb
  obtain ⟨h0, h1, h2, h3⟩ := h
  refine ⟨hb, ?_, ?_, ?_, ?_⟩
  · exact (hb.cell (p := ⟨b0, o0, none⟩) (World.block_lt_of_cell? _ _ h0)).trans h0
  · exact (hb.cell (p := ⟨b1, o1, none⟩) (World.block_lt_of_cell? _ _ h1)).trans h1
  · exact (hb.cell (p := ⟨b2, o2, none⟩) (World.block_lt_of_cell? _ _ h2)).trans h2
  · exact (hb.cell (p := ⟨b3, o3, none⟩) (World.block_lt_of_cell? _ _ h3)).trans h3

end Go.Proofs.Ytcngiinaneefjaa
