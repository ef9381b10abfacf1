/- The laws' helpers that write marks and look for them, over tasks and nodes: markTaskS, markNodeS, heldTaskS, heldNodeS. -/
import Derived.Test.YtocfgejceoenmaaDoorMarkF
namespace Go.Proofs.YtocfgejceoenmaaDoor
open Go.RowKit

theorem own_cell {w : World} {e : TypeId} {size n g c : Nat} {xs : List Value} (h : w.ownsRow 0 e size (.slice (some ⟨g, 0, none⟩) n c) n xs) {j : Nat} {u : Value} (hu : xs[j]? = some u) : w.cell? ⟨g, j, none⟩ = some u := by
  rcases Nat.eq_zero_or_pos n with h0 | hp
  · have := h.1
    rw [h0, Nat.zero_mul] at this
    rw [List.eq_nil_of_length_eq_zero this] at hu; simp at hu
  · obtain ⟨g', cap, e, _, hc, _⟩ := own_cells h hp
    simp only [Value.slice.injEq, Option.some.injEq, Addr.mk.injEq] at e
    obtain ⟨⟨rfl, -, -⟩, -, -⟩ := e
    exact hc j u hu
theorem own_frozen {w : World} {e : TypeId} {size n g c : Nat} {xs : List Value} (h : w.ownsRow 0 e size (.slice (some ⟨g, 0, none⟩) n c) n xs) (hp : 0 < n) (o : Nat) : w.frozen? ⟨g, o, none⟩ = false := by
  obtain ⟨g', cap, e, _, _, hf⟩ := own_cells h hp
  simp only [Value.slice.injEq, Option.some.injEq, Addr.mk.injEq] at e
  obtain ⟨⟨rfl, -, -⟩, -, -⟩ := e
  exact hf o
theorem nd5 {g : Nat} {a x y c : List Nat} (h : (g :: (a ++ ((x ++ y) ++ c))).Nodup) : (∀ b ∈ a, b ≠ g ∧ b ∉ x ∧ b ∉ y) ∧ (∀ b ∈ x, b ≠ g ∧ b ∉ y) ∧ (∀ b ∈ y, b ≠ g ∧ b ∉ x) ∧ (∀ b ∈ c, b ≠ g ∧ b ∉ x ∧ b ∉ y) := by
  rw [List.nodup_cons] at h
  obtain ⟨hg, h⟩ := h
  simp only [List.mem_append, not_or] at hg
  obtain ⟨ga, ⟨gx, gy⟩, gc⟩ := hg
  simp only [List.nodup_append, List.mem_append] at h
  obtain ⟨-, ⟨⟨-, -, hxy⟩, -, hxc⟩, ha⟩ := h
  refine ⟨fun b hb => ⟨fun e => ga (e ▸ hb), fun hx => ha b hb b (.inl (.inl hx)) rfl, fun hy => ha b hb b (.inl (.inr hy)) rfl⟩, fun b hb => ⟨fun e => gx (e ▸ hb), fun hy => hxy b hb b hy rfl⟩,
    fun b hb => ⟨fun e => gy (e ▸ hb), fun hx => hxy b hx b hb rfl⟩, fun b hb => ⟨fun e => gc (e ▸ hb), fun hx => hxc b (.inl hx) b hb rfl, fun hy => hxc b (.inr hy) b hb rfl⟩⟩
theorem blk_mem {v : Value} {k : Nat} (h : v.ownBlock = some k) : k ∈ blk v := by simp [blk, h]

theorem elems_allTask {w : World} {l : List TV} {xs : List Value} {bs : List Nat} (h : Elems TaskO w l xs bs) : allTask l := by
  induction l generalizing xs bs with
  | nil => intro t ht; cases ht
  | cons x r ih =>
    obtain ⟨cs, ys, b1, b2, rfl, rfl, ⟨v1, v2, _, _, _, _, m⟩, h2⟩ := h
    intro t ht
    rcases List.mem_cons.1 ht with rfl | ht
    · exact m
    · exact ih h2 t ht
theorem elems_allNode {w : World} {l : List NV} {xs : List Value} {bs : List Nat} (h : Elems NodeO w l xs bs) : allNode l := by
  induction l generalizing xs bs with
  | nil => intro t ht; cases ht
  | cons x r ih =>
    obtain ⟨cs, ys, b1, b2, rfl, rfl, ⟨v1, v2, _, _, _, _, m⟩, h2⟩ := h
    intro t ht
    rcases List.mem_cons.1 ht with rfl | ht
    · exact m
    · exact ih h2 t ht
end Go.Proofs.YtocfgejceoenmaaDoor
