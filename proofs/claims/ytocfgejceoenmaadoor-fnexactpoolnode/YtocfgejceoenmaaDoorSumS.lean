/- The contract of the model's ResSum. -/
import Derived.Test.YtocfgejceoenmaaDoorSumI
import Derived.Test.YtocfgejceoenmaaDoorTwo
namespace Go.Proofs.YtocfgejceoenmaaDoor
open Go.RowKit

theorem six_keep (X : World) {b0 o0 b1 o1 b2 o2 b3 o3 b4 o4 b5 o5 : Nat} {v0 v1 v2 v3 v4 v5 : Value} (h : X.cell? ⟨b0, o0, none⟩ = some v0 ∧ X.cell? ⟨b1, o1, none⟩ = some v1 ∧ X.cell? ⟨b2, o2, none⟩ = some v2 ∧ X.cell? ⟨b3, o3, none⟩ = some v3 ∧ X.cell? ⟨b4, o4, none⟩ = some v4 ∧ X.cell? ⟨b5, o5, none⟩ = some v5) : ∀ w' : World, Below X.heap.size X w' → Below X.heap.size X w' ∧ w'.cell? ⟨b0, o0, none⟩ = some v0 ∧ w'.cell? ⟨b1, o1, none⟩ = some v1 ∧ w'.cell? ⟨b2, o2, none⟩ = some v2 ∧ w'.cell? ⟨b3, o3, none⟩ = some v3 ∧ w'.cell? ⟨b4, o4, none⟩ = some v4 ∧ w'.cell? ⟨b5, o5, none⟩ = some v5 := by
  intro w' hb
  obtain ⟨h0, h1, h2, h3, h4, h5⟩ := h
  refine ⟨hb, ?_, ?_, ?_, ?_, ?_, ?_⟩
  · exact (hb.cell (p := ⟨b0, o0, none⟩) (World.block_lt_of_cell? _ _ h0)).trans h0
  · exact (hb.cell (p := ⟨b1, o1, none⟩) (World.block_lt_of_cell? _ _ h1)).trans h1
  · exact (hb.cell (p := ⟨b2, o2, none⟩) (World.block_lt_of_cell? _ _ h2)).trans h2
  · exact (hb.cell (p := ⟨b3, o3, none⟩) (World.block_lt_of_cell? _ _ h3)).trans h3
  · exact (hb.cell (p := ⟨b4, o4, none⟩) (World.block_lt_of_cell? _ _ h4)).trans h4
  · exact (hb.cell (p := ⟨b5, o5, none⟩) (World.block_lt_of_cell? _ _ h5)).trans h5

end Go.Proofs.YtocfgejceoenmaaDoor
