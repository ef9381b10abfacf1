/- Words for memory: a block that is known whole; a slice of amounts. -/
import Derived.Test.YtocfgejceoenmaaGreatDoorResA
namespace Go.Proofs.YtocfgejceoenmaaGreatDoor
open Go.RowKit

/-- From block b, place off on, the cells are those of the list's amounts. -/
def ResAt (w : World) (b off : Nat) (l : List RV) : Prop :=
  ∀ i r, l[i]? = some r → w.cell? ⟨b, off + i * 3, none⟩ = some (.int .i64 r.c) ∧ w.cell? ⟨b, off + i * 3 + 1, none⟩ = some (.int .i64 r.m) ∧ w.cell? ⟨b, off + i * 3 + 2, none⟩ = some (.int .i64 r.p)
/-- A slice value that reads as the list. -/
def ResSl (w : World) (v : Value) (l : List RV) : Prop := (l = [] ∧ ∃ A c, v = .slice A 0 c) ∨ ∃ b off c, v = .slice (some ⟨b, off, none⟩) l.length c ∧ b < w.heap.size ∧ ResAt w b off l
theorem ResAt.below {w w' : World} {b off B : Nat} {l : List RV} (h : ResAt w b off l) (hb : Below B w w') (hB : b < B) : ResAt w' b off l := fun i r hr => by
  obtain ⟨h1, h2, h3⟩ := h i r hr
  exact ⟨(hb.cell (p := ⟨b, _, none⟩) hB).trans h1, (hb.cell (p := ⟨b, _, none⟩) hB).trans h2, (hb.cell (p := ⟨b, _, none⟩) hB).trans h3⟩
theorem ResSl.below {w w' : World} {v : Value} {l : List RV} (h : ResSl w v l) (hb : Below w.heap.size w w') : ResSl w' v l := by
  rcases h with h | ⟨b, off, c, rfl, hlt, h⟩
  · exact .inl h
  · exact .inr ⟨b, off, c, rfl, Nat.lt_of_lt_of_le hlt hb.size, h.below hb hlt⟩
end Go.Proofs.YtocfgejceoenmaaGreatDoor
