/- Words for memory: a block that is known whole; a slice of amounts. -/
import Derived.Test.YtfgdefgnhhimcaaDoorResA
import Derived.Laws.MakeOwn
namespace Go.Proofs.YtfgdefgnhhimcaaDoor
open Go.RowKit

/-- Block g is just these cells, none of them frozen. -/
def BlockIs (w : World) (g : Nat) (t : TypeId) (cs : Array Value) : Prop := w.heap[g]? = some (.cells cs t (0, 0))
section
variable {w w' : World} {g : Nat} {t : TypeId} {cs : Array Value}
theorem BlockIs.lt (h : BlockIs w g t cs) : g < w.heap.size := by
  rcases Nat.lt_or_ge g w.heap.size with h' | h'
  · exact h'
  · unfold BlockIs at h; rw [Array.getElem?_eq_none h'] at h; cases h
theorem BlockIs.cell (h : BlockIs w g t cs) (o : Nat) : w.cell? ⟨g, o, none⟩ = cs[o]? := by
  unfold BlockIs at h; simp [World.cell?, h]
theorem BlockIs.frozen (h : BlockIs w g t cs) (o : Nat) : w.frozen? ⟨g, o, none⟩ = false := by
  unfold BlockIs at h; simp [World.frozen?, h]
theorem BlockIs.new (w : World) (t : TypeId) (cs : Array Value) : BlockIs (w.alloc (.cells cs t)) w.heap.size t cs := by
  show (w.heap.push _)[w.heap.size]? = _
  simp
theorem BlockIs.below {B : Nat} (h : BlockIs w g t cs) (hb : Below B w w') (hg : g < B) : BlockIs w' g t cs := (hb.block g hg).trans h
theorem BlockIs.alloc (h : BlockIs w g t cs) (o : Obj) : BlockIs (w.alloc o) g t cs := h.below ((Below.refl _ _).alloc (Nat.le_refl _) o) h.lt
theorem BlockIs.put (h : BlockIs w g t cs) (o : Nat) (u : Value) : BlockIs (w.setCell ⟨g, o, none⟩ u) g t (cs.setIfInBounds o u) := by
  unfold BlockIs at h ⊢
  simp [World.setCell, Array.getElem?_modify, h]
theorem BlockIs.far (h : BlockIs w g t cs) {p : Addr} (hp : g ≠ p.block) (u : Value) : BlockIs (w.setCell p u) g t cs := (Below.heap_setCell w p u g hp).trans h
theorem BlockIs.drew (h : BlockIs w g t cs) : BlockIs w.drew g t cs := h
end

/-- From block b, place off on, the cells are those of the list's amounts. -/
def ResAt (w : World) (b off : Nat) (l : List RV) : Prop :=
  ∀ i r, l[i]? = some r → w.cell? ⟨b, off + i * 3, none⟩ = some (.int .i64 r.c) ∧ w.cell? ⟨b, off + i * 3 + 1, none⟩ = some (.int .i64 r.m) ∧ w.cell? ⟨b, off + i * 3 + 2, none⟩ = some (.int .i64 r.p)
/-- A slice value that reads as the list. -/
def ResSl (w : World) (v : Value) (l : List RV) : Prop := (l = [] ∧ ∃ A c, v = .slice A 0 c) ∨ ∃ b off c, v = .slice (some ⟨b, off, none⟩) l.length c ∧ b < w.heap.size ∧ ResAt w b off l
theorem ResAt.below {w w' : World} {b off B : Nat} {l : List RV} (h : ResAt w b off l) (hb : Below B w w') (hB : b < B) : ResAt w' b off l := fun i r hr => by
  obtain ⟨h1, h2, h3⟩ := h i r hr
  exact ⟨(hb.cell (p := ⟨b, _, none⟩) hB).trans h1, (hb.cell (p := ⟨b, _, none⟩) hB).trans h2, (hb.cell (p := ⟨b, _, none⟩) hB).trans h3⟩
theorem ResSl.below {w w' : World} {v : Value} {l : List RV} (h : ResSl w v l) (hb : Below w.heap.size w w') : ResSl w' v l := by
  rcases h with h | ⟨b, off, c, rfl, hlt, h⟩
  · exact .inl h
  · exact .inr ⟨b, off, c, rfl, Nat.lt_of_lt_of_le hlt hb.size, h.below hb hlt⟩
end Go.Proofs.YtfgdefgnhhimcaaDoor
