/- A law over two amounts: what holds of the world while its drawn regions run: the boxes at g and g + 1 hold a and b, and nothing has turned since X. -/
import Derived.Test.YtocfgejceoenmaaGreatDoorResS
import Derived.Deep.RegionHeld3
import Derived.Deep.DeepCutAuto
namespace Go.Proofs.YtocfgejceoenmaaGreatDoor
open Go.RowKit

theorem blast {Y w1 : World} {o : Obj} (hb : Below (Y.alloc o).heap.size (Y.alloc o) w1) : (∀ k, w1.cell? ⟨Y.heap.size, k, none⟩ = (Y.alloc o).cell? ⟨Y.heap.size, k, none⟩) ∧ (∀ k, w1.frozen? ⟨Y.heap.size, k, none⟩ = (Y.alloc o).frozen? ⟨Y.heap.size, k, none⟩) ∧ Y.heap.size < w1.heap.size :=
  ⟨fun k => hb.cell (p := ⟨Y.heap.size, k, none⟩) (by simp), fun k => hb.frozen (p := ⟨Y.heap.size, k, none⟩) (by simp), Nat.lt_of_lt_of_le (by simp) hb.size⟩
theorem blastd {Y w1 : World} {o : Obj} (hb : Below (Y.alloc o).drew.heap.size (Y.alloc o).drew w1) : (∀ k, w1.cell? ⟨Y.heap.size, k, none⟩ = (Y.alloc o).cell? ⟨Y.heap.size, k, none⟩) ∧ (∀ k, w1.frozen? ⟨Y.heap.size, k, none⟩ = (Y.alloc o).frozen? ⟨Y.heap.size, k, none⟩) ∧ Y.heap.size < w1.heap.size :=
  ⟨fun k => hb.cell (p := ⟨Y.heap.size, k, none⟩) (by simp), fun k => hb.frozen (p := ⟨Y.heap.size, k, none⟩) (by simp), Nat.lt_of_lt_of_le (by simp) hb.size⟩
theorem two_keep (a b : RV) (X : World) (g : Nat) (h : X.cell? ⟨g, 0, none⟩ = some (.int .i64 a.c) ∧ X.cell? ⟨g, 1, none⟩ = some (.int .i64 a.m) ∧ X.cell? ⟨g, 2, none⟩ = some (.int .i64 a.p) ∧ X.cell? ⟨g + 1, 0, none⟩ = some (.int .i64 b.c) ∧ X.cell? ⟨g + 1, 1, none⟩ = some (.int .i64 b.m) ∧ X.cell? ⟨g + 1, 2, none⟩ = some (.int .i64 b.p)) :
    ∀ w' : World, Below X.heap.size X w' → Below X.heap.size X w' ∧ w'.cell? ⟨g, 0, none⟩ = some (.int .i64 a.c) ∧ w'.cell? ⟨g, 1, none⟩ = some (.int .i64 a.m) ∧ w'.cell? ⟨g, 2, none⟩ = some (.int .i64 a.p) ∧ w'.cell? ⟨g + 1, 0, none⟩ = some (.int .i64 b.c) ∧ w'.cell? ⟨g + 1, 1, none⟩ = some (.int .i64 b.m) ∧ w'.cell? ⟨g + 1, 2, none⟩ = some (.int .i64 b.p) := by
  intro w' hb
  obtain ⟨h1, h2, h3, h4, h5, h6⟩ := h
  have e1 := World.block_lt_of_cell? _ _ h1
  have e4 := World.block_lt_of_cell? _ _ h4
  have hc := (bcell hb).1
  refine ⟨hb, ?_, ?_, ?_, ?_, ?_, ?_⟩
  · rw [hc _ _ e1]; exact h1
  · rw [hc _ _ e1]; exact h2
  · rw [hc _ _ e1]; exact h3
  · rw [hc _ _ e4]; exact h4
  · rw [hc _ _ e4]; exact h5
  · rw [hc _ _ e4]; exact h6
theorem two_at (a b : RV) (w : World) (t t' : TypeId) : (fun Y : World => Y.cell? ⟨w.heap.size, 0, none⟩ = some (.int .i64 a.c) ∧ Y.cell? ⟨w.heap.size, 1, none⟩ = some (.int .i64 a.m) ∧ Y.cell? ⟨w.heap.size, 2, none⟩ = some (.int .i64 a.p) ∧ Y.cell? ⟨w.heap.size + 1, 0, none⟩ = some (.int .i64 b.c) ∧ Y.cell? ⟨w.heap.size + 1, 1, none⟩ = some (.int .i64 b.m) ∧ Y.cell? ⟨w.heap.size + 1, 2, none⟩ = some (.int .i64 b.p)) ((w.alloc (.cells #[.int .i64 a.c, .int .i64 a.m, .int .i64 a.p] t)).alloc (.cells #[.int .i64 b.c, .int .i64 b.m, .int .i64 b.p] t')) := by
  refine ⟨by simp, by simp, by simp, by simp, by simp, by simp⟩
/-- Where a result of type amount was put: at a block of its own behind X, in a world in which nothing has turned since X. -/
def PutAt (X : World) (r : RV) (s5 : Value) (w' : World) : Prop := ∃ g5 : Nat, s5 = .pointer (some ⟨g5, 0, none⟩) ∧ w'.cell? ⟨g5, 0, none⟩ = some (.int .i64 r.c) ∧ w'.cell? ⟨g5, 1, none⟩ = some (.int .i64 r.m) ∧ w'.cell? ⟨g5, 2, none⟩ = some (.int .i64 r.p) ∧ Below X.heap.size X w'
end Go.Proofs.YtocfgejceoenmaaGreatDoor
