/- The laws' helpers over tasks and nodes: szTask, toTask, eqTask, szNode, toNode, eqNode. -/
import Derived.Test.YtcngiinaneefjaaCluPure
import Derived.Test.YtcngiinaneefjaaSlInt
import Derived.Test.YtcngiinaneefjaaResS
namespace Go.Proofs.Ytcngiinaneefjaa
open Go.RowKit

/-- What a size is left at. -/
def szLeft (z : Int) (n : Nat) : Int := if (n : Int) ≤ z then z - n else -1
theorem szLeft_yes {z : Int} {n : Nat} (h : (n : Int) ≤ z) : szLeft z n = z - n := by simp [szLeft, h]
theorem szLeft_no {z : Int} {n : Nat} (h : ¬ (n : Int) ≤ z) : szLeft z n = -1 := by simp [szLeft, h]
def szTV (z : Int) (a b : Nat) : Int := if (a : Int) ≤ z then szLeft (z - a) b else -1

theorem arr7 {α : Type} {cs : Array α} (h : cs.size = 7) : ∃ a b c d e f g, cs = #[a, b, c, d, e, f, g] := by
  obtain ⟨l⟩ := cs
  match l, h with
  | [a, b, c, d, e, f, g], _ => exact ⟨a, b, c, d, e, f, g, rfl⟩
theorem arr8 {α : Type} {cs : Array α} (h : cs.size = 8) : ∃ a b c d e f g i, cs = #[a, b, c, d, e, f, g, i] := by
  obtain ⟨l⟩ := cs
  match l, h with
  | [a, b, c, d, e, f, g, i], _ => exact ⟨a, b, c, d, e, f, g, i, rfl⟩
theorem put7 {w : World} {g : Nat} {t : TypeId} {cs : Array Value} (a0 a1 a2 a3 a4 a5 a6 : Value) (h : BlockIs w g t cs) (hs : cs.size = 7) : BlockIs (((((((w.setCell ⟨g, 0, none⟩ (a0)).setCell ⟨g, 1, none⟩ (a1)).setCell ⟨g, 2, none⟩ (a2)).setCell ⟨g, 3, none⟩ (a3)).setCell ⟨g, 4, none⟩ (a4)).setCell ⟨g, 5, none⟩ (a5)).setCell ⟨g, 6, none⟩ (a6)) g t #[a0, a1, a2, a3, a4, a5, a6] := by
  obtain ⟨b0, b1, b2, b3, b4, b5, b6, rfl⟩ := arr7 hs
  have := ((((((h.put 0 a0).put 1 a1).put 2 a2).put 3 a3).put 4 a4).put 5 a5).put 6 a6
  simpa using this
theorem put8 {w : World} {g : Nat} {t : TypeId} {cs : Array Value} (a0 a1 a2 a3 a4 a5 a6 a7 : Value) (h : BlockIs w g t cs) (hs : cs.size = 8) : BlockIs ((((((((w.setCell ⟨g, 0, none⟩ (a0)).setCell ⟨g, 1, none⟩ (a1)).setCell ⟨g, 2, none⟩ (a2)).setCell ⟨g, 3, none⟩ (a3)).setCell ⟨g, 4, none⟩ (a4)).setCell ⟨g, 5, none⟩ (a5)).setCell ⟨g, 6, none⟩ (a6)).setCell ⟨g, 7, none⟩ (a7)) g t #[a0, a1, a2, a3, a4, a5, a6, a7] := by
  obtain ⟨b0, b1, b2, b3, b4, b5, b6, b7, rfl⟩ := arr8 hs
  have := (((((((h.put 0 a0).put 1 a1).put 2 a2).put 3 a3).put 4 a4).put 5 a5).put 6 a6).put 7 a7
  simpa using this

theorem cell_far {w : World} {b o : Nat} {p : Addr} (h : b ≠ p.block) (u : Value) : (w.setCell p u).cell? ⟨b, o, none⟩ = w.cell? ⟨b, o, none⟩ := by
  have := Below.heap_setCell w p u b h
  simp only [World.cell?, this]
theorem far7 {w : World} {g b : Nat} {t : TypeId} {cs : Array Value} {a0 a1 a2 a3 a4 a5 a6 : Value} (h : BlockIs w b t cs) (hne : b ≠ g) : BlockIs (((((((w.setCell ⟨g, 0, none⟩ (a0)).setCell ⟨g, 1, none⟩ (a1)).setCell ⟨g, 2, none⟩ (a2)).setCell ⟨g, 3, none⟩ (a3)).setCell ⟨g, 4, none⟩ (a4)).setCell ⟨g, 5, none⟩ (a5)).setCell ⟨g, 6, none⟩ (a6)) b t cs :=
  ((((((h.far hne _).far hne _).far hne _).far hne _).far hne _).far hne _).far hne _
theorem below7 {B : Nat} {a w : World} {g : Nat} {a0 a1 a2 a3 a4 a5 a6 : Value} (h : Below B a w) (hg : B ≤ g) : Below B a (((((((w.setCell ⟨g, 0, none⟩ (a0)).setCell ⟨g, 1, none⟩ (a1)).setCell ⟨g, 2, none⟩ (a2)).setCell ⟨g, 3, none⟩ (a3)).setCell ⟨g, 4, none⟩ (a4)).setCell ⟨g, 5, none⟩ (a5)).setCell ⟨g, 6, none⟩ (a6)) :=
  ((((((h.setCell hg _).setCell hg _).setCell hg _).setCell hg _).setCell hg _).setCell hg _).setCell hg _
theorem IntAt.far {w : World} {b off : Nat} {l : List Int} {p : Addr} (h : IntAt w b off l) (hne : b ≠ p.block) (u : Value) : IntAt (w.setCell p u) b off l := fun i r hr => (cell_far hne _).trans (h i r hr)
theorem IntAt.far7 {w : World} {g b off : Nat} {l : List Int} {a0 a1 a2 a3 a4 a5 a6 : Value} (h : IntAt w b off l) (hne : b ≠ g) : IntAt (((((((w.setCell ⟨g, 0, none⟩ (a0)).setCell ⟨g, 1, none⟩ (a1)).setCell ⟨g, 2, none⟩ (a2)).setCell ⟨g, 3, none⟩ (a3)).setCell ⟨g, 4, none⟩ (a4)).setCell ⟨g, 5, none⟩ (a5)).setCell ⟨g, 6, none⟩ (a6)) b off l :=
  ((((((h.far hne _).far hne _).far hne _).far hne _).far hne _).far hne _).far hne _
theorem far8 {w : World} {g b : Nat} {t : TypeId} {cs : Array Value} {a0 a1 a2 a3 a4 a5 a6 a7 : Value} (h : BlockIs w b t cs) (hne : b ≠ g) : BlockIs ((((((((w.setCell ⟨g, 0, none⟩ (a0)).setCell ⟨g, 1, none⟩ (a1)).setCell ⟨g, 2, none⟩ (a2)).setCell ⟨g, 3, none⟩ (a3)).setCell ⟨g, 4, none⟩ (a4)).setCell ⟨g, 5, none⟩ (a5)).setCell ⟨g, 6, none⟩ (a6)).setCell ⟨g, 7, none⟩ (a7)) b t cs :=
  (((((((h.far hne _).far hne _).far hne _).far hne _).far hne _).far hne _).far hne _).far hne _
theorem below8 {B : Nat} {a w : World} {g : Nat} {a0 a1 a2 a3 a4 a5 a6 a7 : Value} (h : Below B a w) (hg : B ≤ g) : Below B a ((((((((w.setCell ⟨g, 0, none⟩ (a0)).setCell ⟨g, 1, none⟩ (a1)).setCell ⟨g, 2, none⟩ (a2)).setCell ⟨g, 3, none⟩ (a3)).setCell ⟨g, 4, none⟩ (a4)).setCell ⟨g, 5, none⟩ (a5)).setCell ⟨g, 6, none⟩ (a6)).setCell ⟨g, 7, none⟩ (a7)) :=
  (((((((h.setCell hg _).setCell hg _).setCell hg _).setCell hg _).setCell hg _).setCell hg _).setCell hg _).setCell hg _
theorem IntAt.far8 {w : World} {g b off : Nat} {l : List Int} {a0 a1 a2 a3 a4 a5 a6 a7 : Value} (h : IntAt w b off l) (hne : b ≠ g) : IntAt ((((((((w.setCell ⟨g, 0, none⟩ (a0)).setCell ⟨g, 1, none⟩ (a1)).setCell ⟨g, 2, none⟩ (a2)).setCell ⟨g, 3, none⟩ (a3)).setCell ⟨g, 4, none⟩ (a4)).setCell ⟨g, 5, none⟩ (a5)).setCell ⟨g, 6, none⟩ (a6)).setCell ⟨g, 7, none⟩ (a7)) b off l :=
  (((((((h.far hne _).far hne _).far hne _).far hne _).far hne _).far hne _).far hne _).far hne _

end Go.Proofs.Ytcngiinaneefjaa
namespace Go.Proofs.Ytcngiinaneefjaa
open Go.RowKit

/-- The ending 'a task that reads as t'. -/
def RetTask (w : World) (t : TV) (e : Ending) (w' : World) : Prop := ∃ v1 v2, e = .returned (.agg #[.int .i64 t.id, .int .i64 t.prio, .int .i64 t.need.c, .int .i64 t.need.m, .int .i64 t.need.p, v1, v2]) ∧ LabSl w' v1 t.want ∧ IntSl w' v2 t.tols ∧ Below w.heap.size w w'
def RetNode (w : World) (t : NV) (e : Ending) (w' : World) : Prop := ∃ v1 v2, e = .returned (.agg #[.int .i64 t.id, .int .i64 t.pool, .int .i64 t.cap.c, .int .i64 t.cap.m, .int .i64 t.cap.p, v1, v2, .bool t.cordon]) ∧ LabSl w' v1 t.labs ∧ IntSl w' v2 t.taints ∧ Below w.heap.size w w'
end Go.Proofs.Ytcngiinaneefjaa
