/- The contract of usedOn. -/
import Derived.Test.YtocfgejceoenmaaDoorCluOnI
namespace Go.Proofs.YtocfgejceoenmaaDoor
open Go.RowKit Go.Shelf
attribute [local go_sem] Oper.semAt_some

def needsOn {w0 : World} (pre : List (OnT w0)) : List RV := pre.map fun x => x.t.need
theorem needsOn_snoc {w0 : World} (pre : List (OnT w0)) (x : OnT w0) : needsOn (pre ++ [x]) = needsOn pre ++ [x.t.need] := by simp [needsOn]
theorem own_form' {w : World} {base : Nat} {e : TypeId} {size n : Nat} {v : Value} {xs : List Value} (h : w.ownsRow base e size v n xs) : ∃ A c, v = .slice A n c ∧ True := by
  rcases h.2 with ⟨rfl, rfl⟩ | ⟨g, cap, cur, rfl, _⟩
  · exact ⟨_, _, rfl, trivial⟩
  · exact ⟨_, _, rfl, trivial⟩
/-- 'out = append(out, ..)' where out lies in a box ahead of the row. -/
theorem boxed_app {W w1 : World} {B base : Nat} {t e : TypeId} {size : Nat} {v v' : Value} {k m : Nat} {xs ys : List Value} {tmp : Obj} (hv : Boxed W B t v) (hrow : W.ownsRow base e size v k xs) (hbase : base ≤ W.heap.size) (hB : B < base)
    (hown' : w1.ownsRow base e size v' m ys) (hgrow : (W.alloc tmp).grownBy w1 v.ownBlock) :
    Boxed w1 B t v ∧ Boxed (w1.setCell ⟨B, 0, none⟩ v') B t v' ∧ (w1.setCell ⟨B, 0, none⟩ v').ownsRow base e size v' m ys ∧ KeepsOthers W (w1.setCell ⟨B, 0, none⟩ v') ∧ (∀ b, b < base → b ≠ B → (w1.setCell ⟨B, 0, none⟩ v').heap[b]? = W.heap[b]?) ∧ Below B W (w1.setCell ⟨B, 0, none⟩ v') := by
  have hb1 : Below base W w1 := ((Below.refl base W).alloc hbase tmp).grown hgrow (by simp; omega) (fun k hk => (World.ownsRow.lt hrow k hk).1)
  have hv1 : Boxed w1 B t v := (hb1.block B hB).trans hv
  refine ⟨hv1, hv1.set v', hown'.kept (grownBy_setCell' w1 B v') (.inr fun e' => ?_), ?_, fun b hb hne => (Below.heap_setCell _ _ _ b hne).trans (hb1.block b hb), Below.setCell (p := ⟨B, 0, none⟩) (hb1.mono (Nat.le_of_lt hB)) (Nat.le_refl _) _⟩
  · have := (World.ownsRow.lt hown' B e').1; omega
  · refine ((KeepsOthers.alloc W tmp).trans (KeepsOthers.of_grownBy hgrow fun j o ej hj => ?_)).trans (KeepsOthers.setCell _ _ _)
    rcases (hrow.alloc tmp).2 with ⟨rfl, _⟩ | ⟨g, cap, cur, rfl, _, hgb, _⟩
    · simp [Value.ownBlock] at ej
    · obtain rfl : g = j := by simpa [Value.ownBlock] using ej
      rw [hgb] at hj; cases hj; rfl
end Go.Proofs.YtocfgejceoenmaaDoor
