/- The contracts of find, findTask, findNode, findBind. -/
import Derived.Test.YtcngiinaneefjaaCluMem
import Derived.Test.YtcngiinaneefjaaSlTask
namespace Go.Proofs.Ytcngiinaneefjaa
open Go.RowKit

theorem put2 {w : World} {g : Nat} {t : TypeId} {cs : Array Value} (a0 a1 : Value) (h : BlockIs w g t cs) (hs : cs.size = 2) : BlockIs ((w.setCell ⟨g, 0, none⟩ (a0)).setCell ⟨g, 1, none⟩ (a1)) g t #[a0, a1] := by
  obtain ⟨l⟩ := cs
  match l, hs with
  | [b0, b1], _ => simpa using (h.put 0 a0).put 1 a1
theorem below2 {B : Nat} {a w : World} {g : Nat} {a0 a1 : Value} (h : Below B a w) (hg : B ≤ g) : Below B a ((w.setCell ⟨g, 0, none⟩ (a0)).setCell ⟨g, 1, none⟩ (a1)) := (h.setCell hg _).setCell hg _
end Go.Proofs.Ytcngiinaneefjaa
namespace Go.Proofs.Ytcngiinaneefjaa
open Go.RowKit

/-- Three slices that read as a cluster's lists. -/
def CluR (w : World) (c : CV) (a0 a1 a2 : Value) : Prop := TaskSl w a0 c.tasks ∧ NodeSl w a1 c.nodes ∧ BindSl w a2 c.binds ∧ c.tasks.length ≤ 1048576 ∧ c.nodes.length ≤ 1048576 ∧ c.binds.length ≤ 1048576
theorem CluR.below {w w' : World} {c : CV} {a0 a1 a2 : Value} (h : CluR w c a0 a1 a2) (hb : Below w.heap.size w w') : CluR w' c a0 a1 a2 := by
  obtain ⟨h0, h1, h2, h3⟩ := h
  exact ⟨h0.below hb, h1.below hb, h2.below hb, h3⟩

end Go.Proofs.Ytcngiinaneefjaa
