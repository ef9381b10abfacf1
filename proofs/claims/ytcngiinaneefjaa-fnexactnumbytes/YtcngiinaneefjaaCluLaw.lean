/- The laws' helpers over clusters: szCluster; toTaskS, toNodeS, toBindS, toCluster. -/
import Derived.Test.YtcngiinaneefjaaCluFind
import Derived.Test.YtcngiinaneefjaaSlTask
import Derived.Test.YtcngiinaneefjaaRegHeld
namespace Go.Proofs.Ytcngiinaneefjaa
open Go.RowKit

theorem szTV_ok {z : Int} {a b : Nat} {y : Int} (h : szTV z a b = y) : y = -1 ∨ (0 ≤ z → 0 ≤ y ∧ y ≤ z ∧ (a : Int) ≤ z ∧ (b : Int) ≤ z) := by
  unfold szTV szLeft at h
  split at h
  · split at h
    · right; intro; omega
    · left; omega
  · left; omega
/-- A task as a law gets it: of its lists' lengths no more is known than that they lie in memory. -/
def TaskQ (w : World) (t : TV) (cs : List Value) : Prop := ∃ v1 v2, cs = [.int .i64 t.id, .int .i64 t.prio, .int .i64 t.need.c, .int .i64 t.need.m, .int .i64 t.need.p, v1, v2] ∧ LabSl w v1 t.want ∧ IntSl w v2 t.tols ∧ t.want.length ≤ maxLen ∧ t.tols.length ≤ maxLen
def NodeQ (w : World) (t : NV) (cs : List Value) : Prop := ∃ v1 v2, cs = [.int .i64 t.id, .int .i64 t.pool, .int .i64 t.cap.c, .int .i64 t.cap.m, .int .i64 t.cap.p, v1, v2, .bool t.cordon] ∧ LabSl w v1 t.labs ∧ IntSl w v2 t.taints ∧ t.labs.length ≤ maxLen ∧ t.taints.length ≤ maxLen
theorem TaskQ.kept : Kept TaskQ := fun _ _ _ _ hb ⟨v1, v2, e, h1, h2, h3⟩ => ⟨v1, v2, e, h1.below hb, h2.below hb, h3⟩
theorem NodeQ.kept : Kept NodeQ := fun _ _ _ _ hb ⟨v1, v2, e, h1, h2, h3⟩ => ⟨v1, v2, e, h1.below hb, h2.below hb, h3⟩
def TV.small (t : TV) : Prop := t.want.length ≤ 1048576 ∧ t.tols.length ≤ 1048576
def NV.small (t : NV) : Prop := t.labs.length ≤ 1048576 ∧ t.taints.length ≤ 1048576

/-- A cluster as a law gets it. -/
def CluQ (w : World) (c : CV) (a0 a1 a2 : Value) : Prop := GSl TaskQ 7 w a0 c.tasks ∧ GSl NodeQ 8 w a1 c.nodes ∧ BindSl w a2 c.binds ∧ c.tasks.length ≤ maxLen ∧ c.nodes.length ≤ maxLen ∧ c.binds.length ≤ maxLen
theorem CluQ.below {w w' : World} {c : CV} {a0 a1 a2 : Value} (h : CluQ w c a0 a1 a2) (hb : Below w.heap.size w w') : CluQ w' c a0 a1 a2 := by
  obtain ⟨h0, h1, h2, h3⟩ := h
  exact ⟨h0.below TaskQ.kept hb, h1.below NodeQ.kept hb, h2.below hb, h3⟩
/-- What the laws' size test lets through. -/
def CV.small (c : CV) : Prop := c.tasks.length ≤ 1048576 ∧ (∀ t ∈ c.tasks, t.small) ∧ c.nodes.length ≤ 1048576 ∧ (∀ t ∈ c.nodes, t.small) ∧ c.binds.length ≤ 1048576
theorem GSl.small {α : Type} {R S : World → α → List Value → Prop} {n : Nat} {w : World} {v : Value} {l : List α} (h : GSl R n w v l) (hRS : ∀ x ∈ l, ∀ cs, R w x cs → S w x cs) : GSl S n w v l := by
  rcases h with h | ⟨b, off, c, rfl, hlt, h⟩
  · exact .inl h
  · refine .inr ⟨b, off, c, rfl, hlt, fun i x hx => ?_⟩
    obtain ⟨cs, h1, h2⟩ := h i x hx
    exact ⟨cs, hRS x (List.mem_of_getElem? hx) _ h1, h2⟩
theorem CluQ.clu {w : World} {c : CV} {a0 a1 a2 : Value} (h : CluQ w c a0 a1 a2) (hs : c.small) : CluR w c a0 a1 a2 := by
  obtain ⟨h0, h1, h2, h3⟩ := h
  obtain ⟨s0, s1, s2, s3, s4⟩ := hs
  exact ⟨h0.small fun x hx cs ⟨v1, v2, e, a, b, _⟩ => ⟨v1, v2, e, a, b, s1 x hx⟩, h1.small fun x hx cs ⟨v1, v2, e, a, b, _⟩ => ⟨v1, v2, e, a, b, s3 x hx⟩, h2, s0, s2, s4⟩

end Go.Proofs.Ytcngiinaneefjaa
