/- A function value that tells of each element whether p holds; the first place at which it holds: slices.IndexFunc over tasks, nodes and bindings. -/
import Derived.Test.YtbmiefhgkagcgaaMgMark
import Derived.Shelf.Abstract
import Derived.Lib.SliceRun
namespace Go.Proofs.Ytbmiefhgkagcgaa
open Go.RowKit

/-- In every world of Inv the function value tells of each element whether p holds. -/
def Tells {α : Type} (R : World → α → List Value → Prop) (g : Nat) (lb : Array Value) (p : α → Bool) (Inv : World → Prop) : Prop :=
  ∀ (w : World) (x : α) (cs : List Value), Inv w → R w x cs → Calls Try.prog g (#[.agg cs.toArray] ++ lb) w fun e w' => e = .returned (.bool (p x)) ∧ Below w.heap.size w w'
/-- The first place at which p holds, or -1. -/
def pIdxGo {α : Type} (p : α → Bool) : Int → List α → Int
  | _, [] => -1
  | k, x :: r => if p x then k else pIdxGo p (k + 1) r
def pIdx {α : Type} (p : α → Bool) (l : List α) : Int := pIdxGo p 0 l
section
variable {α : Type} {p : α → Bool} {l : List α}
theorem pIdxGo_hit {k : Int} {x : α} {r : List α} (h : p x = true) : pIdxGo p k (x :: r) = k := by rw [pIdxGo, if_pos h]
theorem pIdxGo_miss {k : Int} {x : α} {r : List α} (h : p x = false) : pIdxGo p k (x :: r) = pIdxGo p (k + 1) r := by rw [pIdxGo, h]; rfl
theorem pIdxGo_spec (k : Int) : (pIdxGo p k l = -1 ∧ ∀ x ∈ l, p x = false) ∨ ∃ (j : Nat) (x : α), pIdxGo p k l = k + j ∧ l[j]? = some x ∧ p x = true ∧ ∀ y ∈ l.take j, p y = false := by
  induction l generalizing k with
  | nil => exact .inl ⟨rfl, by simp⟩
  | cons x r ih =>
    cases h : p x with
    | true => exact .inr ⟨0, x, by rw [pIdxGo_hit h]; simp, rfl, h, by simp⟩
    | false =>
      rcases ih (k + 1) with ⟨e, ha⟩ | ⟨j, y, e, h1, h2, h3⟩
      · exact .inl ⟨by rw [pIdxGo_miss h, e], by simpa [h] using ha⟩
      · exact .inr ⟨j + 1, y, by rw [pIdxGo_miss h, e]; simp; omega, by simpa using h1, h2, by simpa [h] using h3⟩
theorem pIdx_spec : (pIdx p l = -1 ∧ ∀ x ∈ l, p x = false) ∨ ∃ (j : Nat) (x : α), pIdx p l = j ∧ l[j]? = some x ∧ p x = true ∧ ∀ y ∈ l.take j, p y = false := by
  rcases pIdxGo_spec (p := p) (l := l) 0 with h | ⟨j, x, e, h⟩
  · exact .inl h
  · exact .inr ⟨j, x, by unfold pIdx; rw [e]; omega, h⟩
theorem filter_none (h : ∀ x ∈ l, p x = false) : (l.filter fun x => !p x) = l := List.filter_eq_self.2 (fun x hx => by simp [h x hx])
end

end Go.Proofs.Ytbmiefhgkagcgaa
