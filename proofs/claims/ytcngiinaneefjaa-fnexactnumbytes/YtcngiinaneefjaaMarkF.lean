/- The laws' helpers that write marks and look for them, over flat lists: markLabS, markIntS, markBindS, heldLabS, heldIntS, heldBindS. -/
import Derived.Test.YtcngiinaneefjaaRowStep
import Derived.Test.YtcngiinaneefjaaMarkV
import Derived.Test.YtcngiinaneefjaaCluCopyC
namespace Go.Proofs.Ytcngiinaneefjaa
open Go.RowKit

theorem grown_set {w w' : World} {g : Nat} {row : Option Nat} (h : w.grownBy w' row) (hr : row = some g) (o : Nat) (u : Value) : w.grownBy (w'.setCell ⟨g, o, none⟩ u) row :=
  ⟨h.os, h.tape, h.output, by simpa [World.setCell] using h.size, fun k hk hg => (Below.heap_setCell _ _ _ _ (fun e => hg (by rw [e, hr]))).trans (h.block k hk hg)⟩
theorem labL_snoc (a : List LV) (x : LV) : labL (a ++ [x]) = labL a ++ [.int .i64 x.k, .int .i64 x.v] := by simp [labL]
theorem bindL_snoc (a : List BV) (x : BV) : bindL (a ++ [x]) = bindL a ++ [.int .i64 x.task, .int .i64 x.node] := by simp [bindL]
theorem bind_xs {w : World} {l : List BV} {xs : List Value} {b : List Nat} (h : Elems BindO w l xs b) : xs = bindL l ∧ b = [] := by
  induction l generalizing xs b with
  | nil => exact h
  | cons x r ih =>
    obtain ⟨cs, ys, b1, b2, rfl, rfl, ⟨rfl, rfl⟩, h2⟩ := h
    obtain ⟨rfl, rfl⟩ := ih h2
    exact ⟨rfl, rfl⟩
/-- A row of two ints an element. -/
def TwoO (ty : TypeId) (w : World) (v : Value) (n : Nat) (xs : List Value) : Prop := w.ownsRow 0 ty 2 v n xs

end Go.Proofs.Ytcngiinaneefjaa
