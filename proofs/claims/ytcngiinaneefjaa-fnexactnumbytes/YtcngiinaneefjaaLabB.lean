/- The contracts of marks.with and marks.hasAll. -/
import Derived.Test.YtcngiinaneefjaaLabA
namespace Go.Proofs.Ytcngiinaneefjaa
open Go.RowKit

theorem Try.infoInt : ∃ i, Try.prog.info? 3 = some i := ⟨_, (Option.eq_some_of_isSome (show (Try.prog.info? 3).isSome = true by kernel_rfl))⟩
theorem Try.cellsInt : Try.prog.cellsOf 3 = 1 := by kernel_rfl
theorem part_int (xs : Array Value) (off : Nat) (v : Value) (h : xs[off]? = some v) (w : World) : (part 3 xs off).run Try.prog w = .ok v w := by
  have : (isAgg 3).run Try.prog w = .ok false w := by kernel_rfl
  simp [part, this, h]
def eqMarks (a b : Nat → Int) : Bool := (List.range 10).all fun i => a i == b i
end Go.Proofs.Ytcngiinaneefjaa
