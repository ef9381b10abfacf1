/- The contract of ResSum. -/
import Derived.Test.YtocfgejceoenmaaDoorBlocks
import Derived.Test.YtocfgejceoenmaaDoorSumPure
import Derived.Test.YtocfgejceoenmaaDoorResC
namespace Go.Proofs.YtocfgejceoenmaaDoor
open Go.RowKit

theorem ResSl.form {w : World} {v : Value} {l : List RV} (h : ResSl w v l) : ∃ A c, v = .slice A l.length c ∧ (0 < l.length → ∃ b off, A = some ⟨b, off, none⟩ ∧ b < w.heap.size ∧ ResAt w b off l) := by
  rcases h with ⟨rfl, A, c, rfl⟩ | ⟨b, off, c, rfl, hlt, h⟩
  · exact ⟨A, c, rfl, fun h => absurd h (by simp)⟩
  · exact ⟨_, c, rfl, fun _ => ⟨b, off, rfl, hlt, h⟩⟩
/-- Block g holds the sum so far; below it nothing has turned since X. -/
def SumAt (X : World) (g : Nat) (s : RV) (wr : World) : Prop := Below g X wr ∧ X.heap.size ≤ wr.heap.size ∧ BlockIs wr g 32 #[.int .i64 s.c, .int .i64 s.m, .int .i64 s.p]

end Go.Proofs.YtocfgejceoenmaaDoor
