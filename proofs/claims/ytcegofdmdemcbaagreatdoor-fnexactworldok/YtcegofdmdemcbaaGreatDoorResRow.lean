/- What this seat's rows share: the closed facts, the sentinel's cell out of 'laid', a world for the witness. -/
import Derived.Test.YtcegofdmdemcbaaGreatDoorCards
import Derived.Test.YtcegofdmdemcbaaGreatDoorTie
import Derived.Test.YtcegofdmdemcbaaGreatDoorMg02
import Derived.Test.YtcegofdmdemcbaaGreatDoorMg00
namespace Go.Proofs.YtcegofdmdemcbaaGreatDoor
open Go.ChangeShapes Go.WideShapes Go.ChangeAt Go.RowKit Go.Joins

theorem Tryz.errG : Tryz.prog.globalNamed "loop.example/g00718/impl.errRange" = some 0 := by kernel_rfl
theorem Tryz.errT : (Tryz.prog.globals[0]?).map (·.type) = some 224 := by kernel_rfl
theorem Tryz.cellsEs : Tryz.prog.cellsOf 289 = 1 := by kernel_rfl
theorem Tryz.cellsStr : Tryz.prog.cellsOf 9 = 1 := by kernel_rfl
theorem Tryz.star : "*" ++ "errors.errorString" = "*errors.errorString" := by decide
theorem Tryz.rowPtr : ∀ u, Tryz.prog.typeName? 3 u = some "*errors.errorString" → u = 262 := fun u h =>
  typeName_ptr_named (nm := "errors.errorString") (by rw [Tryz.star]; kernel_rfl) (by kernel_rfl) (by decide) u (by rw [Tryz.star]; exact h)
theorem errAt_of_laid {r : List (String × DataW Unit)} {W : World} (h : laidMet Tryz.prog (("loop.example/g00718/impl.errRange", Rows.laid_loop_example_g00718_impl_errRange) :: r) W) : ∃ a, ErrAt a W := by
  obtain ⟨a, s, hv, _⟩ := laid_sentinel h Tryz.errG Tryz.errT Tryz.underlying224 Tryz.rowPtr Tryz.underlying262 Tryz.underlying289 rfl rfl Tryz.underlying9 Tryz.cellsEs Tryz.cellsStr
  exact ⟨a, by simpa [ErrAt] using World.var?_cell Tryz.errG hv 0⟩

theorem errVars : ∀ n ∈ ["loop.example/g00718/impl.errRange"], ∃ g t ms, Tryz.prog.globalNamed n = some g ∧ (Tryz.prog.globals[g]?).map (·.type) = some t ∧ Tryz.prog.underlying t = some (.interface ms) := fun n hn => by
  obtain rfl := List.mem_singleton.1 hn
  exact ⟨_, _, _, Tryz.errG, Tryz.errT, Tryz.underlying224⟩
end Go.Proofs.YtcegofdmdemcbaaGreatDoor
