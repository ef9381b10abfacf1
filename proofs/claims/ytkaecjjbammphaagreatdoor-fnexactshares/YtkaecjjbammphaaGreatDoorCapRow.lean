/- The second sentinel's cell out of 'laid'. -/
import Derived.Test.YtkaecjjbammphaaGreatDoorMg03
import Derived.Test.YtkaecjjbammphaaGreatDoorMg08
namespace Go.Proofs.YtkaecjjbammphaaGreatDoor
open Go.ChangeShapes Go.WideShapes Go.ChangeAt Go.RowKit Go.Joins

theorem Tryz.capG : Tryz.prog.globalNamed "loop.example/g00718/impl.errNoCap" = some 0 := by kernel_rfl
theorem Tryz.capT : (Tryz.prog.globals[0]?).map (·.type) = some 112 := by kernel_rfl
theorem capAt_of_laid {r : List (String × DataW Unit)} {W : World} (h : laidMet Tryz.prog (("loop.example/g00718/impl.errNoCap", Rows.laid_loop_example_g00718_impl_errNoCap) :: r) W) : ∃ a, CapAt a W := by
  obtain ⟨a, s, hv, _⟩ := laid_sentinel h Tryz.capG Tryz.capT Tryz.underlying112 Tryz.rowPtr Tryz.underlying161 Tryz.underlying188 rfl rfl Tryz.underlying9 Tryz.cellsEs Tryz.cellsStr
  exact ⟨a, by simpa [CapAt] using World.var?_cell Tryz.capG hv 0⟩
theorem capVars : ∀ n ∈ ["loop.example/g00718/impl.errRange", "loop.example/g00718/impl.errNoCap"], ∃ g t ms, Tryz.prog.globalNamed n = some g ∧ (Tryz.prog.globals[g]?).map (·.type) = some t ∧ Tryz.prog.underlying t = some (.interface ms) := fun n hn => by
  rcases List.mem_cons.1 hn with rfl | hn
  · exact ⟨_, _, _, Tryz.errG, Tryz.errT, Tryz.underlying112⟩
  · obtain rfl := List.mem_singleton.1 hn
    exact ⟨_, _, _, Tryz.capG, Tryz.capT, Tryz.underlying112⟩
end Go.Proofs.YtkaecjjbammphaaGreatDoor
