/- What this seat's rows share: the closed facts, the sentinel's cell out of 'laid', a world for the witness. -/
import Derived.Test.YtcegofdmdemcbaaDoorCards
import Derived.Test.YtcegofdmdemcbaaDoorTie
import Derived.Test.YtcegofdmdemcbaaDoorRowBase
import Derived.Test.YtcegofdmdemcbaaDoorResA
namespace Go.Proofs.YtcegofdmdemcbaaDoor
open Go.ChangeShapes Go.WideShapes Go.ChangeAt Go.RowKit Go.Joins

theorem Tryd.errG : Tryd.prog.globalNamed "loop.example/g00718/impl.errRange" = some 0 := by kernel_rfl
theorem Tryd.errT : (Tryd.prog.globals[0]?).map (·.type) = some 64 := by kernel_rfl
theorem Tryd.cellsRes : Tryd.prog.cellsOf 23 = 3 := by kernel_rfl
theorem Tryd.cellsEs : Tryd.prog.cellsOf 123 = 1 := by kernel_rfl
theorem Tryd.cellsStr : Tryd.prog.cellsOf 9 = 1 := by kernel_rfl
theorem Tryd.star : "*" ++ "errors.errorString" = "*errors.errorString" := by decide
theorem Tryd.rowPtr : ∀ u, Tryd.prog.typeName? 3 u = some "*errors.errorString" → u = 96 := fun u h =>
  typeName_ptr_named (nm := "errors.errorString") (by rw [Tryd.star]; kernel_rfl) (by kernel_rfl) (by decide) u (by rw [Tryd.star]; exact h)
theorem errAt_of_laid {r : List (String × DataW Unit)} {W : World} (h : laidMet Tryd.prog (("loop.example/g00718/impl.errRange", Rows.laid_loop_example_g00718_impl_errRange) :: r) W) : ∃ a, ErrAt a W := by
  obtain ⟨a, s, hv, _⟩ := laid_sentinel h Tryd.errG Tryd.errT Tryd.underlying64 Tryd.rowPtr Tryd.underlying96 Tryd.underlying123 rfl rfl Tryd.underlying9 Tryd.cellsEs Tryd.cellsStr
  exact ⟨a, by simpa [ErrAt] using World.var?_cell Tryd.errG hv 0⟩

set_option maxRecDepth 100000 in
/-- An amount by value, opened. -/
theorem open_res {H : Type} {enc : TypeId × Value → H} {W : World} {base : Nat} {v : Value} {d : DataW H} {p : List MemPlace} (hv : Value.okWide Tryd.prog W .any base 23 v) (h : DataW.Trod enc Tryd.prog W 0 (fun _ => true) true 23 v d p) :
    ∃ r : RV, v = .agg #[.int .i64 r.c, .int .i64 r.m, .int .i64 r.p] ∧ (Lit.int .i64 r.c).wf = true ∧ (Lit.int .i64 r.m).wf = true ∧ (Lit.int .i64 r.p).wf = true := by
  obtain ⟨c0, c1, c2, y0, y1, y2, m, rfl, rfl, rfl, hy0, hy1, hy2⟩ := open_agg3 Tryd.underlying23 (by kernel_rfl) Tryd.cellsRes hv h
  obtain ⟨a, e0, rfl, wa⟩ := DataW.trod_int Tryd.underlying3 hy0
  obtain ⟨b, e1, rfl, wb⟩ := DataW.trod_int Tryd.underlying3 hy1
  obtain ⟨c, e2, rfl, wc⟩ := DataW.trod_int Tryd.underlying3 hy2
  simp at e0 e1 e2
  subst e0 e1 e2
  exact ⟨⟨a, b, c⟩, rfl, wa, wb, wc⟩
theorem errVars : ∀ n ∈ ["loop.example/g00718/impl.errRange"], ∃ g t ms, Tryd.prog.globalNamed n = some g ∧ (Tryd.prog.globals[g]?).map (·.type) = some t ∧ Tryd.prog.underlying t = some (.interface ms) := fun n hn => by
  obtain rfl := List.mem_singleton.1 hn
  exact ⟨_, _, _, Tryd.errG, Tryd.errT, Tryd.underlying64⟩
end Go.Proofs.YtcegofdmdemcbaaDoor
