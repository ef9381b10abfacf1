/- What this seat's rows share: the closed facts, the sentinel's cell out of 'laid', a world for the witness. -/
import Derived.Test.YtocfgejceoenmaaGreatDoorCards
import Derived.Test.YtocfgejceoenmaaGreatDoorTie
import Derived.Test.YtocfgejceoenmaaGreatDoorRowBase
import Derived.Test.YtocfgejceoenmaaGreatDoorResA
namespace Go.Proofs.YtocfgejceoenmaaGreatDoor
open Go.ChangeShapes Go.WideShapes Go.ChangeAt Go.RowKit Go.Joins

theorem Tryz.errG : Tryz.prog.globalNamed "loop.example/g00718/impl.errRange" = some 1 := by kernel_rfl
theorem Tryz.errT : (Tryz.prog.globals[1]?).map (·.type) = some 90 := by kernel_rfl
theorem Tryz.cellsRes : Tryz.prog.cellsOf 28 = 3 := by kernel_rfl
theorem Tryz.cellsEs : Tryz.prog.cellsOf 250 = 1 := by kernel_rfl
theorem Tryz.cellsStr : Tryz.prog.cellsOf 9 = 1 := by kernel_rfl
theorem Tryz.star : "*" ++ "errors.errorString" = "*errors.errorString" := by decide
theorem Tryz.rowPtr : ∀ u, Tryz.prog.typeName? 3 u = some "*errors.errorString" → u = 227 := fun u h =>
  typeName_ptr_named (nm := "errors.errorString") (by rw [Tryz.star]; kernel_rfl) (by kernel_rfl) (by decide) u (by rw [Tryz.star]; exact h)
theorem errAt_of_laid {r : List (String × DataW Unit)} {W : World} (h : laidMet Tryz.prog (("loop.example/g00718/impl.errRange", Rows.laid_loop_example_g00718_impl_errRange) :: r) W) : ∃ a, ErrAt a W := by
  obtain ⟨a, s, hv, _⟩ := laid_sentinel h Tryz.errG Tryz.errT Tryz.underlying90 Tryz.rowPtr Tryz.underlying227 Tryz.underlying250 rfl rfl Tryz.underlying9 Tryz.cellsEs Tryz.cellsStr
  exact ⟨a, by simpa [ErrAt] using World.var?_cell Tryz.errG hv 0⟩

set_option maxRecDepth 100000 in
/-- An amount by value, opened. -/
theorem open_res {H : Type} {enc : TypeId × Value → H} {W : World} {base : Nat} {v : Value} {d : DataW H} {p : List MemPlace} (hv : Value.okWide Tryz.prog W .any base 28 v) (h : DataW.Trod enc Tryz.prog W 0 (fun _ => true) true 28 v d p) :
    ∃ r : RV, v = .agg #[.int .i64 r.c, .int .i64 r.m, .int .i64 r.p] ∧ (Lit.int .i64 r.c).wf = true ∧ (Lit.int .i64 r.m).wf = true ∧ (Lit.int .i64 r.p).wf = true := by
  obtain ⟨c0, c1, c2, y0, y1, y2, m, rfl, rfl, rfl, hy0, hy1, hy2⟩ := open_agg3 Tryz.underlying28 (by kernel_rfl) Tryz.cellsRes hv h
  obtain ⟨a, e0, rfl, wa⟩ := DataW.trod_int Tryz.underlying3 hy0
  obtain ⟨b, e1, rfl, wb⟩ := DataW.trod_int Tryz.underlying3 hy1
  obtain ⟨c, e2, rfl, wc⟩ := DataW.trod_int Tryz.underlying3 hy2
  simp at e0 e1 e2
  subst e0 e1 e2
  exact ⟨⟨a, b, c⟩, rfl, wa, wb, wc⟩
theorem errVars : ∀ n ∈ ["loop.example/g00718/impl.errRange"], ∃ g t ms, Tryz.prog.globalNamed n = some g ∧ (Tryz.prog.globals[g]?).map (·.type) = some t ∧ Tryz.prog.underlying t = some (.interface ms) := fun n hn => by
  obtain rfl := List.mem_singleton.1 hn
  exact ⟨_, _, _, Tryz.errG, Tryz.errT, Tryz.underlying90⟩
end Go.Proofs.YtocfgejceoenmaaGreatDoor
