/- A message by value, opened; the laws' toMsg. -/
import Derived.Test.YtbmiefhgkagcgaaRowBase
import Derived.Test.YtbmiefhgkagcgaaProvP
import Derived.Lib.SmallJoins
namespace Go.Proofs.Ytbmiefhgkagcgaa
open Go.ChangeShapes Go.WideShapes Go.ChangeAt Go.RowKit Go.Joins

theorem Try.cellsMsg : Try.prog.cellsOf 46 = 4 := by kernel_rfl
set_option maxRecDepth 100000 in
theorem open_msg {H : Type} {enc : TypeId × Value → H} {W : World} {base : Nat} {v : Value} {d : DataW H} {p : List MemPlace} (hv : Value.okWide Try.prog W .any base 46 v) (h : DataW.Trod enc Try.prog W 0 (fun _ => true) true 46 v d p) :
    ∃ m : MV, v = .agg #[.int .i64 m.k, .int .i64 m.e, .int .i64 m.i, .int .i64 m.p] ∧ (Lit.int .i64 m.i).wf = true := by
  obtain ⟨c0, c1, c2, c3, y0, y1, y2, y3, m, rfl, rfl, rfl, hy0, hy1, hy2, hy3⟩ := open_agg4 Try.underlying46 (by kernel_rfl) Try.cellsMsg hv h
  obtain ⟨a, e0, rfl, wa⟩ := DataW.trod_int Try.underlying3 hy0
  obtain ⟨b, e1, rfl, wb⟩ := DataW.trod_int Try.underlying3 hy1
  obtain ⟨c, e2, rfl, wc⟩ := DataW.trod_int Try.underlying3 hy2
  obtain ⟨e, e3, rfl, we⟩ := DataW.trod_int Try.underlying3 hy3
  simp at e0 e1 e2 e3
  subst e0 e1 e2 e3
  exact ⟨⟨a, b, c, e⟩, rfl, wc⟩
theorem toMsg_any (m : MV) (w : World) :
    Calls Try.prog 28 #[.agg #[.int .i64 m.k, .int .i64 m.e, .int .i64 m.i, .int .i64 m.p]] w fun e w' => e = .returned (.agg #[.int .i64 m.k, .int .i64 m.e, .int .i64 m.i, .int .i64 m.p]) ∧ Below w.heap.size w w' := by
  go_enter Try.func28, Try.ntmps28
  go_wp2
  refine bodyPost_ret (v := .agg #[.int .i64 m.k, .int .i64 m.e, .int .i64 m.i, .int .i64 m.p]) (by simp [results, Try.results28, go_sem]) rfl ⟨rfl, (by repeat' (first | exact Below.refl _ _ | refine Below.alloc ?_ ?_ _ | refine Below.setCell ?_ ?_ _ | refine Below.drew ?_ | (apply below_step; assumption) | (simp; done) | (simp; omega) | omega))⟩
end Go.Proofs.Ytbmiefhgkagcgaa
