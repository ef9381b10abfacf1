/- Tasks and nodes as arguments, opened. -/
import Derived.Test.YtcegofdmdemcbaaDoorIntRow
import Derived.Test.YtcegofdmdemcbaaDoorCluPure
import Derived.Deep.Strs
namespace Go.Proofs.YtcegofdmdemcbaaDoor
open Go.ChangeShapes Go.WideShapes Go.ChangeAt Go.RowKit Go.Joins

section
variable {H : Type} {enc : TypeId × Value → H} {W : World} {P : Program} {base : Nat} {spare : Nat → Bool} {held : Bool}
theorem trod_struct5 {t : TypeId} {f0 f1 f2 f3 f4 : Field} {fuel : Nat} {cs : List Value} {x : DataW H × List MemPlace} (ht : P.underlying t = some (.struct #[f0, f1, f2, f3, f4])) (h : DataW.trod enc P W base spare held fuel t cs = some x) :
    ∃ y0 y1 y2 y3 y4 n, cs.length = P.cellsOf t ∧ DataW.trod enc P W base spare held n f0.type ((cs.drop f0.offset).take (P.cellsOf f0.type)) = some y0 ∧
      DataW.trod enc P W base spare held n f1.type ((cs.drop f1.offset).take (P.cellsOf f1.type)) = some y1 ∧ DataW.trod enc P W base spare held n f2.type ((cs.drop f2.offset).take (P.cellsOf f2.type)) = some y2 ∧
      DataW.trod enc P W base spare held n f3.type ((cs.drop f3.offset).take (P.cellsOf f3.type)) = some y3 ∧ DataW.trod enc P W base spare held n f4.type ((cs.drop f4.offset).take (P.cellsOf f4.type)) = some y4 := by
  obtain ⟨xs, n, _, rfl, hl, hlen, hf⟩ := DataW.trod_struct ht h
  match xs, hlen with
  | [y0, y1, y2, y3, y4], _ => exact ⟨y0, y1, y2, y3, y4, n, hl, by simpa using hf 0 f0 rfl, by simpa using hf 1 f1 rfl, by simpa using hf 2 f2 rfl, by simpa using hf 3 f3 rfl, by simpa using hf 4 f4 rfl⟩
theorem trod_struct6 {t : TypeId} {f0 f1 f2 f3 f4 f5 : Field} {fuel : Nat} {cs : List Value} {x : DataW H × List MemPlace} (ht : P.underlying t = some (.struct #[f0, f1, f2, f3, f4, f5])) (h : DataW.trod enc P W base spare held fuel t cs = some x) :
    ∃ y0 y1 y2 y3 y4 y5 n, cs.length = P.cellsOf t ∧ DataW.trod enc P W base spare held n f0.type ((cs.drop f0.offset).take (P.cellsOf f0.type)) = some y0 ∧
      DataW.trod enc P W base spare held n f1.type ((cs.drop f1.offset).take (P.cellsOf f1.type)) = some y1 ∧ DataW.trod enc P W base spare held n f2.type ((cs.drop f2.offset).take (P.cellsOf f2.type)) = some y2 ∧
      DataW.trod enc P W base spare held n f3.type ((cs.drop f3.offset).take (P.cellsOf f3.type)) = some y3 ∧ DataW.trod enc P W base spare held n f4.type ((cs.drop f4.offset).take (P.cellsOf f4.type)) = some y4 ∧
      DataW.trod enc P W base spare held n f5.type ((cs.drop f5.offset).take (P.cellsOf f5.type)) = some y5 := by
  obtain ⟨xs, n, _, rfl, hl, hlen, hf⟩ := DataW.trod_struct ht h
  match xs, hlen with
  | [y0, y1, y2, y3, y4, y5], _ => exact ⟨y0, y1, y2, y3, y4, y5, n, hl, by simpa using hf 0 f0 rfl, by simpa using hf 1 f1 rfl, by simpa using hf 2 f2 rfl, by simpa using hf 3 f3 rfl, by simpa using hf 4 f4 rfl, by simpa using hf 5 f5 rfl⟩
theorem agg_of_cells {cs : Array Value} {l : List Value} (h : (Value.agg cs).cells.toList = l) : Value.agg cs = .agg l.toArray := by subst h; simp [Value.cells]
theorem list7 {α : Type} {l : List α} (h : l.length = 7) : ∃ a b c d e f g, l = [a, b, c, d, e, f, g] := by
  match l, h with
  | [a, b, c, d, e, f, g], _ => exact ⟨a, b, c, d, e, f, g, rfl⟩
theorem list8 {α : Type} {l : List α} (h : l.length = 8) : ∃ a b c d e f g i, l = [a, b, c, d, e, f, g, i] := by
  match l, h with
  | [a, b, c, d, e, f, g, i], _ => exact ⟨a, b, c, d, e, f, g, i, rfl⟩
end

section
variable {H : Type} {enc : TypeId × Value → H} {W : World}
theorem Tryd.c_int : Tryd.prog.cellsOf 3 = 1 := by kernel_rfl
theorem Tryd.c_res : Tryd.prog.cellsOf 23 = 3 := by kernel_rfl
theorem Tryd.c_labs : Tryd.prog.cellsOf 24 = 1 := by kernel_rfl
theorem Tryd.c_ints : Tryd.prog.cellsOf 25 = 1 := by kernel_rfl
theorem Tryd.c_bool : Tryd.prog.cellsOf 4 = 1 := by kernel_rfl
theorem Tryd.c_task : Tryd.prog.cellsOf 27 = 7 := by kernel_rfl
set_option maxRecDepth 100000 in
/-- The cells of a task. -/
theorem open_taskC {fuel : Nat} {cs : List Value} {x : DataW H × List MemPlace} (h : DataW.trod enc Tryd.prog W 0 (fun _ => true) true fuel 27 cs = some x) :
    ∃ (t : TV) (v1 v2 : Value), cs = [.int .i64 t.id, .int .i64 t.prio, .int .i64 t.need.c, .int .i64 t.need.m, .int .i64 t.need.p, v1, v2] ∧ LabSl W v1 t.want ∧ IntSl W v2 t.tols ∧ t.want.length ≤ maxLen ∧ t.tols.length ≤ maxLen := by
  obtain ⟨y0, y1, y2, y3, y4, n, hl, h0, h1, h2, h3, h4⟩ := trod_struct5 Tryd.underlying27 h
  rw [Tryd.c_task] at hl
  obtain ⟨a, b, c, d, e, f, g, rfl⟩ := list7 hl
  simp only [Tryd.c_int, Tryd.c_res, Tryd.c_labs, Tryd.c_ints] at h0 h1 h2 h3 h4
  simp at h0 h1 h2 h3 h4
  obtain ⟨z0, e0, _, _⟩ := DataW.trod_int Tryd.underlying3 h0
  obtain ⟨z1, e1, _, _⟩ := DataW.trod_int Tryd.underlying3 h1
  obtain ⟨r0, r1, r2, m, _, _, g0, g1, g2⟩ := Go.Deep.trod_struct3 Tryd.underlying23 h2
  simp only [Tryd.c_int] at g0 g1 g2
  simp at g0 g1 g2
  obtain ⟨z2, e2, _, _⟩ := DataW.trod_int Tryd.underlying3 g0
  obtain ⟨z3, e3, _, _⟩ := DataW.trod_int Tryd.underlying3 g1
  obtain ⟨z4, e4, _, _⟩ := DataW.trod_int Tryd.underlying3 g2
  simp at e0 e1 e2 e3 e4
  subst e0 e1 e2 e3 e4
  obtain ⟨A1, n1, c1, _, hn1, l1, hl1, hs1⟩ := open_labC h3
  obtain ⟨A2, n2, c2, _, hn2, l2, hl2, hs2⟩ := open_intC h4
  exact ⟨⟨z0, z1, ⟨z2, z3, z4⟩, l1, l2⟩, f, g, rfl, hs1, hs2, by simp only []; omega, by simp only []; omega⟩
set_option maxRecDepth 100000 in
/-- A task by value, opened. -/
theorem open_task {base : Nat} {v : Value} {d : DataW H} {p : List MemPlace} (hv : Value.okWide Tryd.prog W .any base 27 v) (h : DataW.Trod enc Tryd.prog W 0 (fun _ => true) true 27 v d p) :
    ∃ (t : TV) (v1 v2 : Value), v = .agg #[.int .i64 t.id, .int .i64 t.prio, .int .i64 t.need.c, .int .i64 t.need.m, .int .i64 t.need.p, v1, v2] ∧ LabSl W v1 t.want ∧ IntSl W v2 t.tols ∧ t.want.length ≤ maxLen ∧ t.tols.length ≤ maxLen := by
  obtain ⟨cs, rfl, _⟩ := okWide_struct Tryd.underlying27 hv
  obtain ⟨fuel, hf⟩ := h
  obtain ⟨t, v1, v2, e, h1, h2, h3, h4⟩ := open_taskC hf
  refine ⟨t, v1, v2, ?_, h1, h2, h3, h4⟩
  rw [agg_of_cells e]
end
end Go.Proofs.YtcegofdmdemcbaaDoor
