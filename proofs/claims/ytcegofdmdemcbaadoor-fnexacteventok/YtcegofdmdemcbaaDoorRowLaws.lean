/- Whole structs as rows: a load that a guard asks for; a call's results out of a cell; what turned blocks leave. -/
import Derived.Test.YtcegofdmdemcbaaDoorRowStep
import Derived.Laws.Rows
import Derived.Laws.Tables
import Derived.Laws.CopyOwn
namespace Go.Proofs.YtcegofdmdemcbaaDoor
open Go.RowKit

theorem wpList_load_rowG {P : Program} {ops : Array Oper} {rest : List Oper} {o : Oper} {a : Act} {w : World} {Q : Exit → Act → World → Prop} (hw : Region.wanted o (yielded ops a.tmps) = true) (ty : TypeId) (x : Operand) (ho : o.op = .load ty x)
    (g : Nat) (hx : a.eval x = .pointer (some ⟨g, 0, none⟩)) (t : TypeId) (cs : Array Value) (fr : Nat × Nat) (d : TypeDesc) (hg : w.heap[g]? = some (.cells cs t fr))
    (hu : P.underlying ty = some d) (hd : (match d with | .struct _ | .array _ _ => true | _ => false) = true) (hi : (P.info? ty).map (·.size) = some cs.size)
    (h : wpList P ops Q rest (a.put o.dst (.agg cs)) w) : wpList P ops Q (o :: rest) a w :=
  wpList_step fun K hK => by
    simp only [hw, if_true]
    exact wp_load_row ty x ho g hx t cs fr d hg hu hd hi (hK _ _ h)
theorem cell_turn {bs : List Nat} {w w' : World} {b o : Nat} (h : TurnB bs w w') (hb : b < w.heap.size) (hn : b ∉ bs) : w'.cell? ⟨b, o, none⟩ = w.cell? ⟨b, o, none⟩ := by
  simp only [World.cell?, h.block b hb hn]
theorem TurnB.setRow {bs : List Nat} {w w' : World} {g : Nat} (h : TurnB bs w w') (hg : g ∈ bs) (cs : Array Value) : TurnB bs w (w'.setRow g cs) :=
  h.trans ⟨rfl, rfl, rfl, by simp [World.setRow], fun k _ hne => setRow_other _ _ _ _ (fun e => hne (by rw [e]; exact hg))⟩
theorem IntAt.turn {bs : List Nat} {w w' : World} {b off : Nat} {l : List Int} (h : IntAt w b off l) (ht : TurnB bs w w') (hb : b < w.heap.size) (hn : b ∉ bs) : IntAt w' b off l := fun i r hr => (cell_turn ht hb hn).trans (h i r hr)
theorem BlockIs.row {w : World} {g : Nat} {t : TypeId} {old cs : Array Value} (h : BlockIs w g t old) : BlockIs (w.setRow g cs) g t cs := setRow_heap _ _ _ _ _ _ h
end Go.Proofs.YtcegofdmdemcbaaDoor
