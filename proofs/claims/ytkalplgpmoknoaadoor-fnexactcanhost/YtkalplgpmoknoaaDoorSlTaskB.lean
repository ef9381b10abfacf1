/- toTask and toNode, by what their results read as. -/
import Derived.Test.YtkalplgpmoknoaaDoorSlTask
namespace Go.Proofs.YtkalplgpmoknoaaDoor
open Go.RowKit

/-- The ending 'a task that reads as t'. -/
def RetTask (w : World) (t : TV) (e : Ending) (w' : World) : Prop := ∃ v1 v2, e = .returned (.agg #[.int .i64 t.id, .int .i64 t.prio, .int .i64 t.need.c, .int .i64 t.need.m, .int .i64 t.need.p, v1, v2]) ∧ LabSl w' v1 t.want ∧ IntSl w' v2 t.tols ∧ Below w.heap.size w w'
def RetNode (w : World) (t : NV) (e : Ending) (w' : World) : Prop := ∃ v1 v2, e = .returned (.agg #[.int .i64 t.id, .int .i64 t.pool, .int .i64 t.cap.c, .int .i64 t.cap.m, .int .i64 t.cap.p, v1, v2, .bool t.cordon]) ∧ LabSl w' v1 t.labs ∧ IntSl w' v2 t.taints ∧ Below w.heap.size w w'
theorem toTask_sl (t : TV) (v1 v2 : Value) (w : World) (h1 : LabSl w v1 t.want) (h2 : IntSl w v2 t.tols) (l1 : t.want.length ≤ 1048576) (l2 : t.tols.length ≤ 1048576) :
    Calls Tryd.prog 8 #[.agg #[.int .i64 t.id, .int .i64 t.prio, .int .i64 t.need.c, .int .i64 t.need.m, .int .i64 t.need.p, v1, v2]] w (RetTask w t) :=
  (toTask_any t v1 v2 w h1 h2 l1 l2).mono fun _ _ ⟨g1, g2, e, _, _, k3, bl, it, hb⟩ => ⟨_, _, e, .inr ⟨g1, 0, _, rfl, bl.lt, LabAt.of_cells bl⟩, .inr ⟨g2, 0, _, rfl, k3, it⟩, hb⟩
theorem toNode_sl (t : NV) (v1 v2 : Value) (w : World) (h1 : LabSl w v1 t.labs) (h2 : IntSl w v2 t.taints) (l1 : t.labs.length ≤ 1048576) (l2 : t.taints.length ≤ 1048576) :
    Calls Tryd.prog 13 #[.agg #[.int .i64 t.id, .int .i64 t.pool, .int .i64 t.cap.c, .int .i64 t.cap.m, .int .i64 t.cap.p, v1, v2, .bool t.cordon]] w (RetNode w t) :=
  (toNode_any t v1 v2 w h1 h2 l1 l2).mono fun _ _ ⟨g1, g2, e, _, _, k3, bl, it, hb⟩ => ⟨_, _, e, .inr ⟨g1, 0, _, rfl, bl.lt, LabAt.of_cells bl⟩, .inr ⟨g2, 0, _, rfl, k3, it⟩, hb⟩
end Go.Proofs.YtkalplgpmoknoaaDoor
