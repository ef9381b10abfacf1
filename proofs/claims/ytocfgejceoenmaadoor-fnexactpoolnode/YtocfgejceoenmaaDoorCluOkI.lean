/- The contracts of tasksOk and nodesOk. -/
import Derived.Test.YtocfgejceoenmaaDoorCluFind
import Derived.Test.YtocfgejceoenmaaDoorTaskI
namespace Go.Proofs.YtocfgejceoenmaaDoor
open Go.RowKit

end Go.Proofs.YtocfgejceoenmaaDoor
namespace Go.Proofs.YtocfgejceoenmaaDoor
open Go.RowKit

theorem bindOk_eq (c : CV) (b : BV) (b1 b2 ok : Bool) (t : TV) (n : NV) (h1 : (fstBy TV.id c.tasks b.task).isSome = b1) (h2 : (fstBy NV.id c.nodes b.node).isSome = b2)
    (ht : (fstBy TV.id c.tasks b.task).getD TV.zero = t) (hn : (fstBy NV.id c.nodes b.node).getD NV.zero = n) (hok : canHost n t = ok) : bindOk c b = (b1 && b2 && ok) := by
  subst h1 h2 ht hn hok
  unfold bindOk
  cases fstBy TV.id c.tasks b.task <;> cases fstBy NV.id c.nodes b.node <;> simp

end Go.Proofs.YtocfgejceoenmaaDoor
