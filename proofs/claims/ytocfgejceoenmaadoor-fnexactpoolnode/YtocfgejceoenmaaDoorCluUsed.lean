/- The contracts of usedOn, freeOn, needsFit, ClusterOk. -/
import Derived.Test.YtocfgejceoenmaaDoorCluOnU
namespace Go.Proofs.YtocfgejceoenmaaDoor
open Go.RowKit

theorem needsIn_take_yes {c : CV} {n : Int} {k : Nat} {b : BV} (h : c.binds[k]? = some b) (e : b.node = n) : needsIn c n (c.binds.take (k + 1)) = needsIn c n (c.binds.take k) ++ [needOf c b.task] := by
  rw [take_at h, needsIn_append, needsIn_yes e]; rfl
theorem needsIn_take_no {c : CV} {n : Int} {k : Nat} {b : BV} (h : c.binds[k]? = some b) (e : b.node ≠ n) : needsIn c n (c.binds.take (k + 1)) = needsIn c n (c.binds.take k) := by
  rw [take_at h, needsIn_append, needsIn_no e]; simp [needsIn]
theorem needsIn_take_len (c : CV) (n : Int) (k : Nat) : (needsIn c n (c.binds.take k)).length ≤ c.binds.length := by
  have h1 := needsIn_len c n (c.binds.take k)
  rw [List.length_take] at h1
  omega

theorem fitsAll_yes {c : CV} {n : NV} {r : List NV} (h : (freeOf c n).2 = true) : fitsAll c (n :: r) = fitsAll c r := by simp [fitsAll, h]
theorem fitsAll_no {c : CV} {n : NV} {r : List NV} (h : (freeOf c n).2 = false) : fitsAll c (n :: r) = false := by simp [fitsAll, h]
theorem clusterOk_eq (c : CV) (b1 b2 b3 b4 : Bool) (h1 : tasksOk c.tasks = b1) (h2 : nodesOk c.nodes = b2) (h3 : bindsFrom c 0 c.binds = b3) (h4 : fitsAll c c.nodes = b4) : clusterOk c = (b1 && b2 && b3 && b4) := by
  subst h1 h2 h3 h4; rfl
end Go.Proofs.YtocfgejceoenmaaDoor
