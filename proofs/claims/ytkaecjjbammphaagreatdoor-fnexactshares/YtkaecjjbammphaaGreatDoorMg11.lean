/- The contracts of Used, Free, NodeOf and of their models. The contracts of the model's l04Score and Score. -/
import Derived.Test.YtkaecjjbammphaaGreatDoorCluSOk
import Derived.Test.YtkaecjjbammphaaGreatDoorMg07
import Derived.Test.YtkaecjjbammphaaGreatDoorMg08
import Derived.Test.YtkaecjjbammphaaGreatDoorMg06
namespace Go.Proofs.YtkaecjjbammphaaGreatDoor
open Go.RowKit

theorem clusterOk_binds {c : CV} (h : clusterOk c = true) : bindsFrom c 0 c.binds = true := by simp only [clusterOk, Bool.and_eq_true] at h; exact h.1.2
end Go.Proofs.YtkaecjjbammphaaGreatDoor

namespace Go.Proofs.YtkaecjjbammphaaGreatDoor
open Go.RowKit

theorem cellK {X w' : World} {p : Addr} {v : Value} (hb : Below X.heap.size X w') (h : X.cell? p = some v) : w'.cell? p = some v := (hb.cell (World.block_lt_of_cell? _ _ h)).trans h

end Go.Proofs.YtkaecjjbammphaaGreatDoor
