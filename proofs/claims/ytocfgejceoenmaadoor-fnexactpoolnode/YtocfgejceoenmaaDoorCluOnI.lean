/- The iterator that tasksOn hands back. -/
import Derived.Test.YtocfgejceoenmaaDoorCluOn
namespace Go.Proofs.YtocfgejceoenmaaDoor
open Go.RowKit Go.Shelf
attribute [local go_sem] Oper.semAt_some

end Go.Proofs.YtocfgejceoenmaaDoor
