/- The contracts of the model's l03Task, l03Node, l03Bind, l03Used. -/
import Derived.Test.YtocfgejceoenmaaDoorCluUsed
import Derived.Test.YtocfgejceoenmaaDoorSumS
import Derived.Test.YtocfgejceoenmaaDoorTaskS
import Derived.Deep.RegionHeld3
namespace Go.Proofs.YtocfgejceoenmaaDoor
open Go.RowKit

end Go.Proofs.YtocfgejceoenmaaDoor
namespace Go.Proofs.YtocfgejceoenmaaDoor
open Go.RowKit

end Go.Proofs.YtocfgejceoenmaaDoor
