/- The closed facts that every row asks of the program. -/
import Derived.Test.YtkalplgpmoknoaaDoorRows
import Derived.Test.YtkalplgpmoknoaaDoorFrame
import Derived.Test.YtkalplgpmoknoaaDoorChecked
import Derived.Deep.DeepHandedRow
import Derived.Deep.DeepWitnessRowRef
import Derived.Lib.SmallJoins
import Derived.LaidMore
namespace Go.Proofs.YtkalplgpmoknoaaDoor
open Go.ChangeShapes Go.WideShapes Go.ChangeAt Go.RowKit Go.Joins

theorem Tryd.own : ownKnob Tryd.prog.godebug = none := by kernel_rfl
theorem Tryd.laidOut : laidOutB Tryd.prog = true := by kernel_rfl
end Go.Proofs.YtkalplgpmoknoaaDoor
