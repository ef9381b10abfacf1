/- The closed facts that every row asks of the program. -/
import Derived.Test.YtkalplgpmoknoaaGreatDoorRows
import Derived.Test.YtkalplgpmoknoaaGreatDoorFrame
import Derived.Test.YtkalplgpmoknoaaGreatDoorChecked
import Derived.Deep.DeepHandedRow
import Derived.Deep.DeepWitnessRowRef
import Derived.Lib.SmallJoins
import Derived.LaidMore
namespace Go.Proofs.YtkalplgpmoknoaaGreatDoor
open Go.ChangeShapes Go.WideShapes Go.ChangeAt Go.RowKit Go.Joins

theorem Tryz.own : ownKnob Tryz.prog.godebug = none := by kernel_rfl
theorem Tryz.laidOut : laidOutB Tryz.prog = true := by kernel_rfl
end Go.Proofs.YtkalplgpmoknoaaGreatDoor
