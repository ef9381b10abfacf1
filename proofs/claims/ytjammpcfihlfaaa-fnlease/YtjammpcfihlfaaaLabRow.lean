/- What this seat's rows share: the closed facts; a slice of labels, a slice of integers, a label, opened. -/
import Derived.Test.YtjammpcfihlfaaaRowBase
import Derived.Test.YtjammpcfihlfaaaLabD
import Derived.Deep.Slices
import Derived.Deep.Fields
import Derived.ChangeSame
namespace Go.Proofs.Ytjammpcfihlfaaa
open Go.ChangeShapes Go.WideShapes Go.ChangeAt Go.RowKit Go.Joins

section
variable {H : Type} {enc : TypeId × Value → H} {W : World}
end
end Go.Proofs.Ytjammpcfihlfaaa
