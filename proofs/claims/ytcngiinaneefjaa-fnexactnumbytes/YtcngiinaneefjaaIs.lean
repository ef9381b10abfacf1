/- errors.Is at what this program hands it: nil, and a fieldError that wraps the sentinel itself. -/
import Derived.Test.YtcngiinaneefjaaChecked
import Derived.WalkKit
import Derived.LaidEql
import Derived.Stop.Asserts
import Derived.RowKitTokens
import Derived.Outline
namespace Go.Proofs.Ytcngiinaneefjaa
open Go.RowKit Go.Extern.Stop Go.Stop Go.Extern

theorem Try.isComp : (Try.prog.info? 54).map (·.comparable) = some true := by kernel_rfl
theorem Try.isSize : (Try.prog.info? 71).map (·.size) = some 1 := by kernel_rfl
end Go.Proofs.Ytcngiinaneefjaa
