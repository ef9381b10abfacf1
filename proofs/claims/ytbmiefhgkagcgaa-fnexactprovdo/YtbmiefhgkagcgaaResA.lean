/- The contracts of chapter 1's functions: checkRes, checkBoth, outOfRange, keepValid. -/
import Derived.Test.YtbmiefhgkagcgaaBase
import Derived.Test.YtbmiefhgkagcgaaIs
import Derived.Test.YtbmiefhgkagcgaaResPure
namespace Go.Proofs.Ytbmiefhgkagcgaa
open Go.RowKit

end Go.Proofs.Ytbmiefhgkagcgaa
