/- The contracts of chapter 1's functions: checkRes, checkBoth, outOfRange, keepValid. -/
import Derived.Test.YtcngiinaneefjaaBase
import Derived.Test.YtcngiinaneefjaaIs
import Derived.Test.YtcngiinaneefjaaResPure
namespace Go.Proofs.Ytcngiinaneefjaa
open Go.RowKit

end Go.Proofs.Ytcngiinaneefjaa
