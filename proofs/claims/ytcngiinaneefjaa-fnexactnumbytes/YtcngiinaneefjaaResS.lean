/- The contracts of the model's ResOk, ResAdd, ResSub, ResFits, and of the laws' toRes, eqRes. -/
import Derived.Test.YtcngiinaneefjaaResA
namespace Go.Proofs.Ytcngiinaneefjaa
open Go.RowKit

end Go.Proofs.Ytcngiinaneefjaa
