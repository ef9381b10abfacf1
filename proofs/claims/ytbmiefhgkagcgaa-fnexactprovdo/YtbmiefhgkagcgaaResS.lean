/- The contracts of the model's ResOk, ResAdd, ResSub, ResFits, and of the laws' toRes, eqRes. -/
import Derived.Test.YtbmiefhgkagcgaaResA
namespace Go.Proofs.Ytbmiefhgkagcgaa
open Go.RowKit

end Go.Proofs.Ytbmiefhgkagcgaa
