/- Segments of impl over valid points: contains, divides, crosses, distances. -/
import Derived.Test.YtmfchcaidfloaaaK1
import Derived.Test.YtmfchcaidfloaaaPlan
import Derived.Test.YtmfchcaidfloaaaRootImpl
namespace Go.Proofs.Ytmfchcaidfloaaa
open Go.ChangeShapes Go.WideShapes Go.ChangeAt Go.RowKit

end Go.Proofs.Ytmfchcaidfloaaa
