/- Segments of impl over valid points: contains, divides, crosses, distances. -/
import Derived.Test.YthjimogeimigmaaK1
import Derived.Test.YthjimogeimigmaaPlan
import Derived.Test.YthjimogeimigmaaRootImpl
namespace Go.Proofs.Ythjimogeimigmaa
open Go.ChangeShapes Go.WideShapes Go.ChangeAt Go.RowKit

end Go.Proofs.Ythjimogeimigmaa
