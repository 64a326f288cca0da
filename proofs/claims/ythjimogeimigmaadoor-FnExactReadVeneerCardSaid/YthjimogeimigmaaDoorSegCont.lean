/- Segments of impl over valid points: contains, divides, crosses, distances. -/
import Derived.Test.YthjimogeimigmaaDoorK1
import Derived.Test.YthjimogeimigmaaDoorPlan
import Derived.Test.YthjimogeimigmaaDoorRootImpl
namespace Go.Proofs.YthjimogeimigmaaDoor
open Go.ChangeShapes Go.WideShapes Go.ChangeAt Go.RowKit

end Go.Proofs.YthjimogeimigmaaDoor
