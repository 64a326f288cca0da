/- Segments of impl over valid points: contains, divides, crosses, distances. -/
import Derived.Test.YthocpiklbcahgaaDoorK1
import Derived.Test.YthocpiklbcahgaaDoorPlan
import Derived.Test.YthocpiklbcahgaaDoorRootImpl
namespace Go.Proofs.YthocpiklbcahgaaDoor
open Go.ChangeShapes Go.WideShapes Go.ChangeAt Go.RowKit

end Go.Proofs.YthocpiklbcahgaaDoor
