/- Segments of impl over valid points: contains, divides, crosses, distances. -/
import Derived.Test.YtonpenccppcgjaaDoorK1
import Derived.Test.YtonpenccppcgjaaDoorPlan
import Derived.Test.YtonpenccppcgjaaDoorRootImpl
namespace Go.Proofs.YtonpenccppcgjaaDoor
open Go.ChangeShapes Go.WideShapes Go.ChangeAt Go.RowKit

end Go.Proofs.YtonpenccppcgjaaDoor
