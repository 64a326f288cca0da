/- Segments of impl over valid points: contains, divides, crosses, distances. -/
import Derived.Test.YtonpenccppcgjaaK1
import Derived.Test.YtonpenccppcgjaaPlan
import Derived.Test.YtonpenccppcgjaaRootImpl
namespace Go.Proofs.Ytonpenccppcgjaa
open Go.ChangeShapes Go.WideShapes Go.ChangeAt Go.RowKit

end Go.Proofs.Ytonpenccppcgjaa
