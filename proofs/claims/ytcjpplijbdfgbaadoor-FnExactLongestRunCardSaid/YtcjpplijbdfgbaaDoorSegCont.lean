/- Segments of impl over valid points: contains, divides, crosses, distances. -/
import Derived.Test.YtcjpplijbdfgbaaDoorK1
import Derived.Test.YtcjpplijbdfgbaaDoorPlan
import Derived.Test.YtcjpplijbdfgbaaDoorRootImpl
namespace Go.Proofs.YtcjpplijbdfgbaaDoor
open Go.ChangeShapes Go.WideShapes Go.ChangeAt Go.RowKit

end Go.Proofs.YtcjpplijbdfgbaaDoor
