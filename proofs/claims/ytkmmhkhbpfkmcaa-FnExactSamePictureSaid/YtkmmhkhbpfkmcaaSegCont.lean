/- Segments of impl over valid points: contains, divides, crosses, distances. -/
import Derived.Test.YtkmmhkhbpfkmcaaK1
import Derived.Test.YtkmmhkhbpfkmcaaPlan
import Derived.Test.YtkmmhkhbpfkmcaaRootImpl
namespace Go.Proofs.Ytkmmhkhbpfkmcaa
open Go.ChangeShapes Go.WideShapes Go.ChangeAt Go.RowKit

end Go.Proofs.Ytkmmhkhbpfkmcaa
