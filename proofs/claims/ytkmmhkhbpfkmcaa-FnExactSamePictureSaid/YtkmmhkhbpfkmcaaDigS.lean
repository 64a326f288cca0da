/- The contract of l01Digit of spec. -/
import Derived.Test.YtkmmhkhbpfkmcaaProg
import Derived.Test.YtkmmhkhbpfkmcaaK1
namespace Go.Proofs.Ytkmmhkhbpfkmcaa
open Go.ChangeShapes Go.WideShapes Go.ChangeAt Go.RowKit

end Go.Proofs.Ytkmmhkhbpfkmcaa
