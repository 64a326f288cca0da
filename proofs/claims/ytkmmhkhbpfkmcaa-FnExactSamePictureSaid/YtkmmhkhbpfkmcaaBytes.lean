/- Contracts of the small byte tests of impl and spec (small letter, digit), at every argument. -/
import Derived.Test.YtkmmhkhbpfkmcaaProg
import Derived.Test.YtkmmhkhbpfkmcaaK1
import Derived.Test.YtkmmhkhbpfkmcaaDigS
namespace Go.Proofs.Ytkmmhkhbpfkmcaa
open Go.ChangeShapes Go.WideShapes Go.ChangeAt Go.RowKit

end Go.Proofs.Ytkmmhkhbpfkmcaa
