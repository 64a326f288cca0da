/- A face by its name: spec and impl. -/
import Derived.Test.YthflkkkpggaalaaDrw13
import Derived.Test.YthflkkkpggaalaaK5
namespace Go.Proofs.Ythflkkkpggaalaa
open Seq2 Go.ChangeShapes Go.WideShapes Go.ChangeAt Go.RowKit
set_option linter.unusedVariables false
set_option linter.unusedSimpArgs false

/-- Has the face this name? -/
def nmF (fs : List Fc) (nm : ByteArray) (j : Nat) : Bool := (fs.getD j fc0).1.toList == nm.toList
def namR (D : Drw) (nm : ByteArray) : Int × Int := if drB D then (if 0 ≤ firstIx (nmF D.fs nm) D.fs.length then (firstIx (nmF D.fs nm) D.fs.length, 0) else (0, 3)) else (0, 1)
theorem ret_2i {a b c d : Int} (h : (a, b) = (c, d)) : Ending.returned (.tuple #[.int .i64 a, .int .i64 b]) = .returned (.tuple #[.int .i64 c, .int .i64 d]) := by cases h; rfl
def ixR (x : Int) : Int × Int := if 0 ≤ x then (x, 0) else (0, 3)
end Go.Proofs.Ythflkkkpggaalaa
