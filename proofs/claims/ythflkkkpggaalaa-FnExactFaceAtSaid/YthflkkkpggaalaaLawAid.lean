/- Blocks that a law keeps; equal points. -/
import Derived.Test.YthflkkkpggaalaaK5
namespace Go.Proofs.Ythflkkkpggaalaa
open Go.ChangeShapes Go.WideShapes Go.ChangeAt Go.RowKit

/-- Block b holds o. -/
def At (w : World) (b : Nat) (o : Obj) : Prop := w.heap[b]? = some o
theorem At.below {w w' : World} {b : Nat} {o : Obj} (h : At w b o) (hb : Below w.heap.size w w') : At w' b o := (hb.block b (Array.getElem?_eq_some_iff.1 h).1).trans h
theorem At.new (w : World) (o : Obj) : At (w.alloc o) w.heap.size o := World.alloc_heap_new w o
theorem eqPt_same (x y : Int) (w : World) : Calls Try.prog 57 #[.agg #[.int .i64 x, .int .i64 y], .agg #[.int .i64 x, .int .i64 y]] w fun e w' => e = .returned (.bool true) ∧ Below w.heap.size w w' := by
  have h := eqPt_any x y x y w
  simpa using h
end Go.Proofs.Ythflkkkpggaalaa
