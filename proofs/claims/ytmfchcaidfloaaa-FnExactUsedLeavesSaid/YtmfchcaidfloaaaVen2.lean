/- A species by its name: spec's table of numbers, impl's search. -/
import Derived.Test.YtmfchcaidfloaaaVen1
namespace Go.Proofs.Ytmfchcaidfloaaa
open Seq2 Go.ChangeShapes Go.WideShapes Go.ChangeAt Go.RowKit
set_option linter.unusedVariables false
set_option linter.unusedSimpArgs false

theorem blk_lt3 {w : World} {b : Nat} {o : Obj} (h : w.heap[b]? = some o) : b < w.heap.size := (Array.getElem?_eq_some_iff.1 h).1
theorem new_at (w : World) (o : Obj) (i : Nat) (h : i = w.heap.size) : (w.alloc o).heap[i]? = some o := h ▸ World.alloc_heap_new w o
theorem old_at {w : World} {o : Obj} {i : Nat} {x : Option Obj} (h : i < w.heap.size) (k : w.heap[i]? = x) : (w.alloc o).heap[i]? = x := (Below.heap_alloc w o i h).trans k
/-- What impl answers for a name: the row, zeros where there is none. -/
def spV (k : Nat) : Array Value := #[.string (spN k), .int .i64 (spS k), .int .i64 (spH k), .int .i64 (spW k)]
def spB (nm : ByteArray) : Bool := decide (ixN nm < 10)
end Go.Proofs.Ytmfchcaidfloaaa
