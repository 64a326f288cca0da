/- Do two boxes meet: spec and impl. -/
import Derived.Test.YtcjpplijbdfgbaaDoorK19
import Derived.Test.YtcjpplijbdfgbaaDoorFlBox
namespace Go.Proofs.YtcjpplijbdfgbaaDoor
open Seq2 Go.ChangeShapes Go.WideShapes Go.ChangeAt Go.RowKit
set_option linter.unusedVariables false
set_option linter.unusedSimpArgs false

def bmB (z z' : Bx) : Bool := boxW z 20000 20000 && (boxW z' 20000 20000 && metB z z')
set_option maxRecDepth 100000 in
theorem BxAt.box (w : World) (x y a b : Int) (t : TypeId) : BxAt (w.alloc (.cells #[.int .i64 x, .int .i64 y, .int .i64 a, .int .i64 b] t)) w.heap.size 0 (x, y, a, b) := by
  have h := World.alloc_heap_new w (.cells #[.int .i64 x, .int .i64 y, .int .i64 a, .int .i64 b] t)
  obtain ⟨c0, _, c1, _, c2, _, c3, _⟩ := cells4_of h
  exact ⟨blk_lt h, c0, c1, c2, c3⟩
set_option maxRecDepth 100000 in
/-- A box that came in. -/
theorem open_Bx {H : Type} {enc : TypeId × Value → H} {W : World} {base : Nat} {v : Value} {d : DataW H} {p : List MemPlace} (hval : Value.okWide Tryd.prog W .any base 28 v)
    (h : DataW.Trod enc Tryd.prog W 0 (fun _ => true) true 28 v d p) : ∃ x y a b : Int, v = .agg #[.int .i64 x, .int .i64 y, .int .i64 a, .int .i64 b] := by
  obtain ⟨cs, rfl, hcs⟩ := okWide_struct Tryd.underlying28 hval
  obtain ⟨fuel, hf0⟩ := h
  obtain ⟨l, rfl⟩ : ∃ l : List Value, cs = l.toArray := ⟨cs.toList, by simp⟩
  obtain ⟨z, e⟩ := Bx_cells hf0
  have e' : l = [.int .i64 z.1, .int .i64 z.2.1, .int .i64 z.2.2.1, .int .i64 z.2.2.2] := by simpa [Value.cells] using e
  subst e'
  exact ⟨_, _, _, _, rfl⟩
end Go.Proofs.YtcjpplijbdfgbaaDoor
