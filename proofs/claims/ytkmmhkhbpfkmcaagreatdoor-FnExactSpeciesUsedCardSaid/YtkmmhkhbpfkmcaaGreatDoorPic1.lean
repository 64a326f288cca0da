/- Pictures that calls read: views, and what lies behind a pointer. -/
import Derived.Test.YtkmmhkhbpfkmcaaGreatDoorSbPicture
import Derived.Test.YtkmmhkhbpfkmcaaGreatDoorDrw7
namespace Go.Proofs.YtkmmhkhbpfkmcaaGreatDoor
open Seq2 Go.ChangeShapes Go.WideShapes Go.ChangeAt Go.RowKit
set_option linter.unusedVariables false
set_option linter.unusedSimpArgs false

/-- A block that begins with five values. -/
def W5 (w : World) (q : Nat) (c0 c1 c2 c3 c4 : Value) : Prop := ∃ cur t, w.heap[q]? = some (.cells cur t (0, 0)) ∧ cur[0]? = some c0 ∧ cur[1]? = some c1 ∧ cur[2]? = some c2 ∧ cur[3]? = some c3 ∧ cur[4]? = some c4
theorem W5.of {w : World} {q : Nat} {c0 c1 c2 c3 c4 : Value} {t : TypeId} (h : w.heap[q]? = some (.cells #[c0, c1, c2, c3, c4] t (0, 0))) : W5 w q c0 c1 c2 c3 c4 := ⟨_, t, h, rfl, rfl, rfl, rfl, rfl⟩
theorem W5.w4 {w : World} {q : Nat} {c0 c1 c2 c3 c4 : Value} (h : W5 w q c0 c1 c2 c3 c4) : W4 w q c0 c1 c2 c3 := by
  obtain ⟨cur, t, h, h0, h1, h2, h3, _⟩ := h
  exact ⟨cur, t, h, h0, h1, h2, h3⟩
theorem W5.lt {w : World} {q : Nat} {c0 c1 c2 c3 c4 : Value} (h : W5 w q c0 c1 c2 c3 c4) : q < w.heap.size := h.w4.lt
theorem W5.keep {w w' : World} {q : Nat} {c0 c1 c2 c3 c4 : Value} (h : W5 w q c0 c1 c2 c3 c4) (e : w'.heap[q]? = w.heap[q]?) : W5 w' q c0 c1 c2 c3 c4 := by
  obtain ⟨cur, t, h, h1⟩ := h
  exact ⟨cur, t, e.trans h, h1⟩
theorem W5.c4 {w : World} {q : Nat} {c0 c1 c2 c3 c4 : Value} (h : W5 w q c0 c1 c2 c3 c4) : w.cell? ⟨q, 4, none⟩ = some c4 := by
  obtain ⟨cur, t, h, _, _, _, _, h4⟩ := h
  exact (cell_of_arr h h4).1
/-- A picture that a pointer leads to: the first five cells of a block. -/
structure PcP (w : World) (q : Nat) (z : Pc) : Prop where
  out : ∃ ao bo n c m d eo k e, W5 w q (.int .i64 z.dr.wd) (.int .i64 z.dr.hg) (.slice ao n c) (.slice bo m d) (.slice eo k e) ∧ PcSz z ≤ 1048576 ∧ DV w (.agg #[.int .i64 z.dr.wd, .int .i64 z.dr.hg, .slice ao n c, .slice bo m d]) z.dr ∧ k ≤ 1048576 ∧ VnV w eo k z.vs
theorem PcP.below {w w' : World} {q : Nat} {z : Pc} (h : PcP w q z) (hb : Below w.heap.size w w') : PcP w' q z := by
  obtain ⟨ao, bo, n, c, m, d, eo, k, e, h1, hs, h2, h3, h4⟩ := h.out
  exact ⟨ao, bo, n, c, m, d, eo, k, e, h1.keep (hb.block q h1.lt), hs, h2.below hb, h3, h4.below hb⟩
theorem PcP.dp {w : World} {q : Nat} {z : Pc} (h : PcP w q z) : DP w q z.dr := by
  obtain ⟨ao, bo, n, c, m, d, eo, k, e, h1, _, h2, _⟩ := h.out
  obtain ⟨ao', n', c', bo', m', d', hv, r⟩ := h2.out
  cases hv
  exact ⟨_, _, _, _, _, _, h1.w4, r⟩
theorem PcV.box {w : World} {v : Value} {z : Pc} (h : PcV w v z) : ∃ c : Array Value, v = .agg c ∧ PcP (w.alloc (.cells c 37)) w.heap.size z := by
  obtain ⟨ao, bo, n, c, m, d, eo, k, e, rfl, hs, h2, h3, h4⟩ := h.out
  exact ⟨_, rfl, ao, bo, n, c, m, d, eo, k, e, W5.of (World.alloc_heap_new _ _), hs, h2.below (one_alloc _), h3, h4.below (one_alloc _)⟩
/-- The number of faces stands in the drawing. -/
theorem DV.faces {w : World} {x0 x1 : Value} {ao bo : Option Addr} {n c m d : Nat} {D : Drw} (h : DV w (.agg #[x0, x1, .slice ao n c, .slice bo m d]) D) : m = D.fs.length := by
  obtain ⟨_, _, _, _, _, _, hv, _, _, _, _, hf⟩ := h.out
  cases hv
  exact hf.1
end Go.Proofs.YtkmmhkhbpfkmcaaGreatDoor
