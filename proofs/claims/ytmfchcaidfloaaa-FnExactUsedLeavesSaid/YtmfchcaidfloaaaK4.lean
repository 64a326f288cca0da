/- Several texts in one: PolyOk, PolyImpl, Edges. -/
import Derived.Test.YtmfchcaidfloaaaK1
import Derived.Test.YtmfchcaidfloaaaSegCont
import Derived.Test.YtmfchcaidfloaaaPlan
import Derived.RangeFuncBox
import Derived.RangeFuncLeaves
import Derived.RangeFuncCalls
import Derived.RangeFuncNested
import Derived.Shelf.Abstract
import Derived.WalkKit
import Derived.TacticsInMore
import Derived.LoopNIn
import Derived.LoopIn
namespace Go.Proofs.Ytmfchcaidfloaaa
open Go.ChangeShapes Go.WideShapes Go.ChangeAt Go.RowKit
set_option linter.unusedVariables false

theorem mod_tm (k c n : Nat) (hn : 0 < n) : ((k : Int) + (c : Int)).tmod (n : Int) = (((k + c) % n : Nat) : Int) := by
  rw [Int.tmod_eq_emod_of_nonneg (by omega)]; simp
theorem three_boxes (w : World) (a0 a1 b0 b1 c0 c1 : Value) (T : TypeId) (w' : World) (h : Below (((w.alloc (.cells #[a0, a1] T)).alloc (.cells #[b0, b1] T)).alloc (.cells #[c0, c1] T)).heap.size (((w.alloc (.cells #[a0, a1] T)).alloc (.cells #[b0, b1] T)).alloc (.cells #[c0, c1] T)) w') :
    w'.cell? ⟨w.heap.size, 0, none⟩ = some a0 ∧ w'.cell? ⟨w.heap.size, 1, none⟩ = some a1 ∧ w'.cell? ⟨w.heap.size + 1, 0, none⟩ = some b0 ∧ w'.cell? ⟨w.heap.size + 1, 1, none⟩ = some b1 ∧ w.heap.size + 2 < w'.heap.size := by
  obtain ⟨hc, hf⟩ := bcell h
  refine ⟨?_, ?_, ?_, ?_, ?_⟩
  · rw [hc _ _ (by simp <;> omega)]; go_simp
  · rw [hc _ _ (by simp <;> omega)]; go_simp
  · rw [hc _ _ (by simp <;> omega)]; go_simp
  · rw [hc _ _ (by simp <;> omega)]; go_simp
  · have := h.size; simp at this; omega
/-- What the outer loop has seen. -/
def SeenTo (zs : List P2) (i : Nat) : Prop := allTo (goOk zs) i = true ∧ allTo (fun i => allTo (cellOk zs i) zs.length) i = true
theorem cell_skip {zs : List P2} {i k : Nat} (h : (k + 1) % zs.length = i) : cellOk zs i k = true := by
  unfold cellOk
  rw [show decide ((k + 1) % zs.length ≠ i) = false by simp [h]]; simp
theorem allTo_succ {f : Nat → Bool} {k : Nat} (h : allTo f k = true) (hk : f k = true) : allTo f (k + 1) = true := by
  show (allTo f k && f k) = true
  rw [h, hk]; rfl
theorem seen_succ {zs : List P2} {i k : Nat} (h : SeenTo zs i) (hg : goOk zs i = true) (hk : zs.length ≤ k) (hc : allTo (cellOk zs i) k = true) : SeenTo zs (i + 1) :=
  ⟨allTo_succ h.1 hg, allTo_succ h.2 (allTo_ok fun j hj => (allTo_iff _ _).1 hc j (by omega))⟩
theorem seen_bad_go {zs : List P2} {i : Nat} (hi : i < zs.length) (h : goOk zs i = false) : polyB zs = false := by
  unfold polyB
  rw [show goB zs = false from allTo_bad hi h]
  simp
theorem seen_bad_cell {zs : List P2} {i k : Nat} (hi : i < zs.length) (hk : k < zs.length) (h : cellOk zs i k = false) : polyB zs = false := by
  unfold polyB
  rw [show apB zs = false from allTo_bad hi (allTo_bad hk h)]
  simp
theorem cell_low {zs : List P2} {i k : Nat} (h : k < i + 2) : cellOk zs i k = true := by
  unfold cellOk
  rw [decide_eq_false (by omega)]; rfl
theorem cells_low {zs : List P2} {i k : Nat} (h : k ≤ i + 2) : allTo (cellOk zs i) k = true := allTo_ok fun j hj => cell_low (by omega)
theorem seen_all {zs : List P2} (h3 : 3 ≤ zs.length) (h4 : zs.length ≤ 24) (hv : allOk zs = true) {i : Nat} (hi : zs.length ≤ i) (h : SeenTo zs i) : polyB zs = decide (0 < areaI zs) := by
  have e1 : goB zs = true := allTo_ok fun j hj => (allTo_iff _ _).1 h.1 j (by omega)
  have e2 : apB zs = true := allTo_ok fun j hj => (allTo_iff _ _).1 h.2 j (by omega)
  rw [poly_of h3 h4 hv, e1, e2]; rfl
theorem go_val (zs : List P2) (k : Nat) (hk : k < zs.length) (x y u v s t : Int) (h0 : zs.getD k (0, 0) = (x, y)) (h1 : zs.getD ((k + 1) % zs.length) (0, 0) = (u, v)) (h2 : zs.getD ((k + 2) % zs.length) (0, 0) = (s, t)) :
    goOk zs k = !((decide (x = u) && decide (y = v)) || onB x y u v s t || onB u v s t x y) := by
  unfold goOk
  rw [pt_lt hk, h0, pt, h1, pt, h2]; rfl
theorem cell_val (zs : List P2) (i k : Nat) (hi : i < zs.length) (hk : k < zs.length) (hik : i + 2 ≤ k) (x y u v s t p q : Int) (h0 : zs.getD i (0, 0) = (x, y)) (h1 : zs.getD ((i + 1) % zs.length) (0, 0) = (u, v)) (h2 : zs.getD k (0, 0) = (s, t)) (h3 : zs.getD ((k + 1) % zs.length) (0, 0) = (p, q)) :
    cellOk zs i k = !(decide ((k + 1) % zs.length ≠ i) && tcB x y u v s t p q) := by
  unfold cellOk
  rw [pt_lt hi, h0, pt, h1, pt_lt hk, h2, pt, h3, decide_eq_true hik]; rfl
end Go.Proofs.Ytmfchcaidfloaaa
namespace Go.Proofs.Ytmfchcaidfloaaa
open Go.ChangeShapes Go.WideShapes Go.ChangeAt Go.RowKit
set_option linter.unusedVariables false

theorem pt_add (zs : List P2) (k : Nat) : pt zs (k % zs.length) = pt zs k := by simp [pt]
theorem go_val2 (zs : List P2) (k : Nat) (x y u v s t : Int) (h0 : pt zs k = (x, y)) (h1 : pt zs (k + 1) = (u, v)) (h2 : pt zs (k + 2) = (s, t)) :
    goOk zs k = !((decide (x = u) && decide (y = v)) || onB x y u v s t || onB u v s t x y) := by
  unfold goOk
  rw [h0, h1, h2]; rfl
theorem goB_bad {zs : List P2} {k : Nat} (hk : k < zs.length) (h : goOk zs k = false) : goB zs = false := allTo_bad hk h
theorem pt_eta (zs : List P2) (k : Nat) : ∃ x y, pt zs k = (x, y) := ⟨_, _, rfl⟩
theorem grow3 {w wr w3 w4 : World} {o1 o2 o3 : Obj} (hb : Below w.heap.size w wr) (h3 : Below wr.heap.size wr w3) (h4 : Below (((w3.alloc o1).alloc o2).alloc o3).heap.size (((w3.alloc o1).alloc o2).alloc o3) w4) : Below w.heap.size w w4 :=
  bseq (bseq hb h3) (bseq (three_allocs _ _ _) h4)
end Go.Proofs.Ytmfchcaidfloaaa
namespace Go.Proofs.Ytmfchcaidfloaaa
attribute [local go_sem] Oper.semAt_some
open Go.Shelf Go.ChangeShapes Go.WideShapes Go.ChangeAt Go.RowKit
set_option linter.unusedVariables false

/-- The edge with a number, as a value. -/
def segV (zs : List P2) (k : Nat) : Value := .agg #[.int .i64 (pt zs k).1, .int .i64 (pt zs k).2, .int .i64 (pt zs (k + 1)).1, .int .i64 (pt zs (k + 1)).2]
theorem grown_none {w w' : World} (h : Below w.heap.size w w') : w.grownBy w' none := ⟨h.os, h.tape, h.output, h.size, fun k hk _ => h.block k hk⟩
theorem range_snoc (k : Nat) : List.range (k + 1) = List.range k ++ [k] := by simp [List.range_succ]
theorem below_low {B : Nat} {w w' : World} (h : Below w.heap.size w w') (hB : B ≤ w.heap.size) : Below B w w' := h.mono hB

/-- The two blocks that the iterator reads, its variable and the points, are as they were. -/
structure Keep2 (b B : Nat) (W W' : World) : Prop where
  size : W.heap.size ≤ W'.heap.size
  pts : W'.heap[b]? = W.heap[b]?
  var : W'.heap[B]? = W.heap[B]?
theorem Keep2.refl (b B : Nat) (W : World) : Keep2 b B W W := ⟨Nat.le_refl _, rfl, rfl⟩
theorem Keep2.trans {b B : Nat} {W W1 W2 : World} (h : Keep2 b B W W1) (k : Keep2 b B W1 W2) : Keep2 b B W W2 := ⟨Nat.le_trans h.size k.size, k.pts.trans h.pts, k.var.trans h.var⟩
theorem Keep2.of_below {n0 b B : Nat} {W W1 : World} (h : Below n0 W W1) (hb : b < n0) (hB : B < n0) : Keep2 b B W W1 := ⟨h.size, h.block _ hb, h.block _ hB⟩
theorem Keep2.putObj {b B : Nat} {w : World} (hb : b < w.heap.size) (hB : B < w.heap.size) (W : World) (l : Nat) (o' : Obj) (hl : w.heap.size ≤ l) : Keep2 b B W (W.putObj l o') :=
  ⟨by simp [World.putObj], World.putObj_heap_other (by omega), World.putObj_heap_other (by omega)⟩
theorem Keep2.setCell {b B : Nat} {W : World} {p : Addr} (hb : p.block ≠ b) (hB : p.block ≠ B) (v : Value) : Keep2 b B W (W.setCell p v) :=
  ⟨by simp [World.setCell], Below.heap_setCell _ _ _ _ (by omega), Below.heap_setCell _ _ _ _ (by omega)⟩
theorem PtsAt.keep {b B : Nat} {W W' : World} {zs : List P2} (h : PtsAt W b zs) (hk : Keep2 b B W W') : PtsAt W' b zs :=
  ⟨Nat.lt_of_lt_of_le h.1 hk.size, fun j hj => ⟨(World.cell?_of_block (w := W) (a := ⟨b, j * 2, none⟩) hk.pts).trans (h.2 j hj).1, (World.cell?_of_block (w := W) (a := ⟨b, j * 2 + 1, none⟩) hk.pts).trans (h.2 j hj).2⟩⟩

theorem abides_mono {β : Type} {B B2 : Nat} {J : β → World → Prop} (h : AbidesFrom B J) (hB : B ≤ B2) : AbidesFrom B2 J := fun s W W' row hs hg hr => h s W W' row hs hg (fun r e => ⟨Nat.le_trans hB (hr r e).1, (hr r e).2⟩)
end Go.Proofs.Ytmfchcaidfloaaa
