/- Several texts in one: PolyF1, PolyF2, PolyF3, PolyF4, PolyF5. -/
import Derived.Test.YthflkkkpggaalaaK5
import Derived.Test.YthflkkkpggaalaaSegFar
import Derived.Test.YthflkkkpggaalaaK1
namespace Go.Proofs.Ythflkkkpggaalaa
attribute [local go_sem] Oper.semAt_some
open Go.Shelf Go.ChangeShapes Go.WideShapes Go.ChangeAt Go.RowKit
set_option linter.unusedVariables false

def lenF (zs : List P2) (k : Nat) : Int := rootI (sqI (pt zs k).1 (pt zs k).2 (pt zs (k + 1)).1 (pt zs (k + 1)).2)
def lenI (zs : List P2) : Int := sumTo (lenF zs) zs.length
theorem root_le (n : Int) (h : n ≤ 800000000) : 0 ≤ rootI n ∧ rootI n ≤ 30000 := by
  unfold rootI
  have h1 := (natRoot_spec n.toNat).1
  refine ⟨by omega, ?_⟩
  have h2 : natRoot n.toNat ≤ 30000 := by
    rcases Nat.lt_or_ge 30000 (natRoot n.toNat) with h3 | h3
    · have := sq_lt h3; omega
    · exact h3
  omega
theorem lenF_bd {zs : List P2} (h : allOk zs = true) (h0 : 0 < zs.length) (k : Nat) : -30000 ≤ lenF zs k ∧ lenF zs k ≤ 30000 := by
  have h1 := sq_rng _ _ _ _ (pt_ok h h0 k) (pt_ok h h0 (k + 1))
  have h2 := root_le (sqI (pt zs k).1 (pt zs k).2 (pt zs (k + 1)).1 (pt zs (k + 1)).2) (by omega)
  unfold lenF
  omega
theorem len_step (zs : List P2) (k : Nat) (x y u v : Int) (hk : k < zs.length) (h1 : zs.getD k (0, 0) = (x, y)) (h2 : zs.getD ((k + 1) % zs.length) (0, 0) = (u, v)) :
    sumTo (lenF zs) k + rootI (sqI x y u v) = sumTo (lenF zs) (k + 1) := by
  show _ = sumTo _ k + lenF zs k
  unfold lenF
  rw [pt_lt hk, h1, pt, h2]
end Go.Proofs.Ythflkkkpggaalaa
namespace Go.Proofs.Ythflkkkpggaalaa
open Go.ChangeShapes Go.WideShapes Go.ChangeAt Go.RowKit
set_option linter.unusedVariables false

def cvF (zs : List P2) (k : Nat) : Bool := !decide (sdI (pt zs k).1 (pt zs k).2 (pt zs (k + 1)).1 (pt zs (k + 1)).2 (pt zs (k + 2)).1 (pt zs (k + 2)).2 < 0)
def cvB (zs : List P2) : Bool := allTo (cvF zs) zs.length
theorem cv_bad {zs : List P2} {k : Nat} (hk : k < zs.length) (h : cvF zs k = false) : cvB zs = false := allTo_bad hk h
theorem pt_at (zs : List P2) (k c : Nat) : pt zs (k + c) = zs.getD ((k + c) % zs.length) (0, 0) := rfl
theorem two_bools {a b : Bool} (h : a = b) : Ending.returned (.bool a) = .returned (.bool b) := by rw [h]
end Go.Proofs.Ythflkkkpggaalaa
namespace Go.Proofs.Ythflkkkpggaalaa
open Go.ChangeShapes Go.WideShapes Go.ChangeAt Go.RowKit
set_option linter.unusedVariables false

def minF (f : Nat → Int) : Nat → Int
  | 0 => f 0
  | k + 1 => min (minF f k) (f k)
def maxF (f : Nat → Int) : Nat → Int
  | 0 => f 0
  | k + 1 => max (maxF f k) (f k)
def pX (zs : List P2) (k : Nat) : Int := (zs.getD k (0, 0)).1
def pY (zs : List P2) (k : Nat) : Int := (zs.getD k (0, 0)).2
theorem minF_one (f : Nat → Int) : minF f 1 = f 0 := by show min (f 0) (f 0) = f 0; omega
theorem maxF_one (f : Nat → Int) : maxF f 1 = f 0 := by show max (f 0) (f 0) = f 0; omega
/-- Two results and two variables of a call that has begun in w: blocks of two numbers each. -/
structure BB (w wr : World) (T : TypeId) (a0 a1 b0 b1 : Int) : Prop where
  below : Below w.heap.size w wr
  r0 : wr.heap[w.heap.size]? = some (.cells #[.int .i64 0, .int .i64 0] T (0, 0))
  r1 : wr.heap[w.heap.size + 1]? = some (.cells #[.int .i64 0, .int .i64 0] T (0, 0))
  lo : wr.heap[w.heap.size + 1 + 1]? = some (.cells #[.int .i64 a0, .int .i64 a1] T (0, 0))
  hi : wr.heap[w.heap.size + 1 + 1 + 1]? = some (.cells #[.int .i64 b0, .int .i64 b1] T (0, 0))
theorem heap_lt {w : World} {b : Nat} {o : Obj} (h : w.heap[b]? = some o) : b < w.heap.size := (Array.getElem?_eq_some_iff.1 h).1
theorem BB.after {w wr w2 : World} {T : TypeId} {a0 a1 b0 b1 : Int} (h : BB w wr T a0 a1 b0 b1) (hb : Below wr.heap.size wr w2) : BB w w2 T a0 a1 b0 b1 :=
  ⟨bseq h.below hb, (hb.block _ (heap_lt h.r0)).trans h.r0, (hb.block _ (heap_lt h.r1)).trans h.r1, (hb.block _ (heap_lt h.lo)).trans h.lo, (hb.block _ (heap_lt h.hi)).trans h.hi⟩
theorem other_block {w : World} {b c off : Nat} {v : Value} (h : c ≠ b) : (w.setCell ⟨b, off, none⟩ v).heap[c]? = w.heap[c]? := Below.heap_setCell _ _ _ _ h
theorem BB.lo0 {w wr : World} {T : TypeId} {a0 a1 b0 b1 : Int} (h : BB w wr T a0 a1 b0 b1) (x : Int) : BB w (wr.setCell ⟨w.heap.size + 1 + 1, 0, none⟩ (.int .i64 x)) T x a1 b0 b1 :=
  ⟨h.below.setCell (by show w.heap.size ≤ w.heap.size + 1 + 1; omega) _, (other_block (by omega)).trans h.r0, (other_block (by omega)).trans h.r1, by rw [heap_setCell_same _ _ 0 _ _ _ h.lo]; simp, (other_block (by omega)).trans h.hi⟩
theorem BB.lo1 {w wr : World} {T : TypeId} {a0 a1 b0 b1 : Int} (h : BB w wr T a0 a1 b0 b1) (x : Int) : BB w (wr.setCell ⟨w.heap.size + 1 + 1, 1, none⟩ (.int .i64 x)) T a0 x b0 b1 :=
  ⟨h.below.setCell (by show w.heap.size ≤ w.heap.size + 1 + 1; omega) _, (other_block (by omega)).trans h.r0, (other_block (by omega)).trans h.r1, by rw [heap_setCell_same _ _ 1 _ _ _ h.lo]; simp, (other_block (by omega)).trans h.hi⟩
theorem BB.hi0 {w wr : World} {T : TypeId} {a0 a1 b0 b1 : Int} (h : BB w wr T a0 a1 b0 b1) (x : Int) : BB w (wr.setCell ⟨w.heap.size + 1 + 1 + 1, 0, none⟩ (.int .i64 x)) T a0 a1 x b1 :=
  ⟨h.below.setCell (by show w.heap.size ≤ w.heap.size + 1 + 1 + 1; omega) _, (other_block (by omega)).trans h.r0, (other_block (by omega)).trans h.r1, (other_block (by omega)).trans h.lo, by rw [heap_setCell_same _ _ 0 _ _ _ h.hi]; simp⟩
theorem BB.hi1 {w wr : World} {T : TypeId} {a0 a1 b0 b1 : Int} (h : BB w wr T a0 a1 b0 b1) (x : Int) : BB w (wr.setCell ⟨w.heap.size + 1 + 1 + 1, 1, none⟩ (.int .i64 x)) T a0 a1 b0 x :=
  ⟨h.below.setCell (by show w.heap.size ≤ w.heap.size + 1 + 1 + 1; omega) _, (other_block (by omega)).trans h.r0, (other_block (by omega)).trans h.r1, (other_block (by omega)).trans h.lo, by rw [heap_setCell_same _ _ 1 _ _ _ h.hi]; simp⟩
theorem BB.cells {w wr : World} {T : TypeId} {a0 a1 b0 b1 : Int} (h : BB w wr T a0 a1 b0 b1) :
    (wr.cell? ⟨w.heap.size + 1 + 1, 0, none⟩ = some (.int .i64 a0) ∧ wr.frozen? ⟨w.heap.size + 1 + 1, 0, none⟩ = false ∧ wr.cell? ⟨w.heap.size + 1 + 1, 1, none⟩ = some (.int .i64 a1) ∧ wr.frozen? ⟨w.heap.size + 1 + 1, 1, none⟩ = false) ∧
    (wr.cell? ⟨w.heap.size + 1 + 1 + 1, 0, none⟩ = some (.int .i64 b0) ∧ wr.frozen? ⟨w.heap.size + 1 + 1 + 1, 0, none⟩ = false ∧ wr.cell? ⟨w.heap.size + 1 + 1 + 1, 1, none⟩ = some (.int .i64 b1) ∧ wr.frozen? ⟨w.heap.size + 1 + 1 + 1, 1, none⟩ = false) ∧ w.heap.size + 1 + 1 < wr.heap.size ∧ w.heap.size + 1 + 1 + 1 < wr.heap.size :=
  ⟨cells2_of h.lo, cells2_of h.hi, heap_lt h.lo, heap_lt h.hi⟩
theorem BB.start (w : World) (T : TypeId) (a0 a1 b0 b1 : Int) : BB w ((((w.alloc (.cells #[.int .i64 0, .int .i64 0] T)).alloc (.cells #[.int .i64 0, .int .i64 0] T)).alloc (.cells #[.int .i64 a0, .int .i64 a1] T)).alloc (.cells #[.int .i64 b0, .int .i64 b1] T)) T a0 a1 b0 b1 := by
  have n0 := World.alloc_heap_new w (.cells #[.int .i64 0, .int .i64 0] T)
  have n1 := World.alloc_heap_new (w.alloc (.cells #[.int .i64 0, .int .i64 0] T)) (.cells #[.int .i64 0, .int .i64 0] T)
  have n2 := World.alloc_heap_new ((w.alloc (.cells #[.int .i64 0, .int .i64 0] T)).alloc (.cells #[.int .i64 0, .int .i64 0] T)) (.cells #[.int .i64 a0, .int .i64 a1] T)
  have n3 := World.alloc_heap_new (((w.alloc (.cells #[.int .i64 0, .int .i64 0] T)).alloc (.cells #[.int .i64 0, .int .i64 0] T)).alloc (.cells #[.int .i64 a0, .int .i64 a1] T)) (.cells #[.int .i64 b0, .int .i64 b1] T)
  simp only [World.size_alloc] at n1 n2 n3
  exact ⟨four_allocs _ _ _ _, (Below.heap_alloc _ _ _ (by simp; omega)).trans ((Below.heap_alloc _ _ _ (by simp; omega)).trans ((Below.heap_alloc _ _ _ (by simp)).trans n0)),
    (Below.heap_alloc _ _ _ (by simp <;> omega)).trans ((Below.heap_alloc _ _ _ (by simp)).trans n1), (Below.heap_alloc _ _ _ (by simp)).trans n2, n3⟩
theorem es_one : ∀ (es : List Made), es.Pairwise (fun x y => x.key ≠ y.key ∧ x.blk ≠ y.blk) → ∀ x y, x ∈ es → y ∈ es → (x.key = y.key ∨ x.blk = y.blk) → x = y
  | [], _, _, _, h, _, _ => by cases h
  | e :: es, hp, x, y, hx, hy, h => by
    obtain ⟨h1, h2⟩ := List.pairwise_cons.1 hp
    rcases List.mem_cons.1 hx with e1 | hx' <;> rcases List.mem_cons.1 hy with e2 | hy'
    · rw [e1, e2]
    · subst e1; exact absurd h (by have := h1 y hy'; omega)
    · subst e2; exact absurd h (by have := h1 x hx'; omega)
    · exact es_one es h2 x y hx' hy' h
def BndPost (zs : List P2) (w : World) (e : Ending) (w' : World) : Prop := e = .returned (.tuple #[.agg #[.int .i64 (minF (pX zs) zs.length), .int .i64 (minF (pY zs) zs.length)], .agg #[.int .i64 (maxF (pX zs) zs.length), .int .i64 (maxF (pY zs) zs.length)]]) ∧ Below w.heap.size w w'
end Go.Proofs.Ythflkkkpggaalaa
namespace Go.Proofs.Ythflkkkpggaalaa
open Go.ChangeShapes Go.WideShapes Go.ChangeAt Go.RowKit
set_option linter.unusedVariables false

/-- Two variables of a call that has begun in w. -/
structure B2 (w wr : World) (T : TypeId) (a0 a1 b0 b1 : Int) : Prop where
  below : Below w.heap.size w wr
  lo : wr.heap[w.heap.size]? = some (.cells #[.int .i64 a0, .int .i64 a1] T (0, 0))
  hi : wr.heap[w.heap.size + 1]? = some (.cells #[.int .i64 b0, .int .i64 b1] T (0, 0))
theorem B2.after {w wr w2 : World} {T : TypeId} {a0 a1 b0 b1 : Int} (h : B2 w wr T a0 a1 b0 b1) (hb : Below wr.heap.size wr w2) : B2 w w2 T a0 a1 b0 b1 :=
  ⟨bseq h.below hb, (hb.block _ (heap_lt h.lo)).trans h.lo, (hb.block _ (heap_lt h.hi)).trans h.hi⟩
theorem B2.setLo {w wr : World} {T : TypeId} {a0 a1 b0 b1 : Int} (h : B2 w wr T a0 a1 b0 b1) (x y : Int) : B2 w ((wr.setCell ⟨w.heap.size, 0, none⟩ (.int .i64 x)).setCell ⟨w.heap.size, 1, none⟩ (.int .i64 y)) T x y b0 b1 :=
  ⟨(h.below.setCell (Nat.le_refl _) _).setCell (Nat.le_refl _) _, by rw [heap_setCell_same _ _ 1 _ _ _ (heap_setCell_same _ _ 0 _ _ _ h.lo)]; simp, (other_block (by omega)).trans ((other_block (by omega)).trans h.hi)⟩
theorem B2.setHi {w wr : World} {T : TypeId} {a0 a1 b0 b1 : Int} (h : B2 w wr T a0 a1 b0 b1) (x y : Int) : B2 w ((wr.setCell ⟨w.heap.size + 1, 0, none⟩ (.int .i64 x)).setCell ⟨w.heap.size + 1, 1, none⟩ (.int .i64 y)) T a0 a1 x y :=
  ⟨(h.below.setCell (by show w.heap.size ≤ w.heap.size + 1; omega) _).setCell (by show w.heap.size ≤ w.heap.size + 1; omega) _, (other_block (by omega)).trans ((other_block (by omega)).trans h.lo), by rw [heap_setCell_same _ _ 1 _ _ _ (heap_setCell_same _ _ 0 _ _ _ h.hi)]; simp⟩
theorem two_new (w : World) (o1 o2 : Obj) : ((w.alloc o1).alloc o2).heap[w.heap.size]? = some o1 ∧ ((w.alloc o1).alloc o2).heap[w.heap.size + 1]? = some o2 := by
  have n0 := World.alloc_heap_new w o1
  have n1 := World.alloc_heap_new (w.alloc o1) o2
  simp only [World.size_alloc] at n1
  exact ⟨(Below.heap_alloc _ _ _ (by simp)).trans n0, n1⟩
end Go.Proofs.Ythflkkkpggaalaa
namespace Go.Proofs.Ythflkkkpggaalaa
open Go.ChangeShapes Go.WideShapes Go.ChangeAt Go.RowKit
set_option linter.unusedVariables false

end Go.Proofs.Ythflkkkpggaalaa
