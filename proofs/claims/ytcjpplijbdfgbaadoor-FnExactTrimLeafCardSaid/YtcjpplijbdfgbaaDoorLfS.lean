/- A struct of nine cells: its cells, and all of them stored. -/
import Derived.Test.YtcjpplijbdfgbaaDoorK19
import Derived.Test.YtcjpplijbdfgbaaDoorFoBox
namespace Go.Proofs.YtcjpplijbdfgbaaDoor
open Go.ChangeShapes Go.WideShapes Go.ChangeAt Go.RowKit
set_option linter.unusedVariables false
set_option linter.unusedSimpArgs false

theorem cells9_of {w : World} {p : Nat} {c0 c1 c2 c3 c4 c5 c6 c7 c8 : Value} {t : TypeId} (h : w.heap[p]? = some (.cells #[c0, c1, c2, c3, c4, c5, c6, c7, c8] t (0, 0))) : p < w.heap.size ∧ w.cell? ⟨p, 0, none⟩ = some c0 ∧ w.frozen? ⟨p, 0, none⟩ = false ∧ w.cell? ⟨p, 1, none⟩ = some c1 ∧ w.frozen? ⟨p, 1, none⟩ = false ∧ w.cell? ⟨p, 2, none⟩ = some c2 ∧ w.frozen? ⟨p, 2, none⟩ = false ∧ w.cell? ⟨p, 3, none⟩ = some c3 ∧ w.frozen? ⟨p, 3, none⟩ = false ∧ w.cell? ⟨p, 4, none⟩ = some c4 ∧ w.frozen? ⟨p, 4, none⟩ = false ∧ w.cell? ⟨p, 5, none⟩ = some c5 ∧ w.frozen? ⟨p, 5, none⟩ = false ∧ w.cell? ⟨p, 6, none⟩ = some c6 ∧ w.frozen? ⟨p, 6, none⟩ = false ∧ w.cell? ⟨p, 7, none⟩ = some c7 ∧ w.frozen? ⟨p, 7, none⟩ = false ∧ w.cell? ⟨p, 8, none⟩ = some c8 ∧ w.frozen? ⟨p, 8, none⟩ = false := ⟨blk_lt h, (cell_of_arr h (j := 0) rfl).1, (cell_of_arr h (j := 0) rfl).2, (cell_of_arr h (j := 1) rfl).1, (cell_of_arr h (j := 1) rfl).2, (cell_of_arr h (j := 2) rfl).1, (cell_of_arr h (j := 2) rfl).2, (cell_of_arr h (j := 3) rfl).1, (cell_of_arr h (j := 3) rfl).2, (cell_of_arr h (j := 4) rfl).1, (cell_of_arr h (j := 4) rfl).2, (cell_of_arr h (j := 5) rfl).1, (cell_of_arr h (j := 5) rfl).2, (cell_of_arr h (j := 6) rfl).1, (cell_of_arr h (j := 6) rfl).2, (cell_of_arr h (j := 7) rfl).1, (cell_of_arr h (j := 7) rfl).2, (cell_of_arr h (j := 8) rfl).1, (cell_of_arr h (j := 8) rfl).2⟩
theorem st9 {w : World} {p : Nat} {c0 c1 c2 c3 c4 c5 c6 c7 c8 x0 x1 x2 x3 x4 x5 x6 x7 x8 : Value} {t : TypeId} (h : w.heap[p]? = some (.cells #[c0, c1, c2, c3, c4, c5, c6, c7, c8] t (0, 0))) : (((((((((w.setCell ⟨p, 0, none⟩ x0).setCell ⟨p, 1, none⟩ x1).setCell ⟨p, 2, none⟩ x2).setCell ⟨p, 3, none⟩ x3).setCell ⟨p, 4, none⟩ x4).setCell ⟨p, 5, none⟩ x5).setCell ⟨p, 6, none⟩ x6).setCell ⟨p, 7, none⟩ x7).setCell ⟨p, 8, none⟩ x8).heap[p]? = some (.cells #[x0, x1, x2, x3, x4, x5, x6, x7, x8] t (0, 0)) := by
  have h0 := heap_setCell_same _ p 0 _ _ x0 h
  have h1 := heap_setCell_same _ p 1 _ _ x1 h0
  have h2 := heap_setCell_same _ p 2 _ _ x2 h1
  have h3 := heap_setCell_same _ p 3 _ _ x3 h2
  have h4 := heap_setCell_same _ p 4 _ _ x4 h3
  have h5 := heap_setCell_same _ p 5 _ _ x5 h4
  have h6 := heap_setCell_same _ p 6 _ _ x6 h5
  have h7 := heap_setCell_same _ p 7 _ _ x7 h6
  have h8 := heap_setCell_same _ p 8 _ _ x8 h7
  rw [h8]
  simp
theorem bel9 {B : Nat} {w0 w : World} {p : Nat} {x0 x1 x2 x3 x4 x5 x6 x7 x8 : Value} (hb : Below B w0 w) (hp : B ≤ p) : Below B w0 (((((((((w.setCell ⟨p, 0, none⟩ x0).setCell ⟨p, 1, none⟩ x1).setCell ⟨p, 2, none⟩ x2).setCell ⟨p, 3, none⟩ x3).setCell ⟨p, 4, none⟩ x4).setCell ⟨p, 5, none⟩ x5).setCell ⟨p, 6, none⟩ x6).setCell ⟨p, 7, none⟩ x7).setCell ⟨p, 8, none⟩ x8) := (Below.setCell (Below.setCell (Below.setCell (Below.setCell (Below.setCell (Below.setCell (Below.setCell (Below.setCell (Below.setCell hb (p := ⟨p, 0, none⟩) hp x0) (p := ⟨p, 1, none⟩) hp x1) (p := ⟨p, 2, none⟩) hp x2) (p := ⟨p, 3, none⟩) hp x3) (p := ⟨p, 4, none⟩) hp x4) (p := ⟨p, 5, none⟩) hp x5) (p := ⟨p, 6, none⟩) hp x6) (p := ⟨p, 7, none⟩) hp x7) (p := ⟨p, 8, none⟩) hp x8)
theorem keep9 {w : World} {base e size n p : Nat} {v : Value} {xs : List Value} {x0 x1 x2 x3 x4 x5 x6 x7 x8 : Value} (h : w.ownsRow base e size v n xs) (hp : p < base) : (((((((((w.setCell ⟨p, 0, none⟩ x0).setCell ⟨p, 1, none⟩ x1).setCell ⟨p, 2, none⟩ x2).setCell ⟨p, 3, none⟩ x3).setCell ⟨p, 4, none⟩ x4).setCell ⟨p, 5, none⟩ x5).setCell ⟨p, 6, none⟩ x6).setCell ⟨p, 7, none⟩ x7).setCell ⟨p, 8, none⟩ x8).ownsRow base e size v n xs := (keep_set (keep_set (keep_set (keep_set (keep_set (keep_set (keep_set (keep_set (keep_set h ⟨p, 0, none⟩ x0 hp) ⟨p, 1, none⟩ x1 hp) ⟨p, 2, none⟩ x2 hp) ⟨p, 3, none⟩ x3 hp) ⟨p, 4, none⟩ x4 hp) ⟨p, 5, none⟩ x5 hp) ⟨p, 6, none⟩ x6 hp) ⟨p, 7, none⟩ x7 hp) ⟨p, 8, none⟩ x8 hp)
theorem bel_drew {B : Nat} {w0 w : World} (h : Below B w0 w) : Below B w0 w.drew := h.trans ⟨rfl, rfl, rfl, Nat.le_refl _, fun _ _ => rfl⟩
theorem heap_drew {w : World} {p : Nat} {o : Option Obj} (h : w.heap[p]? = o) : w.drew.heap[p]? = o := h
theorem own_drew {w : World} {base e size n : Nat} {v : Value} {xs : List Value} (h : w.ownsRow base e size v n xs) : w.drew.ownsRow base e size v n xs := h
theorem BxAt.ofBox (w : World) (x y a b : Int) (t : TypeId) : BxAt (w.alloc (.cells #[.int .i64 x, .int .i64 y, .int .i64 a, .int .i64 b] t)) w.heap.size 0 (x, y, a, b) := by
  have h := World.alloc_heap_new w (.cells #[.int .i64 x, .int .i64 y, .int .i64 a, .int .i64 b] t)
  exact ⟨blk_lt h, (cell_of_arr h (j := 0) rfl).1, (cell_of_arr h (j := 1) rfl).1, (cell_of_arr h (j := 2) rfl).1, (cell_of_arr h (j := 3) rfl).1⟩
theorem own_other {w w' : World} {base e size n q : Nat} {v : Value} {xs : List Value} {cur : Array Value} {t : TypeId} {o : Obj} (ho : w.ownsRow base e size v n xs) (hq : w.heap[q]? = some (.cells cur t (0, 0))) (hb : q < base) (hg : (w.alloc o).grownBy w' v.ownBlock) : w'.heap[q]? = some (.cells cur t (0, 0)) := by
  refine (hg.block q ?_ (fun e => ?_)).trans ((Below.heap_alloc w o q (blk_lt hq)).trans hq)
  · simp; exact Nat.lt_succ_of_lt (blk_lt hq)
  · have := (World.ownsRow.lt ho q e.symm).1
    omega
/-- The value of a leaf whose defects lie at sv. -/
def lfW (z : Lf) (sv : Value) : Value := .agg #[.string z.id, .string z.fl, .int .i64 z.nu, .string z.ve.1, .int .i64 z.ve.2.1, .int .i64 z.ve.2.2, .int .i64 z.wd, .int .i64 z.ln, sv]
/-- What a call says that makes a leaf of its own and a code. -/
def NewLf (R : Lf × Int) (w : World) (e : Ending) (w' : World) : Prop := ∃ sv, e = .returned (.tuple #[lfW R.1 sv, .int .i64 R.2]) ∧ OwnBx w' w.heap.size sv R.1.df ∧ Below w.heap.size w w'
theorem OwnBx.nil (w : World) (base : Nat) : OwnBx w base (.slice none 0 0) [] := World.ownsRow_nil _ _ _ _
theorem OwnBx.app {w : World} {base m : Nat} {v : Value} {L : List Bx} {d : Bx} (hm : m = L.length + 1) (ho : w.ownsRow base 37 4 v m (flatBx L ++ oneBx d)) : OwnBx w base v (L ++ [d]) := by
  subst hm
  unfold OwnBx
  rw [flatBx_snoc]
  simpa using ho
end Go.Proofs.YtcjpplijbdfgbaaDoor
