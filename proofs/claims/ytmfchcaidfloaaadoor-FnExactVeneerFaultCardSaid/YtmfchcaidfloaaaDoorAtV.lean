/- Values of several cells in blocks, and rows of them. -/
import Derived.Test.YtmfchcaidfloaaaDoorLay
import Derived.Test.YtmfchcaidfloaaaDoorK5
import Derived.Lib.SmallJoins
import Derived.ChangeMaps5
namespace Go.Proofs.YtmfchcaidfloaaaDoor
open Seq2 Go.ChangeShapes Go.WideShapes Go.ChangeAt Go.RowKit Go.ChangeMaps Go.Joins Go.Deep
set_option linter.unusedVariables false
set_option linter.unusedSimpArgs false

/-- The cells of a value lie in block b from offset o on. -/
def AtV (w : World) (b o : Nat) (v : Value) : Prop := b < w.heap.size ∧ ∀ i, i < v.cells.size → w.cell? ⟨b, o + i, none⟩ = v.cells[i]?
theorem AtV.below {w w' : World} {b o : Nat} {v : Value} (h : AtV w b o v) (hb : Below w.heap.size w w') : AtV w' b o v :=
  ⟨Nat.lt_of_lt_of_le h.1 hb.size, fun i hi => (hb.cell (p := ⟨b, o + i, none⟩) h.1).trans (h.2 i hi)⟩
theorem AtV.at {w : World} {b o : Nat} {v x : Value} (h : AtV w b o v) (i : Nat) (e : v.cells[i]? = some x) : w.cell? ⟨b, o + i, none⟩ = some x :=
  (h.2 i (Array.getElem?_eq_some_iff.1 e).1).trans e
theorem AtV.box (w : World) (v : Value) (t : TypeId) : AtV (w.alloc (.cells v.cells t)) w.heap.size 0 v := by
  refine ⟨by simp, fun i hi => ?_⟩
  have := (cell_of_arr (World.alloc_heap_new w (.cells v.cells t)) (j := i) (v := v.cells[i]) (by simp [hi])).1
  rw [Nat.zero_add, this]; simp [hi]
/-- A row of values of m cells each, of which the first k are laid. -/
def rwF (m : Nat) (zc : Nat → Value) (vs : Nat → Value) (k j : Nat) : Value := if j < k * m then (vs (j / m)).cells.getD (j % m) (.bool false) else zc (j % m)
theorem rwF_old {m k j : Nat} {zc vs : Nat → Value} (h : ¬ j < k * m) : rwF m zc vs k j = zc (j % m) := if_neg h
theorem rwF_at {m k i q : Nat} {zc vs : Nat → Value} (hq : q < m) (hi : i < k) : rwF m zc vs k (i * m + q) = (vs i).cells.getD q (.bool false) := by
  have h1 : (i * m + q) / m = i := by rw [Nat.mul_comm, Nat.mul_add_div (by omega), Nat.div_eq_of_lt hq, Nat.add_zero]
  have h2 : (i * m + q) % m = q := by rw [Nat.mul_comm, Nat.mul_add_mod, Nat.mod_eq_of_lt hq]
  have h3 : i * m + q < k * m := by
    have := Nat.mul_le_mul_right m (show i + 1 ≤ k by omega)
    rw [Nat.succ_mul] at this; omega
  rw [rwF, if_pos h3, h1, h2]
theorem rwF_new {m k q : Nat} {zc vs : Nat → Value} {v : Value} (hq : q < m) : rwF m zc (fun i => if i = k then v else vs i) (k + 1) (k * m + q) = v.cells.getD q (.bool false) := by
  rw [rwF_at hq (by omega)]; simp
theorem rwF_same {m k j : Nat} {zc vs : Nat → Value} {v : Value} (hm : 0 < m) (h : ∀ q, q < m → j ≠ k * m + q) : rwF m zc (fun i => if i = k then v else vs i) (k + 1) j = rwF m zc vs k j := by
  by_cases h1 : j < k * m
  · have h2 : j < (k + 1) * m := by rw [Nat.succ_mul]; omega
    have h3 : j / m ≠ k := by
      have := (Nat.div_lt_iff_lt_mul hm).2 h1
      omega
    rw [rwF, if_pos h2, rwF, if_pos h1, if_neg h3]
  · have h2 : ¬ j < (k + 1) * m := by
      intro h3
      rw [Nat.succ_mul] at h3
      exact h (j - k * m) (by omega) (by omega)
    rw [rwF, if_neg h2, rwF, if_neg h1]
theorem made_rw (w : World) (n m : Nat) (hm : 0 < m) (z : Array Value) (hz : z.size = m) (vs : Nat → Value) (t : TypeId) :
    (w.alloc (.cells (madeCells z (n * m)) t)).rowIs w.heap.size t (n * m) (rwF m (fun q => z.getD q (.bool false)) vs 0) := by
  have h := World.rowIs_alloc w (madeCells z (n * m)) t (rwF m (fun q => z.getD q (.bool false)) vs 0) (fun i hi => by
    rw [size_madeCells] at hi
    have hq : i % m < z.size := by rw [hz]; exact Nat.mod_lt _ hm
    rw [rwF_old (by omega)]
    simp [madeCells, hi, hz, Array.getD, hq, Nat.mod_lt _ hm])
  rw [size_madeCells] at h
  exact h
end Go.Proofs.YtmfchcaidfloaaaDoor
