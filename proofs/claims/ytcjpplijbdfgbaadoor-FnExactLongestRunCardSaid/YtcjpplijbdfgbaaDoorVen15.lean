/- Names of species as slices: all, and those within a tolerance. Spec. -/
import Derived.Test.YtcjpplijbdfgbaaDoorVen4
import Derived.Test.YtcjpplijbdfgbaaDoorK14
import Derived.Deep.Onto
namespace Go.Proofs.YtcjpplijbdfgbaaDoor
open Go.ChangeShapes Go.WideShapes Go.ChangeAt Go.RowKit
set_option linter.unusedVariables false
set_option linter.unusedSimpArgs false

/-- The names of the rows ahead of k that meet p. -/
def rowsL (p : Nat → Bool) (k : Nat) : List (List UInt8) := ((List.range k).filter p).map fun j => (spRow j).1
theorem rowsL_yes {p : Nat → Bool} {k : Nat} (h : p k = true) : rowsL p (k + 1) = rowsL p k ++ [(spRow k).1] := by
  simp [rowsL, List.range_succ, h]
theorem rowsL_no {p : Nat → Bool} {k : Nat} (h : p k = false) : rowsL p (k + 1) = rowsL p k := by
  simp [rowsL, List.range_succ, h]
theorem rowsL_len (p : Nat → Bool) (k : Nat) : (rowsL p k).length ≤ k := by
  simp only [rowsL, List.length_map]
  exact Nat.le_trans (List.length_filter_le _ _) (by simp)
/-- A slice of strings of the call's own, told by its texts. -/
def OwnS (w : World) (base : Nat) (v : Value) (L : List (List UInt8)) : Prop := w.ownsRow base 9 1 v L.length (L.map sV)
theorem OwnS.grow {w wr w1 : World} {base k : Nat} {v v' : Value} {p : Nat → Bool} (h : p k = true) (ho : w1.ownsRow base 9 1 v' ((rowsL p k).length + 1) ((rowsL p k).map sV ++ [.string (spN k)])) : OwnS w1 base v' (rowsL p (k + 1)) := by
  unfold OwnS
  rw [rowsL_yes h]
  simpa [sV, spN, tb] using ho
def swP (a t : Int) (j : Nat) : Bool := decide (awy (spS j) a ≤ t)
def swR (a t : Int) : List (List UInt8) × Int := if inI a 0 100 && inI t 0 100 then (rowsL (swP a t) 10, 0) else ([], 2)
/-- What a call says that makes a slice of strings and a code. -/
def NewSC (R : List (List UInt8) × Int) (w : World) (e : Ending) (w' : World) : Prop := ∃ v, e = .returned (.tuple #[v, .int .i64 R.2]) ∧ OwnS w' w.heap.size v R.1 ∧ Below w.heap.size w w'
theorem swR_len (a t : Int) : (swR a t).1.length ≤ 1000 := by
  unfold swR; split
  · exact Nat.le_trans (rowsL_len _ _) (by omega)
  · simp
theorem swP_in (a t : Int) (j : Nat) : inI (spS j) (a - t) (a + t) = swP a t j := by
  unfold swP
  rw [Bool.eq_iff_iff, inI_iff2, decide_eq_true_eq]
  unfold awy; split <;> omega
end Go.Proofs.YtcjpplijbdfgbaaDoor
