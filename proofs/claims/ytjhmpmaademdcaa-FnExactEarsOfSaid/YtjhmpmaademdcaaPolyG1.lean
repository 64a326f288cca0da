/- Lists of points that are equal, and those that are equal up to where they begin; of spec. -/
import Derived.Test.YtjhmpmaademdcaaOwnP
import Derived.Test.YtjhmpmaademdcaaK3
namespace Go.Proofs.Ytjhmpmaademdcaa
open Go.ChangeShapes Go.WideShapes Go.ChangeAt Go.RowKit
set_option linter.unusedVariables false

theorem take_eq_succ {a b : List P2} {k : Nat} (hk : k < a.length) (hb : k < b.length) (h : a.take k = b.take k) (e : a.getD k (0, 0) = b.getD k (0, 0)) : a.take (k + 1) = b.take (k + 1) := by
  rw [List.take_succ_eq_append_getElem hk, List.take_succ_eq_append_getElem hb, h]
  congr 2
  simpa [List.getD_eq_getElem?_getD, hk, hb] using e
theorem take_eq_all {a b : List P2} {k : Nat} (ha : a.length = k) (hb : b.length = k) (h : a.take k = b.take k) : a = b := by
  rwa [List.take_of_length_le (by omega), List.take_of_length_le (by omega)] at h
/-- Two lists of points are equal up to where they begin, from the number k on of the second one. -/
def aroundB (a b : List P2) : Bool := (List.range b.length).any fun k => decide (a = rotL b k)
theorem any_range_snoc (f : Nat → Bool) (k : Nat) : (List.range (k + 1)).any f = ((List.range k).any f || f k) := by simp [List.range_succ]
theorem any_range_mono {f : Nat → Bool} {k n : Nat} (h : k < n) (hf : f k = true) : (List.range n).any f = true := List.any_eq_true.2 ⟨k, List.mem_range.2 h, hf⟩
end Go.Proofs.Ytjhmpmaademdcaa
