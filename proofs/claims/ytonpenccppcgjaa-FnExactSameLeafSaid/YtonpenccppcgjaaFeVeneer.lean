/- Are two slices of the struct Veneer equal: slices.Equal. -/
import Derived.Test.YtonpenccppcgjaaTyVeneer
import Derived.Test.YtonpenccppcgjaaK8
namespace Go.Proofs.Ytonpenccppcgjaa
open Seq2 Go.ChangeShapes Go.WideShapes Go.ChangeAt Go.RowKit
set_option linter.unusedVariables false
set_option linter.unusedSimpArgs false

theorem tol_ne {x y : ByteArray} (h : ¬ x = y) : ¬ x.toList = y.toList := fun e => h (by
  rw [ByteArray.toList_eq, ByteArray.toList_eq] at e
  cases x; cases y; congr 1; exact Array.toList_inj.1 e)
instance : DecidableEq Vn := by unfold Vn; infer_instance
theorem take_eq_succVn {a b : List Vn} {k : Nat} (ha : k < a.length) (hb : k < b.length) (h : a.take k = b.take k) (e : a.getD k vn0 = b.getD k vn0) : a.take (k + 1) = b.take (k + 1) := by
  rw [List.take_succ_eq_append_getElem ha, List.take_succ_eq_append_getElem hb, h]
  simp [List.getD_eq_getElem?_getD, ha, hb] at e
  rw [e]
theorem take_eq_allVn {a b : List Vn} {n : Nat} (ha : a.length = n) (hb : b.length = n) (h : a.take n = b.take n) : a = b := by
  rw [List.take_of_length_le (by omega), List.take_of_length_le (by omega)] at h; exact h
end Go.Proofs.Ytonpenccppcgjaa
