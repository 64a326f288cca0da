/- Is a polygon convex. -/
import Derived.Test.YtjhmpmaademdcaaPolyF1
namespace Go.Proofs.Ytjhmpmaademdcaa
open Go.ChangeShapes Go.WideShapes Go.ChangeAt Go.RowKit
set_option linter.unusedVariables false

def cvF (zs : List P2) (k : Nat) : Bool := !decide (sdI (pt zs k).1 (pt zs k).2 (pt zs (k + 1)).1 (pt zs (k + 1)).2 (pt zs (k + 2)).1 (pt zs (k + 2)).2 < 0)
def cvB (zs : List P2) : Bool := allTo (cvF zs) zs.length
theorem cv_bad {zs : List P2} {k : Nat} (hk : k < zs.length) (h : cvF zs k = false) : cvB zs = false := allTo_bad hk h
theorem pt_at (zs : List P2) (k c : Nat) : pt zs (k + c) = zs.getD ((k + c) % zs.length) (0, 0) := rfl
theorem two_bools {a b : Bool} (h : a = b) : Ending.returned (.bool a) = .returned (.bool b) := by rw [h]
end Go.Proofs.Ytjhmpmaademdcaa
