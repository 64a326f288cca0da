/- The number on a line through two points. -/
import Derived.Test.YtglbbpcdodlnmaaDoorDivMath
namespace Go.Proofs.YtglbbpcdodlnmaaDoor
open Go.ChangeShapes Go.WideShapes Go.ChangeAt Go.RowKit

def lineI (x0 y0 x1 y1 x : Int) : Int := if x ≤ x0 ∨ x1 ≤ x0 then y0 else if x1 ≤ x then y1 else y0 + nearI ((y1 - y0) * (x - x0)) (x1 - x0)
def blI (x0 y0 x1 y1 x : Int) : Int := if wiI 1000000 [x0, y0, x1, y1] then lineI x0 y0 x1 y1 x else 0
theorem wi4 (m a b c d : Int) : wiI m [a, b, c, d] = (inI a (-m) m && inI b (-m) m && inI c (-m) m && inI d (-m) m) := by
  simp [wiI, inI, Bool.and_assoc]

theorem mul_bd (a b : Int) (h1 : -2000000 ≤ a) (h2 : a ≤ 2000000) (h3 : -2000000 ≤ b) (h4 : b ≤ 2000000) : -4000000000000 ≤ a * b ∧ a * b ≤ 4000000000000 := by
  have h : (a * b).natAbs ≤ 2000000 * 2000000 := by
    rw [Int.natAbs_mul]; exact Nat.mul_le_mul (by omega) (by omega)
  omega
theorem near_bd (a b : Int) (h1 : -4000000000000 ≤ a) (h2 : a ≤ 4000000000000) : -4000000000001 ≤ nearI a b ∧ nearI a b ≤ 4000000000001 := by
  have := tdiv_bd a b 4000000000000 (by omega)
  unfold nearI
  split
  · omega
  · split <;> omega
theorem near_zero (b : Int) : nearI 0 b = 0 ∨ b = 0 := by
  by_cases h : b = 0
  · exact Or.inr h
  · left; unfold nearI; simp; omega
theorem near_mul (c b : Int) (h : b ≠ 0) : nearI (c * b) b = c := by
  unfold nearI
  rw [Int.natAbs_mul, Nat.mul_mod_left, if_pos (by omega), Int.mul_tdiv_cancel _ h]

/-- The form of impl: x is held between the ends. -/
theorem line_held (x0 y0 x1 y1 x : Int) (h : x0 < x1) : y0 + nearI ((y1 - y0) * (min (max x x0) x1 - x0)) (x1 - x0) = lineI x0 y0 x1 y1 x := by
  unfold lineI
  by_cases h1 : x ≤ x0
  · rw [if_pos (Or.inl h1), show min (max x x0) x1 - x0 = 0 by omega, Int.mul_zero]
    rcases near_zero (x1 - x0) with h2 | h2 <;> omega
  · rw [if_neg (by omega)]
    by_cases h2 : x1 ≤ x
    · rw [if_pos h2, show min (max x x0) x1 - x0 = x1 - x0 by omega, near_mul _ _ (by omega)]; omega
    · rw [if_neg h2, show min (max x x0) x1 = x by omega]

end Go.Proofs.YtglbbpcdodlnmaaDoor
