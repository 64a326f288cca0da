/- RootOf of spec: the square root, rounded down. -/
import Derived.Test.YtcbbhpabiijpoaaProg
import Derived.Test.YtcbbhpabiijpoaaRootMath
import Derived.LoopTactic
import Derived.IntWalk
namespace Go.Proofs.Ytcbbhpabiijpoaa
open Go.ChangeShapes Go.WideShapes Go.ChangeAt Go.RowKit

def RootInv (n lo hi : Int) : Prop := (lo = 0 ∨ lo * lo ≤ n) ∧ n < (hi + 1) * (hi + 1)

theorem sq_bd (m : Int) (h0 : 0 ≤ m) (h1 : m ≤ 3037000499) : 0 ≤ m * m ∧ m * m ≤ 9223372030926249001 := by
  refine ⟨Int.mul_nonneg h0 h0, ?_⟩
  have := Int.mul_le_mul h1 h1 h0 (by omega)
  omega

end Go.Proofs.Ytcbbhpabiijpoaa
