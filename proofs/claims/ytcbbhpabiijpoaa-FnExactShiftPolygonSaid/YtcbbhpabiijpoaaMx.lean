/- Small laws for the uniform walk of a region. -/
import Derived.Test.YtcbbhpabiijpoaaPtBase
import Derived.Lib.Hide
import Derived.LoopTactic
namespace Go.Proofs.Ytcbbhpabiijpoaa
open Go.ChangeShapes Go.WideShapes Go.ChangeAt Go.RowKit

theorem neq2 (p q : Prop) [Decidable p] [Decidable q] (w : World) : (if p then if q then Result.ok (Next.value (.bool false)) w else Result.ok (Next.value (.bool true)) w else Result.ok (Next.value (.bool true)) w) = Result.ok (Next.value (.bool (!(decide p && decide q)))) w := by
  by_cases hp : p <;> by_cases hq : q <;> simp [hp, hq]
theorem ret_bool' {a b : Bool} (h : a = b) : Ending.returned (.bool a) = .returned (.bool b) := by rw [h]
end Go.Proofs.Ytcbbhpabiijpoaa
