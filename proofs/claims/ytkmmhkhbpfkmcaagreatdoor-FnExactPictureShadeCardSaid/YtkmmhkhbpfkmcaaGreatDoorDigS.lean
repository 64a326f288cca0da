/- The contract of l01Digit of spec. -/
import Derived.Test.YtkmmhkhbpfkmcaaGreatDoorProg
import Derived.Test.YtkmmhkhbpfkmcaaGreatDoorK1
namespace Go.Proofs.YtkmmhkhbpfkmcaaGreatDoor
open Go.ChangeShapes Go.WideShapes Go.ChangeAt Go.RowKit

theorem dig_spec (n : Int) (w : World) : Calls Tryz.prog 125 #[.int .u8 n] w fun e w' => e = .returned (.bool (digI n)) ∧ w = w' := by
  by_cases h1 : 48 ≤ n <;> by_cases h2 : n ≤ 57
  all_goals
    have hs : digI n = (decide (48 ≤ n) && decide (n ≤ 57)) := rfl
    simp only [h1, h2, decide_true, decide_false, Bool.and_true, Bool.and_false] at hs
    rw [hs]; clear hs
    go_enter Tryz.func125, Tryz.ntmps125
    go_wp2
    go_ret
    exact ⟨rfl, rfl⟩
end Go.Proofs.YtkmmhkhbpfkmcaaGreatDoor
