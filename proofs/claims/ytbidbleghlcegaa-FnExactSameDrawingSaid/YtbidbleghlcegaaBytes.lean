/- Contracts of the small byte tests of impl and spec (small letter, digit), at every argument. -/
import Derived.Test.YtbidbleghlcegaaProg
import Derived.Test.YtbidbleghlcegaaK1
import Derived.Test.YtbidbleghlcegaaDigS
namespace Go.Proofs.Ytbidbleghlcegaa
open Go.ChangeShapes Go.WideShapes Go.ChangeAt Go.RowKit

theorem small_impl (n : Int) (w : World) : Calls Try.prog 169 #[.int .u8 n] w fun e w' => e = .returned (.bool (smallI n)) ∧ w = w' := by
  by_cases h1 : 97 ≤ n <;> by_cases h2 : n ≤ 122
  all_goals
    have hs : smallI n = (decide (97 ≤ n) && decide (n ≤ 122)) := rfl
    simp only [h1, h2, decide_true, decide_false, Bool.and_true, Bool.and_false] at hs
    rw [hs]; clear hs
    go_enter Try.func169, Try.ntmps169
    go_wp2
    go_ret
    exact ⟨rfl, rfl⟩
theorem small_spec (n : Int) (w : World) : Calls Try.prog 166 #[.int .u8 n] w fun e w' => e = .returned (.bool (smallI n)) ∧ w = w' := by
  by_cases h1 : 97 ≤ n <;> by_cases h2 : n ≤ 122
  all_goals
    have hs : smallI n = (decide (97 ≤ n) && decide (n ≤ 122)) := rfl
    simp only [h1, h2, decide_true, decide_false, Bool.and_true, Bool.and_false] at hs
    rw [hs]; clear hs
    go_enter Try.func166, Try.ntmps166
    go_wp2
    go_ret
    exact ⟨rfl, rfl⟩
theorem dig_impl (n : Int) (w : World) : Calls Try.prog 170 #[.int .u8 n] w fun e w' => e = .returned (.bool (digI n)) ∧ w = w' := by
  by_cases h1 : 48 ≤ n <;> by_cases h2 : n ≤ 57
  all_goals
    have hs : digI n = (decide (48 ≤ n) && decide (n ≤ 57)) := rfl
    simp only [h1, h2, decide_true, decide_false, Bool.and_true, Bool.and_false] at hs
    rw [hs]; clear hs
    go_enter Try.func170, Try.ntmps170
    go_wp2
    go_ret
    exact ⟨rfl, rfl⟩
end Go.Proofs.Ytbidbleghlcegaa
