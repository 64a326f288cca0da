/- l01Div and DivRound of spec: the nearest quotient. -/
import Derived.Test.YthjimogeimigmaaDoorDivMath
import Derived.Test.YthjimogeimigmaaDoorK1
namespace Go.Proofs.YthjimogeimigmaaDoor
open Go.ChangeShapes Go.WideShapes Go.ChangeAt Go.RowKit

set_option maxHeartbeats 400000 in
theorem l01Div_any (a b : Int) (w : World) (ha1 : -1000000000000000 ≤ a) (ha2 : a ≤ 1000000000000000) (hb1 : -1000000000000000 ≤ b) (hb2 : b ≤ 1000000000000000) (hb : b ≠ 0) :
    Calls Tryd.prog 65 #[.int .i64 a, .int .i64 b] w fun e w' => e = .returned (.int .i64 (nearI a b)) ∧ w = w' := by
  by_cases h : b < 0
  · rw [← near_negneg a b hb, ← divI_eq (-a) (-b) (by omega)]
    unfold divI
    by_cases h2 : -a < 0
    · rw [if_pos h2]
      go_enter Tryd.func65, Tryd.ntmps65
      go_wp2
      go_ret
      exact ⟨ret_int (neg_in _ _ (by omega) (by omega) (by omega)), rfl⟩
    · rw [if_neg h2]
      go_enter Tryd.func65, Tryd.ntmps65
      go_wp2
      go_ret
      exact ⟨rfl, rfl⟩
  · rw [← divI_eq a b (by omega)]
    have hb' : 0 < b := by omega
    unfold divI
    by_cases h2 : a < 0
    · rw [if_pos h2]
      go_enter Tryd.func65, Tryd.ntmps65
      go_wp2
      go_ret
      exact ⟨ret_int (neg_in _ _ (by omega) (by omega) (by omega)), rfl⟩
    · rw [if_neg h2]
      go_enter Tryd.func65, Tryd.ntmps65
      go_wp2
      go_ret
      exact ⟨rfl, rfl⟩

end Go.Proofs.YthjimogeimigmaaDoor
