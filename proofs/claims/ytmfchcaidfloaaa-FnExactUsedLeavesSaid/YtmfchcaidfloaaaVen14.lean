/- GrainAngle and TurnGrain: spec and impl. -/
import Derived.Test.YtmfchcaidfloaaaVen4
namespace Go.Proofs.Ytmfchcaidfloaaa
open Seq2 Go.ChangeShapes Go.WideShapes Go.ChangeAt Go.RowKit
set_option linter.unusedVariables false
set_option linter.unusedSimpArgs false

def gaR (a b : Int) : Int × Int := if inI a 0 179 && inI b 0 179 then (angI a b, 0) else (0, 2)
def tuI (g t : Int) : Int := ((if 4 ≤ t then 180 - g else g) + 90 * t) % 180
def tgR (g t : Int) : Int × Int := if inI g 0 179 && inI t 0 7 then (tuI g t, 0) else (0, 2)
theorem turn3_ven (t : Int) (w : World) : Calls Try.prog 35 #[.int .i64 t] w fun e w' => e = .returned (.bool (inI t 0 7)) ∧ w = w' := by
  go_enter Try.func35, Try.ntmps35
  go_wp2_with fail
  refine (in_any _ _ _ _).mono ?_
  rintro e w1 ⟨rfl, rfl⟩
  go_wp2
  go_ret
  exact ⟨rfl, rfl⟩
theorem isturn_ven (n : Int) (w : World) : Calls Try.prog 32 #[.int .i64 n] w fun e w' => e = .returned (.bool (inI n 0 7)) ∧ w = w' := by
  by_cases h1 : 0 ≤ n <;> by_cases h2 : n < 8
  all_goals
    have hs : inI n 0 7 = (decide (0 ≤ n) && decide (n < 8)) := by unfold inI; congr 1; by_cases h : n < 8 <;> simp <;> omega
    simp only [h1, h2, decide_true, decide_false, Bool.and_true, Bool.and_false] at hs
    rw [hs]
    go_enter Try.func32, Try.ntmps32
    go_wp2
    go_ret
    exact ⟨rfl, rfl⟩
end Go.Proofs.Ytmfchcaidfloaaa
