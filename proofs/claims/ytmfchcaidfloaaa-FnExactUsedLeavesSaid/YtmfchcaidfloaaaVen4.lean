/- Numbers of veneers: greatest, absolute, angles, shades, directions; spec and impl. -/
import Derived.Test.YtmfchcaidfloaaaVen2
namespace Go.Proofs.Ytmfchcaidfloaaa
open Seq2 Go.ChangeShapes Go.WideShapes Go.ChangeAt Go.RowKit
set_option linter.unusedVariables false
set_option linter.unusedSimpArgs false

/-- The distance of two numbers. -/
def awy (a b : Int) : Int := if a - b > b - a then a - b else b - a
theorem awy_nat (a b : Int) : awy a b = ((a - b).natAbs : Int) := by unfold awy; split <;> omega
theorem awy_comm (a b : Int) : awy a b = awy b a := by unfold awy; split <;> split <;> omega
def grtI (a b : Int) : Int := if a > b then a else b
def lesI (a b : Int) : Int := if a < b then a else b
theorem inI_iff2 (a lo hi : Int) : inI a lo hi = true ↔ lo ≤ a ∧ a ≤ hi := by unfold inI; simp
theorem shade_ven (n : Int) (w : World) : Calls Try.prog 22 #[.int .i64 n] w fun e w' => e = .returned (.bool (inI n 0 100)) ∧ w = w' := by
  by_cases h1 : 0 ≤ n <;> by_cases h2 : n ≤ 100
  all_goals
    have hs : inI n 0 100 = (decide (0 ≤ n) && decide (n ≤ 100)) := rfl
    simp only [h1, h2, decide_true, decide_false, Bool.and_true, Bool.and_false] at hs
    rw [hs]
    go_enter Try.func22, Try.ntmps22
    go_wp2
    go_ret
    exact ⟨rfl, rfl⟩
/-- The angle of two directions. -/
def angI (a b : Int) : Int := lesI (awy a b) (180 - awy a b)
theorem awy_grt (a b : Int) : awy a b = grtI (a - b) (b - a) := by unfold awy grtI; rfl
theorem awy_rng {a b m : Int} (ha : 0 ≤ a) (ha2 : a ≤ m) (hb : 0 ≤ b) (hb2 : b ≤ m) : 0 ≤ awy a b ∧ awy a b ≤ m := by unfold awy; split <;> omega
theorem spS_rng (k : Nat) : 0 ≤ spS k ∧ spS k ≤ 95 := by
  by_cases h : k < 10
  · match k, h with
    | 0, _ => decide
    | 1, _ => decide
    | 2, _ => decide
    | 3, _ => decide
    | 4, _ => decide
    | 5, _ => decide
    | 6, _ => decide
    | 7, _ => decide
    | 8, _ => decide
    | 9, _ => decide
  · have : spS k = 0 := by
      unfold spS spRow
      rw [List.getD_eq_getElem?_getD, List.getElem?_eq_none (by show 10 ≤ k; omega)]
      rfl
    omega
end Go.Proofs.Ytmfchcaidfloaaa
