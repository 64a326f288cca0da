/- Numbers of veneers: greatest, absolute, angles, shades, directions; spec and impl. -/
import Derived.Test.YtmfchcaidfloaaaDoorVen2
namespace Go.Proofs.YtmfchcaidfloaaaDoor
open Seq2 Go.ChangeShapes Go.WideShapes Go.ChangeAt Go.RowKit
set_option linter.unusedVariables false
set_option linter.unusedSimpArgs false

/-- The distance of two numbers. -/
def awy (a b : Int) : Int := if a - b > b - a then a - b else b - a
theorem awy_nat (a b : Int) : awy a b = ((a - b).natAbs : Int) := by unfold awy; split <;> omega
theorem awy_comm (a b : Int) : awy a b = awy b a := by unfold awy; split <;> split <;> omega
def grtI (a b : Int) : Int := if a > b then a else b
def lesI (a b : Int) : Int := if a < b then a else b
theorem max_ven (a b : Int) (w : World) : Calls Tryd.prog 69 #[.int .i64 a, .int .i64 b] w fun e w' => e = .returned (.int .i64 (grtI a b)) ∧ w = w' := by
  by_cases h : b < a
  · rw [show grtI a b = a from if_pos h]
    go_enter Tryd.func69, Tryd.ntmps69
    go_wp2
    go_ret
    exact ⟨rfl, rfl⟩
  · rw [show grtI a b = b from if_neg h]
    go_enter Tryd.func69, Tryd.ntmps69
    go_wp2
    go_ret
    exact ⟨rfl, rfl⟩
theorem min_ven (a b : Int) (w : World) : Calls Tryd.prog 104 #[.int .i64 a, .int .i64 b] w fun e w' => e = .returned (.int .i64 (lesI a b)) ∧ w = w' := by
  by_cases h : a < b
  · rw [show lesI a b = a from if_pos h]
    go_enter Tryd.func104, Tryd.ntmps104
    go_wp2
    go_ret
    exact ⟨rfl, rfl⟩
  · rw [show lesI a b = b from if_neg h]
    go_enter Tryd.func104, Tryd.ntmps104
    go_wp2
    go_ret
    exact ⟨rfl, rfl⟩
theorem abs_ven (n : Int) (w : World) (h0 : -1000000 ≤ n) (h1 : n ≤ 1000000) : Calls Tryd.prog 82 #[.int .i64 n] w fun e w' => e = .returned (.int .i64 (awy n 0)) ∧ w = w' := by
  have e1 : IntKind.i64.wrap (-n) = -n := IntWalk.i64_in _ (by omega)
  go_enter Tryd.func82, Tryd.ntmps82
  go_wp2
  all_goals
    go_ret
    exact ⟨ret_int (by unfold awy; split <;> omega), rfl⟩
theorem inI_iff2 (a lo hi : Int) : inI a lo hi = true ↔ lo ≤ a ∧ a ≤ hi := by unfold inI; simp
theorem shade_ven (n : Int) (w : World) : Calls Tryd.prog 75 #[.int .i64 n] w fun e w' => e = .returned (.bool (inI n 0 100)) ∧ w = w' := by
  by_cases h1 : 0 ≤ n <;> by_cases h2 : n ≤ 100
  all_goals
    have hs : inI n 0 100 = (decide (0 ≤ n) && decide (n ≤ 100)) := rfl
    simp only [h1, h2, decide_true, decide_false, Bool.and_true, Bool.and_false] at hs
    rw [hs]
    go_enter Tryd.func75, Tryd.ntmps75
    go_wp2
    go_ret
    exact ⟨rfl, rfl⟩
theorem grain_ven (n : Int) (w : World) : Calls Tryd.prog 77 #[.int .i64 n] w fun e w' => e = .returned (.bool (inI n 0 179)) ∧ w = w' := by
  by_cases h1 : 0 ≤ n <;> by_cases h2 : n < 180
  all_goals
    have hs : inI n 0 179 = (decide (0 ≤ n) && decide (n < 180)) := by unfold inI; congr 1; by_cases h : n < 180 <;> simp <;> omega
    simp only [h1, h2, decide_true, decide_false, Bool.and_true, Bool.and_false] at hs
    rw [hs]
    go_enter Tryd.func77, Tryd.ntmps77
    go_wp2
    go_ret
    exact ⟨rfl, rfl⟩
theorem l07grain (n : Int) (w : World) : Calls Tryd.prog 66 #[.int .i64 n] w fun e w' => e = .returned (.bool (inI n 0 179)) ∧ w = w' := by
  go_enter Tryd.func66, Tryd.ntmps66
  go_wp2_with fail
  refine (in_any _ _ _ _).mono ?_
  rintro e w1 ⟨rfl, rfl⟩
  go_wp2
  go_ret
  exact ⟨rfl, rfl⟩
/-- The angle of two directions. -/
def angI (a b : Int) : Int := lesI (awy a b) (180 - awy a b)
theorem awy_grt (a b : Int) : awy a b = grtI (a - b) (b - a) := by unfold awy grtI; rfl
theorem awy_rng {a b m : Int} (ha : 0 ≤ a) (ha2 : a ≤ m) (hb : 0 ≤ b) (hb2 : b ≤ m) : 0 ≤ awy a b ∧ awy a b ≤ m := by unfold awy; split <;> omega
theorem angle_spec (a b : Int) (w : World) (ha : 0 ≤ a) (ha2 : a ≤ 1000) (hb : 0 ≤ b) (hb2 : b ≤ 1000) : Calls Tryd.prog 70 #[.int .i64 a, .int .i64 b] w fun e w' => e = .returned (.int .i64 (angI a b)) ∧ w = w' := by
  have hr := awy_rng ha ha2 hb hb2
  have e1 : IntKind.i64.wrap (a - b) = a - b := IntWalk.i64_in _ (by omega)
  have e2 : IntKind.i64.wrap (b - a) = b - a := IntWalk.i64_in _ (by omega)
  have hg := (awy_grt a b).symm
  have e3 : IntKind.i64.wrap (180 - awy a b) = 180 - awy a b := IntWalk.i64_in _ (by omega)
  have HG := Lib.hid hg
  clear hg
  go_enter Tryd.func70, Tryd.ntmps70
  go_wp2_with fail
  refine (max_ven _ _ _).mono ?_
  rintro e w1 ⟨rfl, rfl⟩
  rw [HG.out]
  go_wp2_with fail
  refine (min_ven _ _ _).mono ?_
  rintro e w1 ⟨rfl, rfl⟩
  go_wp2
  go_ret
  exact ⟨rfl, rfl⟩
theorem angle_impl (a b : Int) (w : World) (ha : 0 ≤ a) (ha2 : a ≤ 1000) (hb : 0 ≤ b) (hb2 : b ≤ 1000) : Calls Tryd.prog 83 #[.int .i64 a, .int .i64 b] w fun e w' => e = .returned (.int .i64 (angI a b)) ∧ w = w' := by
  have hr := awy_rng ha ha2 hb hb2
  have e1 : IntKind.i64.wrap (a - b) = a - b := IntWalk.i64_in _ (by omega)
  have hg : awy (a - b) 0 = awy a b := by unfold awy; split <;> split <;> omega
  have e3 : IntKind.i64.wrap (180 - awy a b) = 180 - awy a b := IntWalk.i64_in _ (by omega)
  have HG := Lib.hid hg
  clear hg
  go_enter Tryd.func83, Tryd.ntmps83
  go_wp2_with fail
  refine (abs_ven _ _ (by omega) (by omega)).mono ?_
  rintro e w1 ⟨rfl, rfl⟩
  rw [HG.out]
  go_wp2
  all_goals
    go_ret
    exact ⟨ret_int (by unfold angI lesI; split <;> omega), rfl⟩
theorem spS_rng (k : Nat) : 0 ≤ spS k ∧ spS k ≤ 95 := by
  by_cases h : k < 10
  · match k, h with
    | 0, _ => decide
    | 1, _ => decide
    | 2, _ => decide
    | 3, _ => decide
    | 4, _ => decide
    | 5, _ => decide
    | 6, _ => decide
    | 7, _ => decide
    | 8, _ => decide
    | 9, _ => decide
  · have : spS k = 0 := by
      unfold spS spRow
      rw [List.getD_eq_getElem?_getD, List.getElem?_eq_none (by show 10 ≤ k; omega)]
      rfl
    omega
/-- How far a species' shade is from a shade. -/
theorem away_ven (k : Nat) (a : Int) (w : World) (h0 : 0 ≤ a) (h1 : a ≤ 100) : Calls Tryd.prog 76 #[.agg (spV k), .int .i64 a] w fun e w' => e = .returned (.int .i64 (awy (spS k) a)) ∧ Below w.heap.size w w' := by
  have hr := spS_rng k
  have e1 : IntKind.i64.wrap (spS k - a) = spS k - a := IntWalk.i64_in _ (by omega)
  have HG := Lib.hid (show awy (spS k - a) 0 = awy (spS k) a by unfold awy; split <;> split <;> omega)
  unfold spV
  go_enter Tryd.func76, Tryd.ntmps76
  go_wp2_with fail
  refine (abs_ven _ _ (by omega) (by omega)).mono ?_
  rintro e w1 ⟨rfl, rfl⟩
  rw [HG.out]
  go_wp2
  go_ret
  exact ⟨rfl, one_alloc _⟩
end Go.Proofs.YtmfchcaidfloaaaDoor
