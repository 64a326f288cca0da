/- GrainAngle and TurnGrain: spec and impl. -/
import Derived.Test.YtmfchcaidfloaaaDoorVen4
namespace Go.Proofs.YtmfchcaidfloaaaDoor
open Seq2 Go.ChangeShapes Go.WideShapes Go.ChangeAt Go.RowKit
set_option linter.unusedVariables false
set_option linter.unusedSimpArgs false

def gaR (a b : Int) : Int × Int := if inI a 0 179 && inI b 0 179 then (angI a b, 0) else (0, 2)
def tuI (g t : Int) : Int := ((if 4 ≤ t then 180 - g else g) + 90 * t) % 180
def tgR (g t : Int) : Int × Int := if inI g 0 179 && inI t 0 7 then (tuI g t, 0) else (0, 2)
theorem turn3_ven (t : Int) (w : World) : Calls Tryd.prog 36 #[.int .i64 t] w fun e w' => e = .returned (.bool (inI t 0 7)) ∧ w = w' := by
  go_enter Tryd.func36, Tryd.ntmps36
  go_wp2_with fail
  refine (in_any _ _ _ _).mono ?_
  rintro e w1 ⟨rfl, rfl⟩
  go_wp2
  go_ret
  exact ⟨rfl, rfl⟩
theorem isturn_ven (n : Int) (w : World) : Calls Tryd.prog 44 #[.int .i64 n] w fun e w' => e = .returned (.bool (inI n 0 7)) ∧ w = w' := by
  by_cases h1 : 0 ≤ n <;> by_cases h2 : n < 8
  all_goals
    have hs : inI n 0 7 = (decide (0 ≤ n) && decide (n < 8)) := by unfold inI; congr 1; by_cases h : n < 8 <;> simp <;> omega
    simp only [h1, h2, decide_true, decide_false, Bool.and_true, Bool.and_false] at hs
    rw [hs]
    go_enter Tryd.func44, Tryd.ntmps44
    go_wp2
    go_ret
    exact ⟨rfl, rfl⟩
theorem turned_ven (g t : Int) (w : World) (g0 : 0 ≤ g) (g1 : g ≤ 179) (t0 : 0 ≤ t) (t1 : t ≤ 7) : Calls Tryd.prog 71 #[.int .i64 g, .int .i64 t] w fun e w' => e = .returned (.int .i64 (tuI g t)) ∧ w = w' := by
  have e1 : IntKind.i64.wrap (180 - g) = 180 - g := IntWalk.i64_in _ (by omega)
  have e2 : IntKind.i64.wrap (90 * t) = 90 * t := IntWalk.i64_in _ (by omega)
  have e3 : IntKind.i64.wrap (180 - g + 90 * t) = 180 - g + 90 * t := IntWalk.i64_in _ (by omega)
  have e4 : IntKind.i64.wrap (g + 90 * t) = g + 90 * t := IntWalk.i64_in _ (by omega)
  have e5 : (180 - g + 90 * t).tmod 180 = (180 - g + 90 * t) % 180 := Int.tmod_eq_emod_of_nonneg (by omega)
  have e6 : (g + 90 * t).tmod 180 = (g + 90 * t) % 180 := Int.tmod_eq_emod_of_nonneg (by omega)
  have e7 : IntKind.i64.wrap ((180 - g + 90 * t) % 180) = (180 - g + 90 * t) % 180 := IntWalk.i64_in _ (by omega)
  have e8 : IntKind.i64.wrap ((g + 90 * t) % 180) = (g + 90 * t) % 180 := IntWalk.i64_in _ (by omega)
  by_cases h : 4 ≤ t
  · rw [show tuI g t = (180 - g + 90 * t) % 180 by unfold tuI; rw [if_pos h]]
    go_enter Tryd.func71, Tryd.ntmps71
    go_wp2
    go_ret
    exact ⟨rfl, rfl⟩
  · rw [show tuI g t = (g + 90 * t) % 180 by unfold tuI; rw [if_neg h]]
    go_enter Tryd.func71, Tryd.ntmps71
    go_wp2
    go_ret
    exact ⟨rfl, rfl⟩
set_option maxRecDepth 100000 in
set_option maxHeartbeats 2000000 in
theorem tg_impl (g t : Int) (w : World) : Calls Tryd.prog 81 #[.int .i64 g, .int .i64 t] w fun e w' => e = .returned (.tuple #[.int .i64 ((tgR g t).1), .int .i64 ((tgR g t).2)]) ∧ w = w' := by
  cases h0 : inI g 0 179 with
  | false =>
    have HR := Lib.hid (show tgR g t = (0, 2) by unfold tgR; rw [h0]; rfl)
    rw [HR.out]
    go_enter Tryd.func81, Tryd.ntmps81
    go_wp2_with fail
    refine (grain_ven _ _).mono ?_
    rintro e w1 ⟨rfl, rfl⟩
    rw [h0]
    go_wp2
    go_ret2
    exact ⟨rfl, rfl⟩
  | true =>
  cases h1 : inI t 0 7 with
  | false =>
    have HR := Lib.hid (show tgR g t = (0, 2) by unfold tgR; rw [h0, h1]; rfl)
    rw [HR.out]
    go_enter Tryd.func81, Tryd.ntmps81
    go_wp2_with fail
    refine (grain_ven _ _).mono ?_
    rintro e w1 ⟨rfl, rfl⟩
    rw [h0]
    go_wp2_with fail
    refine (isturn_ven _ _).mono ?_
    rintro e w1 ⟨rfl, rfl⟩
    rw [h1]
    go_wp2
    go_ret2
    exact ⟨rfl, rfl⟩
  | true =>
    have ⟨a0, a1⟩ := (inI_iff2 _ _ _).1 h0
    have ⟨b0, b1⟩ := (inI_iff2 _ _ _).1 h1
    have e1 : IntKind.i64.wrap (180 - g) = 180 - g := IntWalk.i64_in _ (by omega)
    have e2 : IntKind.i64.wrap (90 * t) = 90 * t := IntWalk.i64_in _ (by omega)
    have e3 : IntKind.i64.wrap (180 - g + 90 * t) = 180 - g + 90 * t := IntWalk.i64_in _ (by omega)
    have e4 : IntKind.i64.wrap (g + 90 * t) = g + 90 * t := IntWalk.i64_in _ (by omega)
    have e5 : (180 - g + 90 * t).tmod 180 = (180 - g + 90 * t) % 180 := Int.tmod_eq_emod_of_nonneg (by omega)
    have e6 : (g + 90 * t).tmod 180 = (g + 90 * t) % 180 := Int.tmod_eq_emod_of_nonneg (by omega)
    have e7 : IntKind.i64.wrap ((180 - g + 90 * t) % 180) = (180 - g + 90 * t) % 180 := IntWalk.i64_in _ (by omega)
    have e8 : IntKind.i64.wrap ((g + 90 * t) % 180) = (g + 90 * t) % 180 := IntWalk.i64_in _ (by omega)
    by_cases h : 4 ≤ t
    · have HR := Lib.hid (show tgR g t = ((180 - g + 90 * t) % 180, 0) by unfold tgR tuI; rw [h0, h1, if_pos h]; rfl)
      rw [HR.out]
      go_enter Tryd.func81, Tryd.ntmps81
      go_wp2_with fail
      refine (grain_ven _ _).mono ?_
      rintro e w1 ⟨rfl, rfl⟩
      rw [h0]
      go_wp2_with fail
      refine (isturn_ven _ _).mono ?_
      rintro e w1 ⟨rfl, rfl⟩
      rw [h1]
      go_wp2
      go_ret2
      exact ⟨rfl, rfl⟩
    · have HR := Lib.hid (show tgR g t = ((g + 90 * t) % 180, 0) by unfold tgR tuI; rw [h0, h1, if_neg h]; rfl)
      rw [HR.out]
      go_enter Tryd.func81, Tryd.ntmps81
      go_wp2_with fail
      refine (grain_ven _ _).mono ?_
      rintro e w1 ⟨rfl, rfl⟩
      rw [h0]
      go_wp2_with fail
      refine (isturn_ven _ _).mono ?_
      rintro e w1 ⟨rfl, rfl⟩
      rw [h1]
      go_wp2
      go_ret2
      exact ⟨rfl, rfl⟩
theorem tg_same_impl (g t : Int) (w : World) : Calls Tryd.prog 81 #[.int .i64 g, .int .i64 t] w fun e w' => e = .returned (.tuple #[.int .i64 ((tgR g t).1), .int .i64 ((tgR g t).2)]) ∧ Below w.heap.size w w' :=
  (tg_impl g t w).mono fun e w2 h => ⟨h.1, h.2 ▸ Below.refl _ _⟩
end Go.Proofs.YtmfchcaidfloaaaDoor
