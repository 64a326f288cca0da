/- DivRound of impl: the nearest quotient. -/
import Derived.Test.YthjimogeimigmaaDoorDivMath
namespace Go.Proofs.YthjimogeimigmaaDoor
open Go.ChangeShapes Go.WideShapes Go.ChangeAt Go.RowKit

theorem cells2 (a b : Int) (t : TypeId) (w : World) : ∀ j, j < [a, b].length → (w.alloc (Obj.cells #[.int .i64 a, .int .i64 b] t)).cell? ⟨w.heap.size, 0 + j, none⟩ = some (.int .i64 ([a, b].getD j 0)) := by
  intro j hj
  match j, hj with
  | 0, _ => simp
  | 1, _ => simp
theorem allWithin2 (m a b : Int) (t : TypeId) (w : World) (hm0 : 0 ≤ m) (hm1 : m ≤ 1000000000000) :
    Calls Tryd.prog 79 #[.int .i64 m, .slice (some ⟨w.heap.size, 0, none⟩) 2 2] (w.alloc (Obj.cells #[.int .i64 a, .int .i64 b] t)) fun e w' => e = .returned (.bool (wiI m [a, b])) ∧ w.alloc (Obj.cells #[.int .i64 a, .int .i64 b] t) = w' :=
  allWithin_any m hm0 hm1 w.heap.size 0 2 2 [a, b] _ rfl (by omega) (cells2 a b t w)

set_option maxHeartbeats 400000 in
theorem divRound_impl (a b : Int) (w : World) :
    Calls Tryd.prog 66 #[.int .i64 a, .int .i64 b] w fun e w' => e = .returned (.int .i64 (drI a b)) ∧ Below w.heap.size w w' := by
  unfold drI
  by_cases hb : b = 0
  · subst hb
    go_enter Tryd.func66, Tryd.ntmps66
    go_wp2
    go_ret
    exact ⟨rfl, Below.refl _ _⟩
  have hb0 : (b == 0) = false := by rw [beq_eq_false_iff_ne]; exact hb
  rw [hb0]
  cases h1 : wiI 1000000000000 [a, b] with
  | false =>
    go_enter Tryd.func66, Tryd.ntmps66
    go_wp2_with ((with_reducible refine (allWithin2 _ _ _ _ _ (by omega) (by omega)).mono ?_); rintro e w' ⟨rfl, rfl⟩)
    go_ret
    exact ⟨rfl, (Below.refl _ _).alloc (Nat.le_refl _) _⟩
  | true =>
    have hr := h1
    rw [wi2] at hr
    simp only [inI, Bool.and_eq_true, decide_eq_true_eq] at hr
    obtain ⟨⟨r1, r2⟩, r3, r4⟩ := hr
    go_enter Tryd.func66, Tryd.ntmps66
    go_wp2_with (first | ((with_reducible refine (allWithin2 _ _ _ _ _ (by omega) (by omega)).mono ?_); rintro e w' ⟨rfl, rfl⟩) | ((with_reducible refine (near_any _ _ _ (by omega) (by omega) (by omega) (by omega) hb).mono ?_); rintro e w' ⟨rfl, n, rfl⟩))
    go_ret
    exact ⟨rfl, below_drewN ((Below.refl _ _).alloc (Nat.le_refl _) _) _⟩
end Go.Proofs.YthjimogeimigmaaDoor
