/- Blend of impl. -/
import Derived.Test.YtglbbpcdodlnmaaDoorBlendMath
namespace Go.Proofs.YtglbbpcdodlnmaaDoor
open Go.ChangeShapes Go.WideShapes Go.ChangeAt Go.RowKit

theorem cells4 (a b c d : Int) (t : TypeId) (w : World) : ∀ j, j < [a, b, c, d].length → (w.alloc (Obj.cells #[.int .i64 a, .int .i64 b, .int .i64 c, .int .i64 d] t)).cell? ⟨w.heap.size, 0 + j, none⟩ = some (.int .i64 ([a, b, c, d].getD j 0)) := by
  intro j hj
  match j, hj with
  | 0, _ => simp
  | 1, _ => simp
  | 2, _ => simp
  | 3, _ => simp
theorem cells1 (a : Int) (t : TypeId) (w : World) : ∀ j, j < [a].length → (w.alloc (Obj.cells #[.int .i64 a] t)).cell? ⟨w.heap.size, 0 + j, none⟩ = some (.int .i64 ([a].getD j 0)) := by
  intro j hj
  match j, hj with
  | 0, _ => simp
theorem allWithin4 (m a b c d : Int) (t : TypeId) (w : World) (hm0 : 0 ≤ m) (hm1 : m ≤ 1000000000000) :
    Calls Tryd.prog 40 #[.int .i64 m, .slice (some ⟨w.heap.size, 0, none⟩) 4 4] (w.alloc (Obj.cells #[.int .i64 a, .int .i64 b, .int .i64 c, .int .i64 d] t)) fun e w' => e = .returned (.bool (wiI m [a, b, c, d])) ∧ w.alloc (Obj.cells #[.int .i64 a, .int .i64 b, .int .i64 c, .int .i64 d] t) = w' :=
  allWithin_any m hm0 hm1 w.heap.size 0 4 4 [a, b, c, d] _ rfl (by omega) (cells4 a b c d t w)
theorem greatest1 (x a : Int) (t : TypeId) (b : Nat) (w : World) (hb : b = w.heap.size) :
    Calls Tryd.prog 44 #[.int .i64 x, .slice (some ⟨b, 0, none⟩) 1 1] (w.alloc (Obj.cells #[.int .i64 a] t)) fun e w' => e = .returned (.int .i64 (max x a)) ∧ w.alloc (Obj.cells #[.int .i64 a] t) = w' := by
  subst hb
  exact greatest_any x w.heap.size 0 1 1 [a] _ rfl (by omega) (cells1 a t w)
theorem least1 (x a : Int) (t : TypeId) (b : Nat) (w : World) (hb : b = w.heap.size) :
    Calls Tryd.prog 43 #[.int .i64 x, .slice (some ⟨b, 0, none⟩) 1 1] (w.alloc (Obj.cells #[.int .i64 a] t)) fun e w' => e = .returned (.int .i64 (min x a)) ∧ w.alloc (Obj.cells #[.int .i64 a] t) = w' := by
  subst hb
  exact least_any x w.heap.size 0 1 1 [a] _ rfl (by omega) (cells1 a t w)

set_option maxHeartbeats 1000000 in
theorem blend_impl (x0 y0 x1 y1 x : Int) (w : World) :
    Calls Tryd.prog 16 #[.int .i64 x0, .int .i64 y0, .int .i64 x1, .int .i64 y1, .int .i64 x] w fun e w' => e = .returned (.int .i64 (blI x0 y0 x1 y1 x)) ∧ Below w.heap.size w w' := by
  unfold blI
  cases hw : wiI 1000000 [x0, y0, x1, y1] with
  | false =>
    go_enter Tryd.func16, Tryd.ntmps16
    go_wp2_with ((with_reducible refine (allWithin4 _ _ _ _ _ _ _ (by omega) (by omega)).mono ?_); rintro e w' ⟨rfl, rfl⟩)
    go_ret
    exact ⟨rfl, (Below.refl _ _).alloc (Nat.le_refl _) _⟩
  | true =>
    have hr := hw
    rw [wi4] at hr
    simp only [inI, Bool.and_eq_true, decide_eq_true_eq] at hr
    obtain ⟨⟨⟨⟨a1, a2⟩, b1, b2⟩, c1, c2⟩, d1, d2⟩ := hr
    by_cases h : x1 ≤ x0
    · rw [if_pos rfl, lineI, if_pos (Or.inr h)]
      go_enter Tryd.func16, Tryd.ntmps16
      go_wp2_with ((with_reducible refine (allWithin4 _ _ _ _ _ _ _ (by omega) (by omega)).mono ?_); rintro e w' ⟨rfl, rfl⟩)
      go_ret
      exact ⟨rfl, (Below.refl _ _).alloc (Nat.le_refl _) _⟩
    · rw [if_pos rfl, ← line_held _ _ _ _ _ (by omega)]
      have hm := mul_bd (y1 - y0) (min (max x x0) x1 - x0) (by omega) (by omega) (by omega) (by omega)
      have hn := near_bd _ (x1 - x0) hm.1 hm.2
      have hl : x0 ≤ min (max x x0) x1 := by omega
      have hl2 : min (max x x0) x1 ≤ x1 := by omega
      go_enter Tryd.func16, Tryd.ntmps16
      go_wp2_with (first | ((with_reducible refine (allWithin4 _ _ _ _ _ _ _ (by omega) (by omega)).mono ?_); rintro e w' ⟨rfl, rfl⟩) | ((with_reducible refine (greatest1 _ _ _ _ _ (by simp)).mono ?_); rintro e w' ⟨rfl, rfl⟩) | ((with_reducible refine (least1 _ _ _ _ _ (by simp)).mono ?_); rintro e w' ⟨rfl, rfl⟩) | ((with_reducible refine (near_any _ _ _ (by omega) (by omega) (by omega) (by omega) (by omega)).mono ?_); rintro e w' ⟨rfl, n, rfl⟩))
      go_ret
      exact ⟨rfl, below_drewN ((((Below.refl _ _).alloc (Nat.le_refl _) _).alloc (by simp) _).alloc (by simp; omega) _) _⟩
end Go.Proofs.YtglbbpcdodlnmaaDoor
