/- Blend of spec and of impl: both answer the number on the line. -/
import Derived.Test.YtglbbpcdodlnmaaDiv
namespace Go.Proofs.Ytglbbpcdodlnmaa
open Go.ChangeShapes Go.WideShapes Go.ChangeAt Go.RowKit

def lineI (x0 y0 x1 y1 x : Int) : Int := if x ≤ x0 ∨ x1 ≤ x0 then y0 else if x1 ≤ x then y1 else y0 + nearI ((y1 - y0) * (x - x0)) (x1 - x0)
def blI (x0 y0 x1 y1 x : Int) : Int := if wiI 1000000 [x0, y0, x1, y1] then lineI x0 y0 x1 y1 x else 0
theorem wi4 (m a b c d : Int) : wiI m [a, b, c, d] = (inI a (-m) m && inI b (-m) m && inI c (-m) m && inI d (-m) m) := by
  simp [wiI, inI, Bool.and_assoc]

theorem mul_bd (a b : Int) (h1 : -2000000 ≤ a) (h2 : a ≤ 2000000) (h3 : -2000000 ≤ b) (h4 : b ≤ 2000000) : -4000000000000 ≤ a * b ∧ a * b ≤ 4000000000000 := by
  have h : (a * b).natAbs ≤ 2000000 * 2000000 := by
    rw [Int.natAbs_mul]; exact Nat.mul_le_mul (by omega) (by omega)
  omega
theorem near_bd (a b : Int) (h1 : -4000000000000 ≤ a) (h2 : a ≤ 4000000000000) : -4000000000001 ≤ nearI a b ∧ nearI a b ≤ 4000000000001 := by
  have := tdiv_bd a b 4000000000000 (by omega)
  unfold nearI
  split
  · omega
  · split <;> omega
theorem near_zero (b : Int) : nearI 0 b = 0 ∨ b = 0 := by
  by_cases h : b = 0
  · exact Or.inr h
  · left; unfold nearI; simp; omega
theorem near_mul (c b : Int) (h : b ≠ 0) : nearI (c * b) b = c := by
  unfold nearI
  rw [Int.natAbs_mul, Nat.mul_mod_left, if_pos (by omega), Int.mul_tdiv_cancel _ h]

/-- The form of impl: x is held between the ends. -/
theorem line_held (x0 y0 x1 y1 x : Int) (h : x0 < x1) : y0 + nearI ((y1 - y0) * (min (max x x0) x1 - x0)) (x1 - x0) = lineI x0 y0 x1 y1 x := by
  unfold lineI
  by_cases h1 : x ≤ x0
  · rw [if_pos (Or.inl h1), show min (max x x0) x1 - x0 = 0 by omega, Int.mul_zero]
    rcases near_zero (x1 - x0) with h2 | h2 <;> omega
  · rw [if_neg (by omega)]
    by_cases h2 : x1 ≤ x
    · rw [if_pos h2, show min (max x x0) x1 - x0 = x1 - x0 by omega, near_mul _ _ (by omega)]; omega
    · rw [if_neg h2, show min (max x x0) x1 = x by omega]

set_option maxHeartbeats 400000 in
theorem l01Line_any (x0 y0 x1 y1 x : Int) (w : World) (a1 : -1000000 ≤ x0) (a2 : x0 ≤ 1000000) (b1 : -1000000 ≤ y0) (b2 : y0 ≤ 1000000) (c1 : -1000000 ≤ x1) (c2 : x1 ≤ 1000000) (d1 : -1000000 ≤ y1) (d2 : y1 ≤ 1000000) :
    Calls Try.prog 28 #[.int .i64 x0, .int .i64 y0, .int .i64 x1, .int .i64 y1, .int .i64 x] w fun e w' => e = .returned (.int .i64 (lineI x0 y0 x1 y1 x)) ∧ w = w' := by
  unfold lineI
  by_cases h1 : x ≤ x0
  · rw [if_pos (Or.inl h1)]
    go_enter Try.func28, Try.ntmps28
    go_wp2
    go_ret
    exact ⟨rfl, rfl⟩
  by_cases h2 : x1 ≤ x0
  · rw [if_pos (Or.inr h2)]
    go_enter Try.func28, Try.ntmps28
    go_wp2
    go_ret
    exact ⟨rfl, rfl⟩
  rw [if_neg (by omega)]
  have h2' : decide (x1 ≤ x0) = false := by simpa using h2
  by_cases h3 : x1 ≤ x
  · rw [if_pos h3]
    go_enter Try.func28, Try.ntmps28
    go_wp2
    go_ret
    exact ⟨rfl, rfl⟩
  · rw [if_neg h3]
    have hm := mul_bd (y1 - y0) (x - x0) (by omega) (by omega) (by omega) (by omega)
    have hn := near_bd _ (x1 - x0) hm.1 hm.2
    go_enter Try.func28, Try.ntmps28
    go_wp2_with ((with_reducible refine (l01Div_any _ _ _ (by omega) (by omega) (by omega) (by omega) (by omega)).mono ?_); rintro e w' ⟨rfl, rfl⟩)
    go_ret
    exact ⟨rfl, rfl⟩

theorem cells4 (a b c d : Int) (t : TypeId) (w : World) : ∀ j, j < [a, b, c, d].length → (w.alloc (Obj.cells #[.int .i64 a, .int .i64 b, .int .i64 c, .int .i64 d] t)).cell? ⟨w.heap.size, 0 + j, none⟩ = some (.int .i64 ([a, b, c, d].getD j 0)) := by
  intro j hj
  match j, hj with
  | 0, _ => simp
  | 1, _ => simp
  | 2, _ => simp
  | 3, _ => simp
theorem cells1 (a : Int) (t : TypeId) (w : World) : ∀ j, j < [a].length → (w.alloc (Obj.cells #[.int .i64 a] t)).cell? ⟨w.heap.size, 0 + j, none⟩ = some (.int .i64 ([a].getD j 0)) := by
  intro j hj
  match j, hj with
  | 0, _ => simp
theorem allWithin4 (m a b c d : Int) (t : TypeId) (w : World) (hm0 : 0 ≤ m) (hm1 : m ≤ 1000000000000) :
    Calls Try.prog 26 #[.int .i64 m, .slice (some ⟨w.heap.size, 0, none⟩) 4 4] (w.alloc (Obj.cells #[.int .i64 a, .int .i64 b, .int .i64 c, .int .i64 d] t)) fun e w' => e = .returned (.bool (wiI m [a, b, c, d])) ∧ w.alloc (Obj.cells #[.int .i64 a, .int .i64 b, .int .i64 c, .int .i64 d] t) = w' :=
  allWithin_any m hm0 hm1 w.heap.size 0 4 4 [a, b, c, d] _ rfl (by omega) (cells4 a b c d t w)
theorem greatest1 (x a : Int) (t : TypeId) (b : Nat) (w : World) (hb : b = w.heap.size) :
    Calls Try.prog 30 #[.int .i64 x, .slice (some ⟨b, 0, none⟩) 1 1] (w.alloc (Obj.cells #[.int .i64 a] t)) fun e w' => e = .returned (.int .i64 (max x a)) ∧ w.alloc (Obj.cells #[.int .i64 a] t) = w' := by
  subst hb
  exact greatest_any x w.heap.size 0 1 1 [a] _ rfl (by omega) (cells1 a t w)
theorem least1 (x a : Int) (t : TypeId) (b : Nat) (w : World) (hb : b = w.heap.size) :
    Calls Try.prog 29 #[.int .i64 x, .slice (some ⟨b, 0, none⟩) 1 1] (w.alloc (Obj.cells #[.int .i64 a] t)) fun e w' => e = .returned (.int .i64 (min x a)) ∧ w.alloc (Obj.cells #[.int .i64 a] t) = w' := by
  subst hb
  exact least_any x w.heap.size 0 1 1 [a] _ rfl (by omega) (cells1 a t w)

set_option maxHeartbeats 1000000 in
theorem blend_spec (x0 y0 x1 y1 x : Int) (w : World) :
    Calls Try.prog 16 #[.int .i64 x0, .int .i64 y0, .int .i64 x1, .int .i64 y1, .int .i64 x] w fun e w' => e = .returned (.int .i64 (blI x0 y0 x1 y1 x)) ∧ w = w' := by
  unfold blI
  rw [wi4]
  cases h1 : inI x0 (-1000000) 1000000
  all_goals cases h2 : inI y0 (-1000000) 1000000
  all_goals cases h3 : inI x1 (-1000000) 1000000
  all_goals cases h4 : inI y1 (-1000000) 1000000
  case true.true.true.true =>
    have r1 := h1
    have r2 := h2
    have r3 := h3
    have r4 := h4
    simp only [inI, Bool.and_eq_true, decide_eq_true_eq] at r1 r2 r3 r4
    go_enter Try.func16, Try.ntmps16
    go_wp2_with (first | ((with_reducible refine (in_any _ _ _ _).mono ?_); rintro e w' ⟨rfl, rfl⟩) | ((with_reducible refine (l01Line_any _ _ _ _ _ _ (by omega) (by omega) (by omega) (by omega) (by omega) (by omega) (by omega) (by omega)).mono ?_); rintro e w' ⟨rfl, rfl⟩))
    go_ret
    exact ⟨rfl, rfl⟩
  all_goals
    go_enter Try.func16, Try.ntmps16
    go_wp2_with (first | ((with_reducible refine (in_any _ _ _ _).mono ?_); rintro e w' ⟨rfl, rfl⟩))
    go_ret
    exact ⟨rfl, rfl⟩

set_option maxHeartbeats 1000000 in
theorem blend_impl (x0 y0 x1 y1 x : Int) (w : World) :
    Calls Try.prog 17 #[.int .i64 x0, .int .i64 y0, .int .i64 x1, .int .i64 y1, .int .i64 x] w fun e w' => e = .returned (.int .i64 (blI x0 y0 x1 y1 x)) ∧ Below w.heap.size w w' := by
  unfold blI
  cases hw : wiI 1000000 [x0, y0, x1, y1] with
  | false =>
    go_enter Try.func17, Try.ntmps17
    go_wp2_with ((with_reducible refine (allWithin4 _ _ _ _ _ _ _ (by omega) (by omega)).mono ?_); rintro e w' ⟨rfl, rfl⟩)
    go_ret
    exact ⟨rfl, (Below.refl _ _).alloc (Nat.le_refl _) _⟩
  | true =>
    have hr := hw
    rw [wi4] at hr
    simp only [inI, Bool.and_eq_true, decide_eq_true_eq] at hr
    obtain ⟨⟨⟨⟨a1, a2⟩, b1, b2⟩, c1, c2⟩, d1, d2⟩ := hr
    by_cases h : x1 ≤ x0
    · rw [if_pos rfl, lineI, if_pos (Or.inr h)]
      go_enter Try.func17, Try.ntmps17
      go_wp2_with ((with_reducible refine (allWithin4 _ _ _ _ _ _ _ (by omega) (by omega)).mono ?_); rintro e w' ⟨rfl, rfl⟩)
      go_ret
      exact ⟨rfl, (Below.refl _ _).alloc (Nat.le_refl _) _⟩
    · rw [if_pos rfl, ← line_held _ _ _ _ _ (by omega)]
      have hm := mul_bd (y1 - y0) (min (max x x0) x1 - x0) (by omega) (by omega) (by omega) (by omega)
      have hn := near_bd _ (x1 - x0) hm.1 hm.2
      have hl : x0 ≤ min (max x x0) x1 := by omega
      have hl2 : min (max x x0) x1 ≤ x1 := by omega
      go_enter Try.func17, Try.ntmps17
      go_wp2_with (first | ((with_reducible refine (allWithin4 _ _ _ _ _ _ _ (by omega) (by omega)).mono ?_); rintro e w' ⟨rfl, rfl⟩) | ((with_reducible refine (greatest1 _ _ _ _ _ (by simp)).mono ?_); rintro e w' ⟨rfl, rfl⟩) | ((with_reducible refine (least1 _ _ _ _ _ (by simp)).mono ?_); rintro e w' ⟨rfl, rfl⟩) | ((with_reducible refine (near_any _ _ _ (by omega) (by omega) (by omega) (by omega) (by omega)).mono ?_); rintro e w' ⟨rfl, n, rfl⟩))
      go_ret
      exact ⟨rfl, below_drewN ((((Below.refl _ _).alloc (Nat.le_refl _) _).alloc (by simp) _).alloc (by simp; omega) _) _⟩
end Go.Proofs.Ytglbbpcdodlnmaa
