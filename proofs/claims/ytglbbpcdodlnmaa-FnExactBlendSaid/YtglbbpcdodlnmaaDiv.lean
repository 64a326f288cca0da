/- DivRound and l01Div of spec, DivRound of impl: all answer the nearest quotient. -/
import Derived.Test.YtglbbpcdodlnmaaNear
import Derived.Test.YtglbbpcdodlnmaaLeast
namespace Go.Proofs.Ytglbbpcdodlnmaa
open Go.ChangeShapes Go.WideShapes Go.ChangeAt Go.RowKit

theorem natnear (A B : Nat) (h : 0 < B) : (2 * A + B) / (2 * B) = if 2 * (A % B) < B then A / B else A / B + 1 := by
  have e := Nat.div_add_mod A B
  have l := Nat.mod_lt A h
  have e2 : A / B * (2 * B) = 2 * (B * (A / B)) := by rw [Nat.mul_comm (A / B), Nat.mul_assoc]
  have e3 : (A / B + 1) * (2 * B) = 2 * (B * (A / B)) + 2 * B := by rw [Nat.add_mul, e2]; omega
  have e4 : (A / B + 1 + 1) * (2 * B) = 2 * (B * (A / B)) + 2 * B + 2 * B := by rw [Nat.add_mul, e3]; omega
  split
  · apply Nat.div_eq_of_lt_le
    · rw [e2]; omega
    · rw [e3]; omega
  · apply Nat.div_eq_of_lt_le
    · rw [e3]; omega
    · rw [e4]; omega

theorem near_nn (A B : Nat) (h : 0 < B) : nearI A B = ((2 * A + B) / (2 * B) : Nat) := by
  rw [natnear A B h, nearI]
  have h1 : decide ((A : Int) < 0) = false := by simp
  have h2 : decide ((B : Int) < 0) = false := by simp
  simp only [Int.natAbs_natCast, h1, h2]
  split <;> simp
theorem near_pn (A B : Nat) (h : 0 < B) : nearI (-(A : Int)) B = -((2 * A + B) / (2 * B) : Nat) := by
  rw [natnear A B h, nearI]
  have h2 : decide ((B : Int) < 0) = false := by simp
  simp only [Int.natAbs_neg, Int.natAbs_natCast, h2, Int.neg_tdiv]
  by_cases h3 : A = 0
  · subst h3; simp [h]
  have h1 : decide (-(A : Int) < 0) = true := by simp; omega
  rw [h1]
  split <;> simp; omega
theorem near_negneg (a b : Int) (h : b ≠ 0) : nearI (-a) (-b) = nearI a b := by
  by_cases h0 : a = 0
  · subst h0
    simp only [nearI]
    have : 0 < b.natAbs := by omega
    simp [this]
  unfold nearI
  have e : (decide (-a < 0) = decide (-b < 0)) ↔ (decide (a < 0) = decide (b < 0)) := by
    have ha : decide (-a < 0) = !decide (a < 0) := by by_cases h1 : a < 0 <;> simp [h1] <;> omega
    have hb : decide (-b < 0) = !decide (b < 0) := by by_cases h1 : b < 0 <;> simp [h1] <;> omega
    rw [ha, hb]; simp
  simp only [Int.natAbs_neg, Int.neg_tdiv, Int.tdiv_neg, Int.neg_neg, e]

/-- What spec computes. -/
def divI (a b : Int) : Int := if a < 0 then -((b - 2 * a) / (2 * b)) else (2 * a + b) / (2 * b)
theorem neg_in (x y : Int) (h0 : 0 ≤ x) (h1 : x ≤ 1000000000000000) (hy : 1 ≤ y) : wrap64 (-(x / y)) = -(x / y) := by
  have := IntWalk.tdiv_le x y h0 hy
  exact IntWalk.wrap64_in _ (by omega)
theorem divI_eq (a b : Int) (h : 0 < b) : divI a b = nearI a b := by
  unfold divI
  obtain ⟨B, rfl⟩ : ∃ B : Nat, b = B := ⟨b.toNat, by omega⟩
  split
  · obtain ⟨A, rfl⟩ : ∃ A : Nat, a = -(A : Int) := ⟨a.natAbs, by omega⟩
    rw [near_pn A B (by omega)]
    congr 1
    rw [show (B : Int) - 2 * -(A : Int) = ((2 * A + B : Nat) : Int) by omega, show 2 * (B : Int) = ((2 * B : Nat) : Int) by omega]
    simp
  · obtain ⟨A, rfl⟩ : ∃ A : Nat, a = A := ⟨a.toNat, by omega⟩
    rw [near_nn A B (by omega)]
    rw [show 2 * (A : Int) + (B : Int) = ((2 * A + B : Nat) : Int) by omega, show 2 * (B : Int) = ((2 * B : Nat) : Int) by omega]
    simp

set_option maxHeartbeats 400000 in
theorem l01Div_any (a b : Int) (w : World) (ha1 : -10000000000000 ≤ a) (ha2 : a ≤ 10000000000000) (hb1 : -10000000000000 ≤ b) (hb2 : b ≤ 10000000000000) (hb : b ≠ 0) :
    Calls Try.prog 25 #[.int .i64 a, .int .i64 b] w fun e w' => e = .returned (.int .i64 (nearI a b)) ∧ w = w' := by
  by_cases h : b < 0
  · rw [← near_negneg a b hb, ← divI_eq (-a) (-b) (by omega)]
    unfold divI
    by_cases h2 : -a < 0
    · rw [if_pos h2]
      go_enter Try.func25, Try.ntmps25
      go_wp2
      go_ret
      exact ⟨ret_int (neg_in _ _ (by omega) (by omega) (by omega)), rfl⟩
    · rw [if_neg h2]
      go_enter Try.func25, Try.ntmps25
      go_wp2
      go_ret
      exact ⟨rfl, rfl⟩
  · rw [← divI_eq a b (by omega)]
    have hb' : 0 < b := by omega
    unfold divI
    by_cases h2 : a < 0
    · rw [if_pos h2]
      go_enter Try.func25, Try.ntmps25
      go_wp2
      go_ret
      exact ⟨ret_int (neg_in _ _ (by omega) (by omega) (by omega)), rfl⟩
    · rw [if_neg h2]
      go_enter Try.func25, Try.ntmps25
      go_wp2
      go_ret
      exact ⟨rfl, rfl⟩

def drI (a b : Int) : Int := if b == 0 || !wiI 1000000000000 [a, b] then 0 else nearI a b
theorem wi2 (m a b : Int) : wiI m [a, b] = (inI a (-m) m && inI b (-m) m) := by simp [wiI, inI]
theorem below_drewN {B : Nat} {a w : World} (h : Below B a w) (n : Nat) : Below B a (w.drewN n) := ⟨h.os, h.tape, h.output, h.size, h.block⟩

set_option maxHeartbeats 400000 in
theorem divRound_spec (a b : Int) (w : World) :
    Calls Try.prog 14 #[.int .i64 a, .int .i64 b] w fun e w' => e = .returned (.int .i64 (drI a b)) ∧ w = w' := by
  unfold drI
  rw [wi2]
  by_cases hb : b = 0
  · subst hb
    go_enter Try.func14, Try.ntmps14
    go_wp2
    go_ret
    exact ⟨rfl, rfl⟩
  have hb0 : (b == 0) = false := by rw [beq_eq_false_iff_ne]; exact hb
  rw [hb0]
  cases h1 : inI a (-1000000000000) 1000000000000 with
  | false =>
    go_enter Try.func14, Try.ntmps14
    go_wp2_with (first | ((with_reducible refine (in_any _ _ _ _).mono ?_); rintro e w' ⟨rfl, rfl⟩))
    go_ret
    exact ⟨rfl, rfl⟩
  | true =>
    cases h2 : inI b (-1000000000000) 1000000000000 with
    | false =>
      go_enter Try.func14, Try.ntmps14
      go_wp2_with (first | ((with_reducible refine (in_any _ _ _ _).mono ?_); rintro e w' ⟨rfl, rfl⟩))
      go_ret
      exact ⟨rfl, rfl⟩
    | true =>
      have ha := h1
      have hb2 := h2
      simp only [inI, Bool.and_eq_true, decide_eq_true_eq] at ha hb2
      go_enter Try.func14, Try.ntmps14
      go_wp2_with (first | ((with_reducible refine (in_any _ _ _ _).mono ?_); rintro e w' ⟨rfl, rfl⟩) | ((with_reducible refine (l01Div_any _ _ _ (by omega) (by omega) (by omega) (by omega) hb).mono ?_); rintro e w' ⟨rfl, rfl⟩))
      go_ret
      exact ⟨rfl, rfl⟩

theorem cells2 (a b : Int) (t : TypeId) (w : World) : ∀ j, j < [a, b].length → (w.alloc (Obj.cells #[.int .i64 a, .int .i64 b] t)).cell? ⟨w.heap.size, 0 + j, none⟩ = some (.int .i64 ([a, b].getD j 0)) := by
  intro j hj
  match j, hj with
  | 0, _ => simp
  | 1, _ => simp
theorem allWithin2 (m a b : Int) (t : TypeId) (w : World) (hm0 : 0 ≤ m) (hm1 : m ≤ 1000000000000) :
    Calls Try.prog 26 #[.int .i64 m, .slice (some ⟨w.heap.size, 0, none⟩) 2 2] (w.alloc (Obj.cells #[.int .i64 a, .int .i64 b] t)) fun e w' => e = .returned (.bool (wiI m [a, b])) ∧ w.alloc (Obj.cells #[.int .i64 a, .int .i64 b] t) = w' :=
  allWithin_any m hm0 hm1 w.heap.size 0 2 2 [a, b] _ rfl (by omega) (cells2 a b t w)

set_option maxHeartbeats 400000 in
theorem divRound_impl (a b : Int) (w : World) :
    Calls Try.prog 15 #[.int .i64 a, .int .i64 b] w fun e w' => e = .returned (.int .i64 (drI a b)) ∧ Below w.heap.size w w' := by
  unfold drI
  by_cases hb : b = 0
  · subst hb
    go_enter Try.func15, Try.ntmps15
    go_wp2
    go_ret
    exact ⟨rfl, Below.refl _ _⟩
  have hb0 : (b == 0) = false := by rw [beq_eq_false_iff_ne]; exact hb
  rw [hb0]
  cases h1 : wiI 1000000000000 [a, b] with
  | false =>
    go_enter Try.func15, Try.ntmps15
    go_wp2_with ((with_reducible refine (allWithin2 _ _ _ _ _ (by omega) (by omega)).mono ?_); rintro e w' ⟨rfl, rfl⟩)
    go_ret
    exact ⟨rfl, (Below.refl _ _).alloc (Nat.le_refl _) _⟩
  | true =>
    have hr := h1
    rw [wi2] at hr
    simp only [inI, Bool.and_eq_true, decide_eq_true_eq] at hr
    obtain ⟨⟨r1, r2⟩, r3, r4⟩ := hr
    go_enter Try.func15, Try.ntmps15
    go_wp2_with (first | ((with_reducible refine (allWithin2 _ _ _ _ _ (by omega) (by omega)).mono ?_); rintro e w' ⟨rfl, rfl⟩) | ((with_reducible refine (near_any _ _ _ (by omega) (by omega) (by omega) (by omega) hb).mono ?_); rintro e w' ⟨rfl, n, rfl⟩))
    go_ret
    exact ⟨rfl, below_drewN ((Below.refl _ _).alloc (Nat.le_refl _) _) _⟩
end Go.Proofs.Ytglbbpcdodlnmaa
