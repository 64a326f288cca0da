/- The nearest quotient: spec's form of it. -/
import Derived.Test.YthjimogeimigmaaDoorNear
import Derived.Test.YthjimogeimigmaaDoorK7
namespace Go.Proofs.YthjimogeimigmaaDoor
open Go.ChangeShapes Go.WideShapes Go.ChangeAt Go.RowKit

theorem natnear (A B : Nat) (h : 0 < B) : (2 * A + B) / (2 * B) = if 2 * (A % B) < B then A / B else A / B + 1 := by
  have e := Nat.div_add_mod A B
  have l := Nat.mod_lt A h
  have e2 : A / B * (2 * B) = 2 * (B * (A / B)) := by rw [Nat.mul_comm (A / B), Nat.mul_assoc]
  have e3 : (A / B + 1) * (2 * B) = 2 * (B * (A / B)) + 2 * B := by rw [Nat.add_mul, e2]; omega
  have e4 : (A / B + 1 + 1) * (2 * B) = 2 * (B * (A / B)) + 2 * B + 2 * B := by rw [Nat.add_mul, e3]; omega
  split
  · apply Nat.div_eq_of_lt_le
    · rw [e2]; omega
    · rw [e3]; omega
  · apply Nat.div_eq_of_lt_le
    · rw [e3]; omega
    · rw [e4]; omega

theorem near_nn (A B : Nat) (h : 0 < B) : nearI A B = ((2 * A + B) / (2 * B) : Nat) := by
  rw [natnear A B h, nearI]
  have h1 : decide ((A : Int) < 0) = false := by simp
  have h2 : decide ((B : Int) < 0) = false := by simp
  simp only [Int.natAbs_natCast, h1, h2]
  split <;> simp
theorem near_pn (A B : Nat) (h : 0 < B) : nearI (-(A : Int)) B = -((2 * A + B) / (2 * B) : Nat) := by
  rw [natnear A B h, nearI]
  have h2 : decide ((B : Int) < 0) = false := by simp
  simp only [Int.natAbs_neg, Int.natAbs_natCast, h2, Int.neg_tdiv]
  by_cases h3 : A = 0
  · subst h3; simp [h]
  have h1 : decide (-(A : Int) < 0) = true := by simp; omega
  rw [h1]
  split <;> simp; omega
theorem near_negneg (a b : Int) (h : b ≠ 0) : nearI (-a) (-b) = nearI a b := by
  by_cases h0 : a = 0
  · subst h0
    simp only [nearI]
    have : 0 < b.natAbs := by omega
    simp [this]
  unfold nearI
  have e : (decide (-a < 0) = decide (-b < 0)) ↔ (decide (a < 0) = decide (b < 0)) := by
    have ha : decide (-a < 0) = !decide (a < 0) := by by_cases h1 : a < 0 <;> simp [h1] <;> omega
    have hb : decide (-b < 0) = !decide (b < 0) := by by_cases h1 : b < 0 <;> simp [h1] <;> omega
    rw [ha, hb]; simp
  simp only [Int.natAbs_neg, Int.neg_tdiv, Int.tdiv_neg, Int.neg_neg, e]

/-- What spec computes. -/
def divI (a b : Int) : Int := if a < 0 then -((b - 2 * a) / (2 * b)) else (2 * a + b) / (2 * b)
theorem neg_in (x y : Int) (h0 : 0 ≤ x) (h1 : x ≤ 10000000000000000) (hy : 1 ≤ y) : wrap64 (-(x / y)) = -(x / y) := by
  have := IntWalk.tdiv_le x y h0 hy
  exact IntWalk.wrap64_in _ (by omega)
theorem divI_eq (a b : Int) (h : 0 < b) : divI a b = nearI a b := by
  unfold divI
  obtain ⟨B, rfl⟩ : ∃ B : Nat, b = B := ⟨b.toNat, by omega⟩
  split
  · obtain ⟨A, rfl⟩ : ∃ A : Nat, a = -(A : Int) := ⟨a.natAbs, by omega⟩
    rw [near_pn A B (by omega)]
    congr 1
    rw [show (B : Int) - 2 * -(A : Int) = ((2 * A + B : Nat) : Int) by omega, show 2 * (B : Int) = ((2 * B : Nat) : Int) by omega]
    simp
  · obtain ⟨A, rfl⟩ : ∃ A : Nat, a = A := ⟨a.toNat, by omega⟩
    rw [near_nn A B (by omega)]
    rw [show 2 * (A : Int) + (B : Int) = ((2 * A + B : Nat) : Int) by omega, show 2 * (B : Int) = ((2 * B : Nat) : Int) by omega]
    simp

def drI (a b : Int) : Int := if b == 0 || !wiI 1000000000000 [a, b] then 0 else nearI a b
theorem wi2 (m a b : Int) : wiI m [a, b] = (inI a (-m) m && inI b (-m) m) := by simp [wiI, inI]
theorem below_drewN {B : Nat} {a w : World} (h : Below B a w) (n : Nat) : Below B a (w.drewN n) := ⟨h.os, h.tape, h.output, h.size, h.block⟩

end Go.Proofs.YthjimogeimigmaaDoor
