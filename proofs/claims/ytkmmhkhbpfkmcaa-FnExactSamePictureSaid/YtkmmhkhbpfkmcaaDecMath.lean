/- The decimal digits of a number, the last one first; with their order turned they are the numeral. -/
import Derived.Lib.ItoaNum
namespace Go.Proofs.Ytkmmhkhbpfkmcaa

def revD (m : Nat) : List UInt8 := if h : m = 0 then [] else UInt8.ofNat (48 + m % 10) :: revD (m / 10)
  termination_by m
  decreasing_by omega

theorem revD_zero : revD 0 = [] := by rw [revD, dif_pos rfl]
theorem revD_pos (m : Nat) (h : m ≠ 0) : revD m = UInt8.ofNat (48 + m % 10) :: revD (m / 10) := by rw [revD, dif_neg h]
theorem revD_len : ∀ (k m : Nat), m < 10 ^ k → (revD m).length ≤ k
  | 0, m, h => by have : m = 0 := by simp at h; omega
                  subst this; rw [revD_zero]; simp
  | k + 1, m, h => by
    by_cases h0 : m = 0
    · subst h0; rw [revD_zero]; simp
    · rw [revD_pos m h0, List.length_cons]
      have := revD_len k (m / 10) (by rw [Nat.pow_succ] at h; omega)
      omega
theorem dec_rev (m : Nat) (h : m ≠ 0) : Lib.decDigits m = (revD m).reverse := by
  induction m using Nat.strongRecOn with
  | _ m ih =>
    by_cases h10 : m < 10
    · rw [Lib.decDigits_one h10, revD_pos m h, show m / 10 = 0 by omega, revD_zero, show m % 10 = m by omega]; rfl
    · rw [Lib.decDigits, dif_neg h10, revD_pos m h, List.reverse_cons, ih (m / 10) (by omega) (by omega)]
theorem itoa_zero : Lib.itoa 0 = [48] := by
  unfold Lib.itoa; rw [if_neg (by omega)]; exact Lib.decDigits_one (by omega)
theorem itoa_pos (m : Nat) (h : m ≠ 0) : Lib.itoa m = (revD m).reverse := by
  unfold Lib.itoa; rw [if_neg (by omega), Int.toNat_natCast, dec_rev m h]
theorem itoa_neg (m : Nat) (h : m ≠ 0) : Lib.itoa (-(m : Int)) = (revD m ++ [45]).reverse := by
  unfold Lib.itoa; rw [if_pos (by omega), Int.natAbs_neg, Int.natAbs_natCast, dec_rev m h]; simp
end Go.Proofs.Ytkmmhkhbpfkmcaa
