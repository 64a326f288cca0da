/- The square root, rounded down. -/
import Derived.Test.YtcbbhpabiijpoaaBase
namespace Go.Proofs.Ytcbbhpabiijpoaa
open Go.ChangeShapes Go.WideShapes Go.ChangeAt Go.RowKit

def natRoot : Nat → Nat
  | 0 => 0
  | n + 1 => if (natRoot n + 1) * (natRoot n + 1) ≤ n + 1 then natRoot n + 1 else natRoot n
theorem natRoot_spec (n : Nat) : natRoot n * natRoot n ≤ n ∧ n < (natRoot n + 1) * (natRoot n + 1) := by
  induction n with
  | zero => simp [natRoot]
  | succ n ih =>
    rw [natRoot]
    split
    · rename_i h
      refine ⟨h, ?_⟩
      have e : (natRoot n + 1 + 1) * (natRoot n + 1 + 1) = (natRoot n + 1) * (natRoot n + 1) + 2 * natRoot n + 3 := by
        simp only [Nat.add_mul, Nat.mul_add]; omega
      omega
    · rename_i h
      exact ⟨by omega, by omega⟩
def rootI (n : Int) : Int := natRoot n.toNat

theorem sq_lt {a b : Nat} (h : a < b) : (a + 1) * (a + 1) ≤ b * b := Nat.mul_le_mul h h
theorem root_uniq (n r : Nat) (h1 : r * r ≤ n) (h2 : n < (r + 1) * (r + 1)) : r = natRoot n := by
  obtain ⟨g1, g2⟩ := natRoot_spec n
  rcases Nat.lt_trichotomy r (natRoot n) with h | h | h
  · have := sq_lt h; omega
  · exact h
  · have := sq_lt h; omega
theorem root_of (n r : Int) (hr : 0 ≤ r) (h1 : r = 0 ∨ r * r ≤ n) (h2 : n < (r + 1) * (r + 1)) : r = rootI n := by
  obtain ⟨R, rfl⟩ : ∃ R : Nat, r = R := ⟨r.toNat, by omega⟩
  unfold rootI
  congr 1
  by_cases hn : 0 ≤ n
  · obtain ⟨N, rfl⟩ : ∃ N : Nat, n = N := ⟨n.toNat, by omega⟩
    apply root_uniq
    · rcases h1 with h1 | h1
      · have : R = 0 := by omega
        subst this; omega
      · have h1' : ((R * R : Nat) : Int) ≤ N := by rw [Int.natCast_mul]; exact h1
        simp; omega
    · have h2' : (N : Int) < (((R + 1) * (R + 1) : Nat) : Int) := by rw [Int.natCast_mul, Int.natCast_add]; exact h2
      simp; omega
  · have e : n.toNat = 0 := by omega
    rw [e]
    rcases h1 with h1 | h1
    · simp [natRoot]; omega
    · have : 0 ≤ (R : Int) * R := Int.mul_nonneg (by omega) (by omega)
      omega

end Go.Proofs.Ytcbbhpabiijpoaa
