/- RootOf of spec: the square root, rounded down. -/
import Derived.Test.YtglbbpcdodlnmaaBytes
import Derived.LoopTactic
import Derived.IntWalk
namespace Go.Proofs.Ytglbbpcdodlnmaa
open Go.ChangeShapes Go.WideShapes Go.ChangeAt Go.RowKit

def natRoot : Nat → Nat
  | 0 => 0
  | n + 1 => if (natRoot n + 1) * (natRoot n + 1) ≤ n + 1 then natRoot n + 1 else natRoot n
theorem natRoot_spec (n : Nat) : natRoot n * natRoot n ≤ n ∧ n < (natRoot n + 1) * (natRoot n + 1) := by
  induction n with
  | zero => simp [natRoot]
  | succ n ih =>
    rw [natRoot]
    split
    · rename_i h
      refine ⟨h, ?_⟩
      have e : (natRoot n + 1 + 1) * (natRoot n + 1 + 1) = (natRoot n + 1) * (natRoot n + 1) + 2 * natRoot n + 3 := by
        simp only [Nat.add_mul, Nat.mul_add]; omega
      omega
    · rename_i h
      exact ⟨by omega, by omega⟩
def rootI (n : Int) : Int := natRoot n.toNat

theorem sq_lt {a b : Nat} (h : a < b) : (a + 1) * (a + 1) ≤ b * b := Nat.mul_le_mul h h
theorem root_uniq (n r : Nat) (h1 : r * r ≤ n) (h2 : n < (r + 1) * (r + 1)) : r = natRoot n := by
  obtain ⟨g1, g2⟩ := natRoot_spec n
  rcases Nat.lt_trichotomy r (natRoot n) with h | h | h
  · have := sq_lt h; omega
  · exact h
  · have := sq_lt h; omega
theorem root_of (n r : Int) (hr : 0 ≤ r) (h1 : r = 0 ∨ r * r ≤ n) (h2 : n < (r + 1) * (r + 1)) : r = rootI n := by
  obtain ⟨R, rfl⟩ : ∃ R : Nat, r = R := ⟨r.toNat, by omega⟩
  unfold rootI
  congr 1
  by_cases hn : 0 ≤ n
  · obtain ⟨N, rfl⟩ : ∃ N : Nat, n = N := ⟨n.toNat, by omega⟩
    apply root_uniq
    · rcases h1 with h1 | h1
      · have : R = 0 := by omega
        subst this; omega
      · have h1' : ((R * R : Nat) : Int) ≤ N := by rw [Int.natCast_mul]; exact h1
        simp; omega
    · have h2' : (N : Int) < (((R + 1) * (R + 1) : Nat) : Int) := by rw [Int.natCast_mul, Int.natCast_add]; exact h2
      simp; omega
  · have e : n.toNat = 0 := by omega
    rw [e]
    rcases h1 with h1 | h1
    · simp [natRoot]; omega
    · have : 0 ≤ (R : Int) * R := Int.mul_nonneg (by omega) (by omega)
      omega

def RootInv (n lo hi : Int) : Prop := (lo = 0 ∨ lo * lo ≤ n) ∧ n < (hi + 1) * (hi + 1)

theorem sq_bd (m : Int) (h0 : 0 ≤ m) (h1 : m ≤ 3037000499) : 0 ≤ m * m ∧ m * m ≤ 9223372030926249001 := by
  refine ⟨Int.mul_nonneg h0 h0, ?_⟩
  have := Int.mul_le_mul h1 h1 h0 (by omega)
  omega

set_option maxHeartbeats 400000 in
theorem l01Root_any (n : Int) (w : World) (hn : n ≤ 9223372036854775807) :
    Calls Try.prog 23 #[.int .i64 n] w fun e w' => e = .returned (.int .i64 (rootI n)) ∧ w = w' := by
  have h0 : Hid (RootInv n 0 3037000499) := Lib.hid ⟨Or.inl rfl, by omega⟩
  go_enter Try.func23, Try.ntmps23
  go_wp2
  go_loop [3, 4] (fun l h => ∃ lo hi : Int, 0 ≤ lo ∧ lo ≤ hi ∧ hi ≤ 3037000499 ∧ l = .int .i64 lo ∧ h = .int .i64 hi ∧ Hid (RootInv n lo hi)) (fun l h => (intOf h - intOf l).toNat)
  case atStart => exact ⟨0, 3037000499, by omega, by omega, by omega, rfl, rfl, h0⟩
  case round =>
    obtain ⟨lo, hi, hl, hlh, hh, rfl, rfl, hi0⟩ := hrel
    by_cases hlt : lo < hi
    · have hs := sq_bd ((lo + hi + 1) / 2) (by omega) (by omega)
      by_cases ht : (lo + hi + 1) / 2 * ((lo + hi + 1) / 2) ≤ n
      · have hn1 : Hid (RootInv n ((lo + hi + 1) / 2) hi) := Lib.hid ⟨Or.inr ht, hi0.out.2⟩
        go_wp2
        go_round
        case rel => exact ⟨_, hi, by omega, by omega, hh, rfl, rfl, hn1⟩
        case measure => simp [intOf]; omega
      · have hn1 : Hid (RootInv n lo ((lo + hi + 1) / 2 - 1)) := Lib.hid ⟨hi0.out.1, by rw [Int.sub_add_cancel]; omega⟩
        go_wp2
        go_round
        case rel => exact ⟨lo, _, hl, by omega, by omega, rfl, rfl, hn1⟩
        case measure => simp [intOf]; omega
    · obtain rfl : lo = hi := by omega
      go_wp2
      go_ret
      exact ⟨ret_int (root_of n lo hl hi0.out.1 hi0.out.2), rfl⟩
theorem root_spec (n : Int) (w : World) (hn : n ≤ 9223372036854775807) :
    Calls Try.prog 12 #[.int .i64 n] w fun e w' => e = .returned (.int .i64 (rootI n)) ∧ w = w' := by
  go_enter Try.func12, Try.ntmps12
  go_wp2_with ((with_reducible refine (l01Root_any _ _ hn).mono ?_); rintro e w' ⟨rfl, rfl⟩)
  go_ret
  exact ⟨rfl, rfl⟩
end Go.Proofs.Ytglbbpcdodlnmaa
