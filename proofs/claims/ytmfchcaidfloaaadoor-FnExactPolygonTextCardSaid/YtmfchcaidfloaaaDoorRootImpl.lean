/- RootOf of impl: the square root, rounded down, found bit by bit. -/
import Derived.Test.YtmfchcaidfloaaaDoorProg
import Derived.Test.YtmfchcaidfloaaaDoorK1
import Derived.LoopTactic
import Derived.IntWalk
import Derived.Test.YtmfchcaidfloaaaDoorShelf
import Derived.Laws.BitsAllLaws
import Derived.Lib.ItoaNum
namespace Go.Proofs.YtmfchcaidfloaaaDoor
open Go.ChangeShapes Go.WideShapes Go.ChangeAt Go.RowKit

theorem bl_lt (x : Nat) (h : x < 9223372036854775808) : x < 2 ^ Lib.bitLen x ∧ Lib.bitLen x ≤ 63 := by
  refine ⟨?_, Lib.bitLen_le x 63 (by omega) h⟩
  by_cases h0 : x = 0
  · subst h0; exact Nat.two_pow_pos _
  · exact (Lib.bitLenAux_bounds 64 x (by omega) h0).2.2

/-- Before the bit k - 1 is tried: r is a multiple of 2^k, and the root is at least r and less than r + 2^k. -/
def BitInv (n r k : Nat) : Prop := r * r ≤ n ∧ n < (r + 2 ^ k) * (r + 2 ^ k) ∧ (∃ a, r = 2 ^ k * a) ∧ r + 2 ^ k ≤ 4294967296

theorem bit_start (n : Nat) (h : n < 9223372036854775808) : BitInv n 0 (Lib.bitLen n / 2 + 1) := by
  obtain ⟨h1, h2⟩ := bl_lt n h
  refine ⟨by omega, ?_, ⟨0, by simp⟩, ?_⟩
  · have e : (0 + 2 ^ (Lib.bitLen n / 2 + 1)) * (0 + 2 ^ (Lib.bitLen n / 2 + 1)) = 2 ^ (Lib.bitLen n / 2 + 1 + (Lib.bitLen n / 2 + 1)) := by
      rw [Nat.zero_add, ← Nat.pow_add]
    rw [e]
    exact Nat.lt_of_lt_of_le h1 (Nat.pow_le_pow_right (by omega) (by omega))
  · have : 2 ^ (Lib.bitLen n / 2 + 1) ≤ 2 ^ 32 := Nat.pow_le_pow_right (by omega) (by omega)
    omega
theorem bit_or (n r i : Nat) (h : BitInv n r (i + 1)) : r ||| 2 ^ i = r + 2 ^ i := by
  obtain ⟨_, _, ⟨a, rfl⟩, _⟩ := h
  exact (Nat.two_pow_add_eq_or_of_lt (by rw [Nat.pow_succ]; have := Nat.two_pow_pos i; omega) a).symm
theorem bit_yes (n r i : Nat) (h : BitInv n r (i + 1)) (ht : (r + 2 ^ i) * (r + 2 ^ i) ≤ n) : BitInv n (r + 2 ^ i) i := by
  obtain ⟨_, h2, ⟨a, rfl⟩, h4⟩ := h
  rw [Nat.pow_succ] at *
  have e : 2 ^ i * 2 * a + 2 ^ i + 2 ^ i = 2 ^ i * 2 * a + 2 ^ i * 2 := by omega
  refine ⟨ht, by rw [e]; exact h2, ⟨2 * a + 1, ?_⟩, by omega⟩
  rw [Nat.mul_add, Nat.mul_assoc, Nat.mul_one]
theorem bit_no (n r i : Nat) (h : BitInv n r (i + 1)) (ht : ¬ (r + 2 ^ i) * (r + 2 ^ i) ≤ n) : BitInv n r i := by
  obtain ⟨h1, _, ⟨a, rfl⟩, h4⟩ := h
  rw [Nat.pow_succ] at *
  exact ⟨h1, by omega, ⟨2 * a, by rw [Nat.mul_assoc]⟩, by omega⟩
theorem bit_end (n r : Nat) (h : BitInv n r 0) : (r : Int) = rootI n := by
  obtain ⟨h1, h2, _, _⟩ := h
  unfold rootI
  rw [Int.toNat_natCast]
  congr 1
  exact root_uniq n r h1 h2
theorem bit_sq (n r i : Nat) (h : BitInv n r (i + 1)) : r + 2 ^ i ≤ 4294967295 ∧ (r + 2 ^ i) * (r + 2 ^ i) ≤ 18446744065119617025 := by
  obtain ⟨_, _, _, h4⟩ := h
  rw [Nat.pow_succ] at h4
  have := Nat.two_pow_pos i
  have h5 : r + 2 ^ i ≤ 4294967295 := by omega
  exact ⟨h5, Nat.mul_le_mul h5 h5⟩

theorem or_eq (n R i : Nat) (h : BitInv n R (i + 1)) : bits .or .u64 (R : Int) (IntKind.u64.wrap (2 ^ i)) = ((R + 2 ^ i : Nat) : Int) := by
  have hq := (bit_sq n R i h).1
  have hb := bit_or n R i h
  have hc : ((2 : Int) ^ i) = ((2 ^ i : Nat) : Int) := by simp
  rw [hc]
  generalize 2 ^ i = T at *
  rw [IntWalk.u64_in _ (by omega), u64_or_nat R T (by omega) (by omega), hb]
theorem or_sq (n R i : Nat) (h : BitInv n R (i + 1)) : IntKind.u64.wrap (bits .or .u64 (R : Int) (IntKind.u64.wrap (2 ^ i)) * bits .or .u64 (R : Int) (IntKind.u64.wrap (2 ^ i))) = (((R + 2 ^ i) * (R + 2 ^ i) : Nat) : Int) := by
  have hq := (bit_sq n R i h).2
  rw [or_eq n R i h, ← Int.natCast_mul]
  exact IntWalk.u64_in _ (by omega)
theorem len_any (x : Int) (w : World) (h0 : 0 ≤ x) (h1 : x ≤ 18446744073709551615) :
    Calls Tryd.prog 160 #[.int .u64 x] w fun e w' => e = .returned (.int .i64 (Lib.bitLen x.toNat)) ∧ w = w' :=
  (Tryd.bits_Len64 x w h0 h1).mono fun _ _ h => ⟨h.1, h.2.symm⟩

end Go.Proofs.YtmfchcaidfloaaaDoor
