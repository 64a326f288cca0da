/- RootOf of impl: the square root, rounded down, found bit by bit. -/
import Derived.Test.YthflkkkpggaalaaProg
import Derived.Test.YthflkkkpggaalaaK1
import Derived.LoopTactic
import Derived.IntWalk
import Derived.Test.YthflkkkpggaalaaShelf
import Derived.Laws.BitsAllLaws
import Derived.Lib.ItoaNum
namespace Go.Proofs.Ythflkkkpggaalaa
open Go.ChangeShapes Go.WideShapes Go.ChangeAt Go.RowKit

theorem bl_lt (x : Nat) (h : x < 9223372036854775808) : x < 2 ^ Lib.bitLen x ∧ Lib.bitLen x ≤ 63 := by
  refine ⟨?_, Lib.bitLen_le x 63 (by omega) h⟩
  by_cases h0 : x = 0
  · subst h0; exact Nat.two_pow_pos _
  · exact (Lib.bitLenAux_bounds 64 x (by omega) h0).2.2

/-- Before the bit k - 1 is tried: r is a multiple of 2^k, and the root is at least r and less than r + 2^k. -/
def BitInv (n r k : Nat) : Prop := r * r ≤ n ∧ n < (r + 2 ^ k) * (r + 2 ^ k) ∧ (∃ a, r = 2 ^ k * a) ∧ r + 2 ^ k ≤ 4294967296

theorem bit_start (n : Nat) (h : n < 9223372036854775808) : BitInv n 0 (Lib.bitLen n / 2 + 1) := by
  obtain ⟨h1, h2⟩ := bl_lt n h
  refine ⟨by omega, ?_, ⟨0, by simp⟩, ?_⟩
  · have e : (0 + 2 ^ (Lib.bitLen n / 2 + 1)) * (0 + 2 ^ (Lib.bitLen n / 2 + 1)) = 2 ^ (Lib.bitLen n / 2 + 1 + (Lib.bitLen n / 2 + 1)) := by
      rw [Nat.zero_add, ← Nat.pow_add]
    rw [e]
    exact Nat.lt_of_lt_of_le h1 (Nat.pow_le_pow_right (by omega) (by omega))
  · have : 2 ^ (Lib.bitLen n / 2 + 1) ≤ 2 ^ 32 := Nat.pow_le_pow_right (by omega) (by omega)
    omega
theorem bit_or (n r i : Nat) (h : BitInv n r (i + 1)) : r ||| 2 ^ i = r + 2 ^ i := by
  obtain ⟨_, _, ⟨a, rfl⟩, _⟩ := h
  exact (Nat.two_pow_add_eq_or_of_lt (by rw [Nat.pow_succ]; have := Nat.two_pow_pos i; omega) a).symm
theorem bit_yes (n r i : Nat) (h : BitInv n r (i + 1)) (ht : (r + 2 ^ i) * (r + 2 ^ i) ≤ n) : BitInv n (r + 2 ^ i) i := by
  obtain ⟨_, h2, ⟨a, rfl⟩, h4⟩ := h
  rw [Nat.pow_succ] at *
  have e : 2 ^ i * 2 * a + 2 ^ i + 2 ^ i = 2 ^ i * 2 * a + 2 ^ i * 2 := by omega
  refine ⟨ht, by rw [e]; exact h2, ⟨2 * a + 1, ?_⟩, by omega⟩
  rw [Nat.mul_add, Nat.mul_assoc, Nat.mul_one]
theorem bit_no (n r i : Nat) (h : BitInv n r (i + 1)) (ht : ¬ (r + 2 ^ i) * (r + 2 ^ i) ≤ n) : BitInv n r i := by
  obtain ⟨h1, _, ⟨a, rfl⟩, h4⟩ := h
  rw [Nat.pow_succ] at *
  exact ⟨h1, by omega, ⟨2 * a, by rw [Nat.mul_assoc]⟩, by omega⟩
theorem bit_end (n r : Nat) (h : BitInv n r 0) : (r : Int) = rootI n := by
  obtain ⟨h1, h2, _, _⟩ := h
  unfold rootI
  rw [Int.toNat_natCast]
  congr 1
  exact root_uniq n r h1 h2
theorem bit_sq (n r i : Nat) (h : BitInv n r (i + 1)) : r + 2 ^ i ≤ 4294967295 ∧ (r + 2 ^ i) * (r + 2 ^ i) ≤ 18446744065119617025 := by
  obtain ⟨_, _, _, h4⟩ := h
  rw [Nat.pow_succ] at h4
  have := Nat.two_pow_pos i
  have h5 : r + 2 ^ i ≤ 4294967295 := by omega
  exact ⟨h5, Nat.mul_le_mul h5 h5⟩

theorem or_eq (n R i : Nat) (h : BitInv n R (i + 1)) : bits .or .u64 (R : Int) (IntKind.u64.wrap (2 ^ i)) = ((R + 2 ^ i : Nat) : Int) := by
  have hq := (bit_sq n R i h).1
  have hb := bit_or n R i h
  have hc : ((2 : Int) ^ i) = ((2 ^ i : Nat) : Int) := by simp
  rw [hc]
  generalize 2 ^ i = T at *
  rw [IntWalk.u64_in _ (by omega), u64_or_nat R T (by omega) (by omega), hb]
theorem or_sq (n R i : Nat) (h : BitInv n R (i + 1)) : IntKind.u64.wrap (bits .or .u64 (R : Int) (IntKind.u64.wrap (2 ^ i)) * bits .or .u64 (R : Int) (IntKind.u64.wrap (2 ^ i))) = (((R + 2 ^ i) * (R + 2 ^ i) : Nat) : Int) := by
  have hq := (bit_sq n R i h).2
  rw [or_eq n R i h, ← Int.natCast_mul]
  exact IntWalk.u64_in _ (by omega)
theorem len_any (x : Int) (w : World) (h0 : 0 ≤ x) (h1 : x ≤ 18446744073709551615) :
    Calls Try.prog 150 #[.int .u64 x] w fun e w' => e = .returned (.int .i64 (Lib.bitLen x.toNat)) ∧ w = w' :=
  (Try.bits_Len64 x w h0 h1).mono fun _ _ h => ⟨h.1, h.2.symm⟩

set_option maxHeartbeats 400000 in
theorem root_nat (n : Nat) (w : World) (hn : n < 9223372036854775808) :
    Calls Try.prog 141 #[.int .i64 n] w fun e w' => e = .returned (.int .i64 (rootI n)) ∧ w = w' := by
  have hb := (bl_lt n hn).2
  have h0 := Lib.hid (bit_start n hn)
  go_enter Try.func141, Try.ntmps141
  go_wp2_with ((with_reducible refine (len_any _ _ (by omega) (by omega)).mono ?_); rintro e w' ⟨rfl, rfl⟩)
  go_loop [4, 5] (fun r b => ∃ (R : Nat) (B : Int), -1 ≤ B ∧ B ≤ 31 ∧ r = .int .u64 R ∧ b = .int .i64 B ∧ Hid (BitInv n R (B + 1).toNat)) (fun _ b => (intOf b + 1).toNat)
  case atStart => exact ⟨0, _, by omega, by omega, rfl, rfl, Lib.hid (by have e : ((Lib.bitLen n : Int) / 2 + 1).toNat = Lib.bitLen n / 2 + 1 := by omega
                                                                         rw [e]; exact h0.out)⟩
  case round =>
    obtain ⟨R, B, hB1, hB2, rfl, rfl, hi⟩ := hrel
    by_cases hB : 0 ≤ B
    · obtain ⟨i, rfl⟩ : ∃ i : Nat, B = i := ⟨B.toNat, by omega⟩
      have hj : BitInv n R (i + 1) := by have e : ((i : Int) + 1).toNat = i + 1 := by omega
                                         have := hi.out; rw [e] at this; exact this
      have HE := Lib.hid (or_eq n R i hj)
      have HQ := Lib.hid (or_sq n R i hj)
      have HJ := Lib.hid hj
      clear hj
      go_wp2
      · go_round
        case rel =>
          refine ⟨R + 2 ^ i, (i : Int) - 1, by omega, by omega, val_int HE.out, rfl, Lib.hid ?_⟩
          have ht := HQ.out ▸ (‹IntKind.u64.wrap _ ≤ (n : Int)›)
          rw [show ((i : Int) - 1 + 1).toNat = i by omega]
          exact bit_yes n R i HJ.out (by omega)
        case measure => simp [intOf]
      · go_round
        case rel =>
          refine ⟨R, (i : Int) - 1, by omega, by omega, rfl, rfl, Lib.hid ?_⟩
          have ht := HQ.out ▸ (‹(n : Int) < IntKind.u64.wrap _›)
          rw [show ((i : Int) - 1 + 1).toNat = i by omega]
          exact bit_no n R i HJ.out (by omega)
        case measure => simp [intOf]
    · go_wp2
      go_ret
      obtain rfl : B = -1 := by omega
      exact ⟨ret_int ((IntWalk.wrap64_in _ (by have h3 : R + 2 ^ 0 ≤ 4294967296 := hi.out.2.2.2; omega)).trans (bit_end n R hi.out)), rfl⟩

theorem root_impl (n : Int) (w : World) (hn : n ≤ 9223372036854775807) :
    Calls Try.prog 141 #[.int .i64 n] w fun e w' => e = .returned (.int .i64 (rootI n)) ∧ w = w' := by
  by_cases h : n < 0
  · rw [show rootI n = 0 by unfold rootI; rw [show n.toNat = 0 by omega]; rfl]
    go_enter Try.func141, Try.ntmps141
    go_wp2
    go_ret
    exact ⟨rfl, rfl⟩
  · obtain ⟨m, rfl⟩ : ∃ m : Nat, n = m := ⟨n.toNat, by omega⟩
    exact root_nat m w (by omega)
end Go.Proofs.Ythflkkkpggaalaa
