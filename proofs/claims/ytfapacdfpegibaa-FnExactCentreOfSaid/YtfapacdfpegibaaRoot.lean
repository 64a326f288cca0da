/- RootOf of spec: the square root, rounded down. -/
import Derived.Test.YtfapacdfpegibaaProg
import Derived.Test.YtfapacdfpegibaaRootMath
import Derived.LoopTactic
import Derived.IntWalk
namespace Go.Proofs.Ytfapacdfpegibaa
open Go.ChangeShapes Go.WideShapes Go.ChangeAt Go.RowKit

def RootInv (n lo hi : Int) : Prop := (lo = 0 ∨ lo * lo ≤ n) ∧ n < (hi + 1) * (hi + 1)

theorem sq_bd (m : Int) (h0 : 0 ≤ m) (h1 : m ≤ 3037000499) : 0 ≤ m * m ∧ m * m ≤ 9223372030926249001 := by
  refine ⟨Int.mul_nonneg h0 h0, ?_⟩
  have := Int.mul_le_mul h1 h1 h0 (by omega)
  omega

set_option maxHeartbeats 400000 in
theorem l01Root_any (n : Int) (w : World) (hn : n ≤ 9223372036854775807) :
    Calls Try.prog 149 #[.int .i64 n] w fun e w' => e = .returned (.int .i64 (rootI n)) ∧ w = w' := by
  have h0 : Hid (RootInv n 0 3037000499) := Lib.hid ⟨Or.inl rfl, by omega⟩
  go_enter Try.func149, Try.ntmps149
  go_wp2
  go_loop [3, 4] (fun l h => ∃ lo hi : Int, 0 ≤ lo ∧ lo ≤ hi ∧ hi ≤ 3037000499 ∧ l = .int .i64 lo ∧ h = .int .i64 hi ∧ Hid (RootInv n lo hi)) (fun l h => (intOf h - intOf l).toNat)
  case atStart => exact ⟨0, 3037000499, by omega, by omega, by omega, rfl, rfl, h0⟩
  case round =>
    obtain ⟨lo, hi, hl, hlh, hh, rfl, rfl, hi0⟩ := hrel
    by_cases hlt : lo < hi
    · have hs := sq_bd ((lo + hi + 1) / 2) (by omega) (by omega)
      by_cases ht : (lo + hi + 1) / 2 * ((lo + hi + 1) / 2) ≤ n
      · have hn1 : Hid (RootInv n ((lo + hi + 1) / 2) hi) := Lib.hid ⟨Or.inr ht, hi0.out.2⟩
        go_wp2
        go_round
        case rel => exact ⟨_, hi, by omega, by omega, hh, rfl, rfl, hn1⟩
        case measure => simp [intOf]; omega
      · have hn1 : Hid (RootInv n lo ((lo + hi + 1) / 2 - 1)) := Lib.hid ⟨hi0.out.1, by rw [Int.sub_add_cancel]; omega⟩
        go_wp2
        go_round
        case rel => exact ⟨lo, _, hl, by omega, by omega, rfl, rfl, hn1⟩
        case measure => simp [intOf]; omega
    · obtain rfl : lo = hi := by omega
      go_wp2
      go_ret
      exact ⟨ret_int (root_of n lo hl hi0.out.1 hi0.out.2), rfl⟩
end Go.Proofs.Ytfapacdfpegibaa
