/- The marks that laws write into a slice of the struct Box, and that they are held. -/
import Derived.Test.YtmfchcaidfloaaaDoorLay
namespace Go.Proofs.YtmfchcaidfloaaaDoor
open Go.ChangeShapes Go.WideShapes Go.ChangeAt Go.RowKit
set_option linter.unusedVariables false
set_option linter.unusedSimpArgs false

/-- The mark in cell j of a slice that is marked from k on. -/
def mkBx (k j : Nat) : Value := if j % 4 = 0 then .int .i64 ((k + j : Nat) : Int) else if j % 4 = 1 then .int .i64 ((k + j : Nat) : Int) else if j % 4 = 2 then .int .i64 ((k + j : Nat) : Int) else .int .i64 ((k + j : Nat) : Int)
theorem mkBx_0 (k n : Nat) : mkBx k (n * 4) = .int .i64 ((k + (n * 4) : Nat) : Int) := by
  unfold mkBx
  rw [if_pos (by omega)]
theorem mkBx_1 (k n : Nat) : mkBx k (n * 4 + 1) = .int .i64 ((k + (n * 4 + 1) : Nat) : Int) := by
  unfold mkBx
  rw [if_neg (by omega), if_pos (by omega)]
theorem mkBx_2 (k n : Nat) : mkBx k (n * 4 + 2) = .int .i64 ((k + (n * 4 + 2) : Nat) : Int) := by
  unfold mkBx
  rw [if_neg (by omega), if_neg (by omega), if_pos (by omega)]
theorem mkBx_3 (k n : Nat) : mkBx k (n * 4 + 3) = .int .i64 ((k + (n * 4 + 3) : Nat) : Int) := by
  unfold mkBx
  rw [if_neg (by omega), if_neg (by omega), if_neg (by omega)]
end Go.Proofs.YtmfchcaidfloaaaDoor
