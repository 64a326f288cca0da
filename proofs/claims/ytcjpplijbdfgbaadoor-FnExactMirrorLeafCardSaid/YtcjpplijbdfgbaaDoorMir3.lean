/- The result of MirrorLeaf in laws. -/
import Derived.Test.YtcjpplijbdfgbaaDoorMir2
import Derived.Test.YtcjpplijbdfgbaaDoorLfR
namespace Go.Proofs.YtcjpplijbdfgbaaDoor
open Seq2 Go.ChangeShapes Go.WideShapes Go.ChangeAt Go.RowKit
set_option linter.unusedVariables false
set_option linter.unusedSimpArgs false

theorem ml_good {w : World} {v : Value} {z : Lf} (h : LfL w v z) (hs : LfSz z ≤ 1048576) : LfGood (mlR z).1 := by
  obtain ⟨ao, n, c, e, q0, q1, q2, q3, q4, q5, _, _⟩ := h.out
  unfold mlR
  cases hB : lfB z with
  | false => exact lf0_good
  | true =>
    rw [if_pos rfl]
    have e : LfSz (mirZ z) = LfSz z := by unfold LfSz BxSz mirZ; simp
    exact ⟨⟨by rw [e]; exact hs, q0, q1, q2, q3, q4, q5⟩⟩
end Go.Proofs.YtcjpplijbdfgbaaDoor
