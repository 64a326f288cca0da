/- The contrast of two veneers: spec. -/
import Derived.Test.YtmfchcaidfloaaaDoorVen6
namespace Go.Proofs.YtmfchcaidfloaaaDoor
open Seq2 Go.ChangeShapes Go.WideShapes Go.ChangeAt Go.RowKit
set_option linter.unusedVariables false
set_option linter.unusedSimpArgs false

def cnV (x0 y0 x1 y1 : Int) : Int := awy x0 x1 + angI y0 y1 / 6
theorem ang_rng {a b : Int} (ha : 0 ≤ a) (ha2 : a ≤ 180) (hb : 0 ≤ b) (hb2 : b ≤ 180) : 0 ≤ angI a b ∧ angI a b ≤ 180 := by
  unfold angI lesI awy; split <;> split <;> omega
end Go.Proofs.YtmfchcaidfloaaaDoor
