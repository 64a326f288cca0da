/- Is a drawing valid, in spec. -/
import Derived.Test.YtmfchcaidfloaaaDoorDrw7
namespace Go.Proofs.YtmfchcaidfloaaaDoor
open Seq2 Go.ChangeShapes Go.WideShapes Go.ChangeAt Go.RowKit
set_option linter.unusedVariables false
set_option linter.unusedSimpArgs false

theorem pts_bad {wd hg : Int} {zs : List P2} {i : Nat} (hi : i < zs.length) (h : ptB wd hg zs i = false) : ptsB wd hg zs = false := by
  unfold ptsB; rw [allTo_bad hi h]; rfl
end Go.Proofs.YtmfchcaidfloaaaDoor
