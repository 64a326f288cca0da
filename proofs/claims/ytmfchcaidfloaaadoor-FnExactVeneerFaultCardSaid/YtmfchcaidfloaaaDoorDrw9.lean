/- Is a drawing valid, in spec: the faces, the whole. -/
import Derived.Test.YtmfchcaidfloaaaDoorDrw8
import Derived.Laws.Cover1
namespace Go.Proofs.YtmfchcaidfloaaaDoor
open Seq2 Go.ChangeShapes Go.WideShapes Go.ChangeAt Go.RowKit
set_option linter.unusedVariables false
set_option linter.unusedSimpArgs false

theorem faces_bad {zs : List P2} {fs : List Fc} {i : Nat} (hi : i < fs.length) (h : faceB zs fs i = false) : facesB zs fs = false := by
  unfold facesB; rw [allTo_bad hi h]; simp
theorem newp_pv {w : World} {lo n : Nat} {v : Value} {zs : List P2} (hz : n = zs.length) (h : w.ownsRow lo 90 2 v n (flatP zs)) : ∃ ao cap, v = .slice ao n cap ∧ PV w ao n zs := by
  obtain ⟨ao, cap, e, _, hp⟩ := own_PV h
  exact ⟨ao, cap, e, hp⟩
end Go.Proofs.YtmfchcaidfloaaaDoor
