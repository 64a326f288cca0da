/- Is a drawing valid, in spec: the faces, the whole. -/
import Derived.Test.YtcjpplijbdfgbaaDoorDrw8
import Derived.Laws.Cover1
namespace Go.Proofs.YtcjpplijbdfgbaaDoor
open Seq2 Go.ChangeShapes Go.WideShapes Go.ChangeAt Go.RowKit
set_option linter.unusedVariables false
set_option linter.unusedSimpArgs false

theorem faces_bad {zs : List P2} {fs : List Fc} {i : Nat} (hi : i < fs.length) (h : faceB zs fs i = false) : facesB zs fs = false := by
  unfold facesB; rw [allTo_bad hi h]; simp
end Go.Proofs.YtcjpplijbdfgbaaDoor
