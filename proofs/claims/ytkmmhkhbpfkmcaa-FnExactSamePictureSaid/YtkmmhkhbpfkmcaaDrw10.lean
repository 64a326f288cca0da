/- Is a drawing valid, in impl: the panel, the rings. -/
import Derived.Test.YtkmmhkhbpfkmcaaDrw7
namespace Go.Proofs.Ytkmmhkhbpfkmcaa
open Seq2 Go.ChangeShapes Go.WideShapes Go.ChangeAt Go.RowKit
set_option linter.unusedVariables false
set_option linter.unusedSimpArgs false

theorem ringZ_at {zs : List P2} {r : List Int} {k j : Nat} {x y : Int} (hk : k < r.length) (e : r.getD k 0 = (j : Int)) (e2 : zs.getD j (0, 0) = (x, y)) : (ringZ zs r).getD k (0, 0) = (x, y) := by
  have e' : r[k] = (j : Int) := by simpa [List.getD_eq_getElem?_getD, hk] using e
  simp [ringZ, List.getD_eq_getElem?_getD, hk, e']
  simpa [List.getD_eq_getElem?_getD] using e2
def ArdPost (zs : List P2) (r : List Int) (w : World) (e : Ending) (w' : World) : Prop := ∃ g, e = .returned (.slice (some ⟨g, 0, none⟩) r.length r.length) ∧ w'.ownsRow w.heap.size 61 2 (.slice (some ⟨g, 0, none⟩) r.length r.length) r.length (flatP (ringZ zs r)) ∧ Below w.heap.size w w'
end Go.Proofs.Ytkmmhkhbpfkmcaa
