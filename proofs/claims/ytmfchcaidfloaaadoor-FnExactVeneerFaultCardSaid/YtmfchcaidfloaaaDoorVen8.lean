/- Are all veneers of a slice valid: impl. The contrast: spec and impl. -/
import Derived.Test.YtmfchcaidfloaaaDoorVen7
import Derived.Test.YtmfchcaidfloaaaDoorTyVeneer
namespace Go.Proofs.YtmfchcaidfloaaaDoor
open Seq2 Go.ChangeShapes Go.WideShapes Go.ChangeAt Go.RowKit
set_option linter.unusedVariables false
set_option linter.unusedSimpArgs false



def vnB (z : Vn) : Bool := venB z.1 z.2.1 z.2.2
/-- A slice of veneers at the start of a block, or an empty one. -/
def VL (w : World) (ao : Option Addr) (n : Nat) (zs : List Vn) : Prop := n = zs.length ∧ (n = 0 ∨ ∃ b, ao = some ⟨b, 0, none⟩ ∧ ∀ j, j < n → VC w b (j * 3) (zs.getD j vn0).1 (zs.getD j vn0).2.1 (zs.getD j vn0).2.2)
theorem VL.below {w w' : World} {ao : Option Addr} {n : Nat} {zs : List Vn} (h : VL w ao n zs) (hb : Below w.heap.size w w') : VL w' ao n zs :=
  ⟨h.1, h.2.imp id fun ⟨b, e, h1⟩ => ⟨b, e, fun j hj => (h1 j hj).below hb⟩⟩
def vnsB (zs : List Vn) : Bool := zs.all vnB
theorem vnsB_no {zs : List Vn} {k : Nat} (hk : k < zs.length) (h : vnB (zs.getD k vn0) = false) : vnsB zs = false := by
  unfold vnsB
  rw [List.all_eq_false]
  refine ⟨zs.getD k vn0, ?_, by rw [h]; simp⟩
  rw [List.getD_eq_getElem?_getD, List.getElem?_eq_getElem hk]
  exact List.getElem_mem hk
theorem vnsB_yes {zs : List Vn} (h : ∀ j, j < zs.length → vnB (zs.getD j vn0) = true) : vnsB zs = true := by
  unfold vnsB
  rw [List.all_eq_true]
  intro x hx
  obtain ⟨j, hj, rfl⟩ := List.getElem_of_mem hx
  have := h j hj
  rwa [List.getD_eq_getElem?_getD, List.getElem?_eq_getElem hj] at this
/-- The contrast with its code. -/
def cnR (s0 : ByteArray) (x0 y0 : Int) (s1 : ByteArray) (x1 y1 : Int) : Int × Int := if venB s0 x0 y0 && venB s1 x1 y1 then (cnV x0 y0 x1 y1, 0) else (0, 1)
end Go.Proofs.YtmfchcaidfloaaaDoor
