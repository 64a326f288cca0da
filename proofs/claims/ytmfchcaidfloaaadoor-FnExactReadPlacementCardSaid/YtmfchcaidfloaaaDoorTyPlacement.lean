/- The struct Placement as a tuple; slices of it. -/
import Derived.Test.YtmfchcaidfloaaaDoorLft
namespace Go.Proofs.YtmfchcaidfloaaaDoor
open Go.ChangeShapes Go.WideShapes Go.ChangeAt Go.RowKit

abbrev Pm := Int × Int × Int × Int × Int
def pm0 : Pm := (0, 0, 0, 0, 0)
instance : Inhabited Pm := ⟨pm0⟩
/-- One lies in block b from offset o on. -/
def PmAt (w : World) (b o : Nat) (z : Pm) : Prop := b < w.heap.size ∧ w.cell? ⟨b, o, none⟩ = some (.int .i64 z.1) ∧ w.cell? ⟨b, o + 1, none⟩ = some (.int .i64 z.2.1) ∧ w.cell? ⟨b, o + 2, none⟩ = some (.int .i64 z.2.2.1) ∧ w.cell? ⟨b, o + 3, none⟩ = some (.int .i64 z.2.2.2.1) ∧ w.cell? ⟨b, o + 4, none⟩ = some (.int .i64 z.2.2.2.2)
theorem PmAt.below {w w' : World} {b o : Nat} {z : Pm} (h : PmAt w b o z) (hb : Below w.heap.size w w') : PmAt w' b o z :=
  ⟨Nat.lt_of_lt_of_le h.1 hb.size, (hb.cell (p := ⟨b, o, none⟩) h.1).trans h.2.1, (hb.cell (p := ⟨b, o + 1, none⟩) h.1).trans h.2.2.1, (hb.cell (p := ⟨b, o + 2, none⟩) h.1).trans h.2.2.2.1, (hb.cell (p := ⟨b, o + 3, none⟩) h.1).trans h.2.2.2.2.1, (hb.cell (p := ⟨b, o + 4, none⟩) h.1).trans h.2.2.2.2.2⟩
/-- A slice at the start of a block, or an empty one. -/
def PmV (w : World) (ao : Option Addr) (n : Nat) (zs : List Pm) : Prop := n = zs.length ∧ (n = 0 ∨ ∃ b, ao = some ⟨b, 0, none⟩ ∧ ∀ j, j < n → PmAt w b (j * 5) (zs.getD j pm0))
theorem PmV.below {w w' : World} {ao : Option Addr} {n : Nat} {zs : List Pm} (h : PmV w ao n zs) (hb : Below w.heap.size w w') : PmV w' ao n zs :=
  ⟨h.1, h.2.imp id fun ⟨b, e, h1⟩ => ⟨b, e, fun j hj => (h1 j hj).below hb⟩⟩
end Go.Proofs.YtmfchcaidfloaaaDoor
