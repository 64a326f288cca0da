/- The struct Rules as a tuple; slices of it. -/
import Derived.Test.YtmfchcaidfloaaaDoorLft
namespace Go.Proofs.YtmfchcaidfloaaaDoor
open Go.ChangeShapes Go.WideShapes Go.ChangeAt Go.RowKit

abbrev Ru := Int × Int × Int × Int
def ru0 : Ru := (0, 0, 0, 0)
instance : Inhabited Ru := ⟨ru0⟩
/-- One lies in block b from offset o on. -/
def RuAt (w : World) (b o : Nat) (z : Ru) : Prop := b < w.heap.size ∧ w.cell? ⟨b, o, none⟩ = some (.int .i64 z.1) ∧ w.cell? ⟨b, o + 1, none⟩ = some (.int .i64 z.2.1) ∧ w.cell? ⟨b, o + 2, none⟩ = some (.int .i64 z.2.2.1) ∧ w.cell? ⟨b, o + 3, none⟩ = some (.int .i64 z.2.2.2)
theorem RuAt.below {w w' : World} {b o : Nat} {z : Ru} (h : RuAt w b o z) (hb : Below w.heap.size w w') : RuAt w' b o z :=
  ⟨Nat.lt_of_lt_of_le h.1 hb.size, (hb.cell (p := ⟨b, o, none⟩) h.1).trans h.2.1, (hb.cell (p := ⟨b, o + 1, none⟩) h.1).trans h.2.2.1, (hb.cell (p := ⟨b, o + 2, none⟩) h.1).trans h.2.2.2.1, (hb.cell (p := ⟨b, o + 3, none⟩) h.1).trans h.2.2.2.2⟩
/-- A slice at the start of a block, or an empty one. -/
def RuV (w : World) (ao : Option Addr) (n : Nat) (zs : List Ru) : Prop := n = zs.length ∧ (n = 0 ∨ ∃ b, ao = some ⟨b, 0, none⟩ ∧ ∀ j, j < n → RuAt w b (j * 4) (zs.getD j ru0))
theorem RuV.below {w w' : World} {ao : Option Addr} {n : Nat} {zs : List Ru} (h : RuV w ao n zs) (hb : Below w.heap.size w w') : RuV w' ao n zs :=
  ⟨h.1, h.2.imp id fun ⟨b, e, h1⟩ => ⟨b, e, fun j hj => (h1 j hj).below hb⟩⟩
end Go.Proofs.YtmfchcaidfloaaaDoor
