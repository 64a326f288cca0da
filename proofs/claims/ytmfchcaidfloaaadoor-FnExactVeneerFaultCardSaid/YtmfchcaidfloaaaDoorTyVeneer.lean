/- The struct Veneer as a tuple; slices of it. -/
import Derived.Test.YtmfchcaidfloaaaDoorLft
namespace Go.Proofs.YtmfchcaidfloaaaDoor
open Go.ChangeShapes Go.WideShapes Go.ChangeAt Go.RowKit

abbrev Vn := ByteArray × Int × Int
def vn0 : Vn := (ByteArray.empty, 0, 0)
instance : Inhabited Vn := ⟨vn0⟩
/-- One lies in block b from offset o on. -/
def VnAt (w : World) (b o : Nat) (z : Vn) : Prop := b < w.heap.size ∧ w.cell? ⟨b, o, none⟩ = some (.string z.1) ∧ w.cell? ⟨b, o + 1, none⟩ = some (.int .i64 z.2.1) ∧ w.cell? ⟨b, o + 2, none⟩ = some (.int .i64 z.2.2)
theorem VnAt.below {w w' : World} {b o : Nat} {z : Vn} (h : VnAt w b o z) (hb : Below w.heap.size w w') : VnAt w' b o z :=
  ⟨Nat.lt_of_lt_of_le h.1 hb.size, (hb.cell (p := ⟨b, o, none⟩) h.1).trans h.2.1, (hb.cell (p := ⟨b, o + 1, none⟩) h.1).trans h.2.2.1, (hb.cell (p := ⟨b, o + 2, none⟩) h.1).trans h.2.2.2⟩
/-- A slice at the start of a block, or an empty one. -/
def VnV (w : World) (ao : Option Addr) (n : Nat) (zs : List Vn) : Prop := n = zs.length ∧ (n = 0 ∨ ∃ b, ao = some ⟨b, 0, none⟩ ∧ ∀ j, j < n → VnAt w b (j * 3) (zs.getD j vn0))
theorem VnV.below {w w' : World} {ao : Option Addr} {n : Nat} {zs : List Vn} (h : VnV w ao n zs) (hb : Below w.heap.size w w') : VnV w' ao n zs :=
  ⟨h.1, h.2.imp id fun ⟨b, e, h1⟩ => ⟨b, e, fun j hj => (h1 j hj).below hb⟩⟩
end Go.Proofs.YtmfchcaidfloaaaDoor
