/- Slices of int64 that the law itself has copied: toInt64S, eqInt64S. -/
import Derived.Test.YthjimogeimigmaaDoorProg
import Derived.Test.YthjimogeimigmaaDoorK1
import Derived.Test.YthjimogeimigmaaDoorOwn
import Derived.Deep.QuietTactic
import Derived.BigQuiet
import Derived.OwnWalk
namespace Go.Proofs.YthjimogeimigmaaDoor
open Go.ChangeShapes Go.WideShapes Go.ChangeAt Go.RowKit

theorem Tryd.infoI64 : (Tryd.prog.info? 2).map (fun i => (i.zero, i.size, i.bytes)) = some (some (.int .i64 0), 1, 8) := by kernel_rfl

/-- The block g holds the numbers zs from its head on. -/
def IntsAt (w : World) (g : Nat) (zs : List Int) : Prop := g < w.heap.size ∧ ∀ j, j < zs.length → w.cell? ⟨g, j, none⟩ = some (.int .i64 (zs.getD j 0))
theorem IntsAt.below {w w' : World} {g B : Nat} {zs : List Int} (h : IntsAt w g zs) (hb : Below B w w') (hB : w.heap.size ≤ B) : IntsAt w' g zs := by
  have hs := hb.size
  refine ⟨by have := h.1; omega, fun j hj => ?_⟩
  have h1 := h.1
  exact (hb.cell (p := ⟨g, j, none⟩) (by simp; omega)).trans (h.2 j hj)
theorem IntsAt.plain {w : World} {g : Nat} {zs : List Int} (h : IntsAt w g zs) : ∀ j, j < zs.length → w.cell? ⟨g, 0 + j, none⟩ = some (.int .i64 (zs.getD j 0)) := fun j hj => by rw [Nat.zero_add]; exact h.2 j hj

/-- The loop of a copy: the first k cells are written. -/
structure CpInv (zs : List Int) (k B g : Nat) (w wr : World) : Prop where
  own : ∃ X, wr.ownsRow B 2 1 (.slice (some ⟨g, 0, none⟩) zs.length zs.length) zs.length X ∧ ∀ j, j < k → X[j]? = some (.int .i64 (zs.getD j 0))
  below : Below B w wr
  lt : B ≤ g ∧ g < wr.heap.size
theorem cp_step {zs : List Int} {k B g : Nat} {w wr : World} (h : CpInv zs k B g w wr) (hk : k < zs.length) : CpInv zs (k + 1) B g w (wr.setCell ⟨g, k, none⟩ (.int .i64 (zs.getD k 0))) := by
  obtain ⟨⟨X, h1, h2⟩, h3, h4⟩ := h
  have hX : X.length = zs.length := by have := h1.1; simpa using this
  obtain ⟨s1, s2⟩ := h1.stored k (.int .i64 (zs.getD k 0))
  refine ⟨⟨_, s1, fun j hj => ?_⟩, h3.setCell h4.1 _, h4.1, by have := s2.size; omega⟩
  by_cases e : j = k
  · subst e; rw [List.getElem?_set_self (by omega)]
  · rw [List.getElem?_set_ne (by omega)]; exact h2 j (by omega)
theorem cp_free {zs : List Int} {k B g : Nat} {w wr : World} (h : CpInv zs k B g w wr) (j : Nat) : wr.frozen? ⟨g, j, none⟩ = false := by
  obtain ⟨⟨X, h1, _⟩, _, _⟩ := h
  exact h1.frozenAt j
theorem cp_cell {zs : List Int} {k B g : Nat} {w wr : World} (h : CpInv zs k B g w wr) (j : Nat) (hj : j < zs.length) : ∃ v, wr.cell? ⟨g, j, none⟩ = some v := by
  obtain ⟨⟨X, h1, _⟩, _, _⟩ := h
  have hX : X.length = zs.length := by have := h1.1; simpa using this
  exact ⟨X[j]'(by omega), by rw [h1.cellAt j (by omega)]; simp⟩
theorem cp_end {zs : List Int} {k B g : Nat} {w wr : World} (h : CpInv zs k B g w wr) (hk : zs.length ≤ k) : IntsAt wr g zs := by
  obtain ⟨⟨X, h1, h2⟩, _, h4⟩ := h
  exact ⟨h4.2, fun j hj => by rw [h1.cellAt j (by omega)]; exact h2 j (by omega)⟩

/-- A slice that came in reads as the numbers zs. -/
def View (w : World) (ao : Option Addr) (zs : List Int) : Prop := zs = [] ∨ ∃ b off, ao = some ⟨b, off, none⟩ ∧ b < w.heap.size ∧ ∀ j, j < zs.length → w.cell? ⟨b, off + j, none⟩ = some (.int .i64 (zs.getD j 0))
theorem View.below {w w' : World} {ao : Option Addr} {B : Nat} {zs : List Int} (h : View w ao zs) (hb : Below B w w') (hB : w.heap.size ≤ B) : View w' ao zs := by
  rcases h with h | ⟨b, off, rfl, h1, h2⟩
  · exact Or.inl h
  · have hs := hb.size
    exact Or.inr ⟨b, off, rfl, by omega, fun j hj => (hb.cell (p := ⟨b, off + j, none⟩) (by simp; omega)).trans (h2 j hj)⟩
end Go.Proofs.YthjimogeimigmaaDoor
