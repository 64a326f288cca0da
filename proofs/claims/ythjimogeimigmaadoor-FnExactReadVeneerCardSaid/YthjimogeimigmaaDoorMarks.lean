/- eqInt64S, markInt64S, heldInt64S over slices that calls have made. -/
import Derived.Test.YthjimogeimigmaaDoorInts
namespace Go.Proofs.YthjimogeimigmaaDoor
open Go.ChangeShapes Go.WideShapes Go.ChangeAt Go.RowKit

theorem own_view {w : World} {base e n : Nat} {v : Value} {xs : List Value} (h : w.ownsRow base e 1 v n xs) : ∃ ao cap, v = .slice ao n cap ∧ (0 < n → ∃ g, ao = some ⟨g, 0, none⟩ ∧ base ≤ g ∧ g < w.heap.size) := by
  have h2 := h.lt
  obtain ⟨_, ⟨rfl, h0⟩ | ⟨g, cap, cur, rfl, hg, hc, hcap, _⟩⟩ := h
  · subst h0; exact ⟨none, 0, rfl, fun h => by omega⟩
  · exact ⟨some ⟨g, 0, none⟩, cap, rfl, fun _ => ⟨g, rfl, hg, (h2 g rfl).2⟩⟩
/-- The slice v of n places holds 1, 2 .. n. -/
def Marked (w : World) (base : Nat) (v : Value) (n : Nat) : Prop := ∃ X, w.ownsRow base 2 1 v n X ∧ ∀ t, t < n → X[t]? = some (.int .i64 (1 + (t : Int)))

structure MkInv (k n base g cap : Nat) (w wr : World) : Prop where
  own : ∃ X, wr.ownsRow base 2 1 (.slice (some ⟨g, 0, none⟩) n cap) n X ∧ ∀ t, t < k → X[t]? = some (.int .i64 (1 + (t : Int)))
  below : Below base w wr
  lt : base ≤ g
theorem mk_step {k n base g cap : Nat} {w wr : World} (h : MkInv k n base g cap w wr) (hk : k < n) : MkInv (k + 1) n base g cap w (wr.setCell ⟨g, k, none⟩ (.int .i64 (1 + (k : Int)))) := by
  obtain ⟨⟨X, h1, h2⟩, h3, h4⟩ := h
  have hX : X.length = n := by have := h1.1; simpa using this
  obtain ⟨s1, s2⟩ := h1.stored k (.int .i64 (1 + (k : Int)))
  refine ⟨⟨_, s1, fun j hj => ?_⟩, h3.setCell h4 _, h4⟩
  by_cases e : j = k
  · subst e; rw [List.getElem?_set_self (by omega)]
  · rw [List.getElem?_set_ne (by omega)]; exact h2 j (by omega)
theorem mk_free {k n base g cap : Nat} {w wr : World} (h : MkInv k n base g cap w wr) (j : Nat) : wr.frozen? ⟨g, j, none⟩ = false := by
  obtain ⟨⟨X, h1, _⟩, _, _⟩ := h
  exact h1.frozenAt j
theorem mk_cell {k n base g cap : Nat} {w wr : World} (h : MkInv k n base g cap w wr) (j : Nat) (hj : j < n) : ∃ v, wr.cell? ⟨g, j, none⟩ = some v := by
  obtain ⟨⟨X, h1, _⟩, _, _⟩ := h
  have hX : X.length = n := by have := h1.1; simpa using this
  exact ⟨X[j]'(by omega), by rw [h1.cellAt j (by omega)]; simp⟩

end Go.Proofs.YthjimogeimigmaaDoor
