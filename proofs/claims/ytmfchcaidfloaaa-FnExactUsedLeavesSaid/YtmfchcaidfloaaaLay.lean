/- A block of which the first cells are told. -/
import Derived.Test.YtmfchcaidfloaaaDrw6
namespace Go.Proofs.Ytmfchcaidfloaaa
open Go.ChangeShapes Go.WideShapes Go.ChangeAt Go.RowKit
set_option linter.unusedVariables false
set_option linter.unusedSimpArgs false

/-- Block b of c cells of a type; the first i of them are f. -/
def Lay (w : World) (b c : Nat) (t : TypeId) (i : Nat) (f : Nat → Value) : Prop := ∃ cur, w.heap[b]? = some (.cells cur t (0, 0)) ∧ cur.size = c ∧ ∀ j, j < i → cur[j]? = some (f j)
theorem Lay.lt {w : World} {b c : Nat} {t : TypeId} {i : Nat} {f : Nat → Value} (h : Lay w b c t i f) : b < w.heap.size := by
  obtain ⟨_, h, _⟩ := h
  exact (Array.getElem?_eq_some_iff.1 h).1
theorem Lay.keep {w w' : World} {b c : Nat} {t : TypeId} {i : Nat} {f : Nat → Value} (h : Lay w b c t i f) (e : w'.heap[b]? = w.heap[b]?) : Lay w' b c t i f := by
  obtain ⟨cur, h, h1⟩ := h
  exact ⟨cur, e.trans h, h1⟩
theorem Lay.below {w w' : World} {b c : Nat} {t : TypeId} {i : Nat} {f : Nat → Value} (h : Lay w b c t i f) (hb : Below w.heap.size w w') : Lay w' b c t i f := h.keep (hb.block b h.lt)
theorem Lay.less {w : World} {b c : Nat} {t : TypeId} {i i' : Nat} {f f' : Nat → Value} (h : Lay w b c t i f) (hi : i' ≤ i) (hf : ∀ j, j < i' → f j = f' j) : Lay w b c t i' f' := by
  obtain ⟨cur, h, h1, h2⟩ := h
  exact ⟨cur, h, h1, fun j hj => by rw [h2 j (by omega), hf j hj]⟩
theorem Lay.set {w : World} {b c : Nat} {t : TypeId} {i : Nat} {f : Nat → Value} (h : Lay w b c t i f) (v : Value) (hi : i < c) (hv : v = f i) : Lay (w.setCell ⟨b, i, none⟩ v) b c t (i + 1) f := by
  obtain ⟨cur, h0, h1, h2⟩ := h
  refine ⟨_, heap_setCell_same _ _ _ _ _ _ h0, by simpa using h1, fun j hj => ?_⟩
  by_cases e : j = i
  · subst e
    rw [Array.getElem?_setIfInBounds_self_of_lt (by omega), hv]
  · rw [Array.getElem?_setIfInBounds_ne (by omega)]
    exact h2 j (by omega)
theorem Lay.any {w : World} {b c : Nat} {t : TypeId} {i : Nat} {f : Nat → Value} (h : Lay w b c t i f) {j : Nat} (hj : j < c) : (∃ x, w.cell? ⟨b, j, none⟩ = some x) ∧ w.frozen? ⟨b, j, none⟩ = false := by
  obtain ⟨cur, h0, h1, _⟩ := h
  obtain ⟨x, hx⟩ := arr_some (cur := cur) (j := j) (by omega)
  exact ⟨⟨x, (cell_of_arr h0 hx).1⟩, (cell_of_arr h0 hx).2⟩
theorem Lay.cell {w : World} {b c : Nat} {t : TypeId} {i : Nat} {f : Nat → Value} (h : Lay w b c t i f) {j : Nat} (hj : j < i) : w.cell? ⟨b, j, none⟩ = some (f j) := by
  obtain ⟨cur, h0, _, h2⟩ := h
  exact (cell_of_arr h0 (h2 j hj)).1
theorem Lay.btw {lo hi : Nat} {w w' : World} {b c : Nat} {t : TypeId} {i : Nat} {f : Nat → Value} (h : Lay w b c t i f) (hb : Btw lo hi w w') (hn : ¬ (lo ≤ b ∧ b < hi)) : Lay w' b c t i f := h.keep (hb.block b h.lt hn)
theorem Lay.row {w : World} {g n : Nat} {t : TypeId} {f : Nat → Value} (h : w.rowIs g t n f) : Lay w g n t n f := by
  obtain ⟨cur, h1, h2, h3⟩ := h
  exact ⟨cur, h1, h2, h3⟩
theorem Btw.wide {lo hi lo' hi' : Nat} {a b : World} (h : Btw lo hi a b) (h1 : lo' ≤ lo) (h2 : hi ≤ hi') : Btw lo' hi' a b := ⟨h.os, h.tape, h.output, h.size, fun j hj hn => h.block j hj (fun e => hn (by omega))⟩
theorem Btw.set {lo hi : Nat} {a b : World} (h : Btw lo hi a b) (k i : Nat) (v : Value) (h1 : lo ≤ k) (h2 : k < hi) : Btw lo hi a (b.setCell ⟨k, i, none⟩ v) := h.trans (Btw.of_grown (grown_setC b ⟨k, i, none⟩ v) h1 h2)
end Go.Proofs.Ytmfchcaidfloaaa
