/- Slices of integers of a call's own: the list, its cells, its rows; neighbours that are equal. -/
import Derived.Test.YtmfchcaidfloaaaK8
import Derived.Test.YtmfchcaidfloaaaK15
import Derived.Test.YtmfchcaidfloaaaLft
namespace Go.Proofs.Ytmfchcaidfloaaa
open Seq2 Go.ChangeShapes Go.WideShapes Go.ChangeAt Go.RowKit
set_option linter.unusedVariables false
set_option linter.unusedSimpArgs false

/-- A slice of integers of the call's own. -/
def OwnI (w : World) (base : Nat) (v : Value) (L : List Int) : Prop := w.ownsRow base 2 1 v L.length (flatI L)
theorem OwnI.app {w : World} {base n : Nat} {v : Value} {L : List Int} {x : Int} (hn : n = L.length) (ho : w.ownsRow base 2 1 v (n + 1) (flatI L ++ [.int .i64 x])) : OwnI w base v (L ++ [x]) := by
  subst hn
  unfold OwnI flatI at *
  simpa using ho
theorem OwnI.below {w w' : World} {base : Nat} {v : Value} {L : List Int} (h : OwnI w base v L) (hb : Below w.heap.size w w') : OwnI w' base v L := own_below h hb
/-- Integers lie in a block. -/
def InB (w : World) (b : Nat) (L : List Int) : Prop := b < w.heap.size ∧ ∀ j, j < L.length → w.cell? ⟨b, j, none⟩ = some (.int .i64 (L.getD j 0))
theorem InB.below {w w' : World} {b : Nat} {L : List Int} (h : InB w b L) (hb : Below w.heap.size w w') : InB w' b L := ⟨Nat.lt_of_lt_of_le h.1 hb.size, fun j hj => (hb.cell (p := ⟨b, j, none⟩) h.1).trans (h.2 j hj)⟩
theorem OwnI.inB {w : World} {base g n cap : Nat} {L : List Int} (h : OwnI w base (.slice (some ⟨g, 0, none⟩) n cap) L) : n = L.length ∧ n ≤ cap ∧ base ≤ g ∧ InB w g L := by
  obtain ⟨h1, ⟨h2, _⟩ | ⟨g', cap', cur, h2, h3, h4, h5, h6, h7, h8⟩⟩ := h
  · cases h2
  · cases h2
    refine ⟨rfl, h5, h3, (Array.getElem?_eq_some_iff.1 h4).1, fun j hj => ?_⟩
    have := congrArg (fun l => l[j]?) h8
    rw [Nat.mul_one] at this
    simp only [List.getElem?_take_of_lt hj, flatI, List.getElem?_map, List.getElem?_eq_getElem hj, Option.map_some] at this
    exact (cell_of_arr h4 (j := j) (by simpa [List.getD_eq_getElem?_getD, hj] using this)).1
theorem OwnI.some {w : World} {base : Nat} {v : Value} {L : List Int} (h : OwnI w base v L) (h0 : 0 < L.length) : ∃ g cap, v = .slice (some ⟨g, 0, none⟩) L.length cap := by
  obtain ⟨h1, ⟨h2, h3⟩ | ⟨g', cap', cur, h2, _⟩⟩ := h
  · omega
  · exact ⟨g', cap', h2⟩
theorem flatI_get (L : List Int) (j : Nat) (hj : j < L.length) : (flatI L)[j]? = some (.int .i64 (L.getD j 0)) := by simp [flatI, hj]
theorem row_below' {w w' : World} {g n : Nat} {t : TypeId} {f : Nat → Value} (h : w.rowIs g t n f) (hb : Below w.heap.size w w') : w'.rowIs g t n f := by
  obtain ⟨c, h1, h2, h3⟩ := h
  exact ⟨c, (hb.block _ (blk_lt h1)).trans h1, h2, h3⟩
theorem own_row {w : World} {base g cap : Nat} {O : List Int} (h : OwnI w base (.slice (some ⟨g, 0, none⟩) O.length cap) O) : base ≤ g ∧ O.length ≤ cap ∧ cap ≤ 9223372036854775807 ∧ ∃ F, w.rowIs g 2 cap F ∧ ∀ j, j < O.length → F j = .int .i64 (O.getD j 0) := by
  obtain ⟨_, ⟨h2, h3⟩ | ⟨g', cap', cur, h2, h3, h4, h5, h6, h7, h8⟩⟩ := h
  · cases h2
  · cases h2
    refine ⟨h3, h5, by unfold maxLen at h6; omega, fun j => cur.getD j (.int .i64 0), ⟨cur, h4, by omega, fun j hj => ?_⟩, fun j hj => ?_⟩
    · simp [Array.getD, show j < cur.size by omega]
    · have := congrArg (fun l => l[j]?) h8
      rw [Nat.mul_one] at this
      simp only [List.getElem?_take_of_lt hj, flatI, List.getElem?_map, List.getElem?_eq_getElem hj, Option.map_some, Array.getElem?_toList] at this
      obtain ⟨hlt, e⟩ := Array.getElem?_eq_some_iff.1 this
      simp [Array.getD, hlt, e, List.getD_eq_getElem?_getD, hj]
/-- The first k, of neighbours that are equal only the first one. -/
def cpK (f : Int → Int) (O : List Int) : Nat → List Int
  | 0 => []
  | k + 1 => if k = 0 ∨ ¬ f (O.getD k 0) = f (O.getD (k - 1) 0) then cpK f O k ++ [O.getD k 0] else cpK f O k
theorem cpK_yes {f : Int → Int} {O : List Int} {k : Nat} (h : k = 0 ∨ ¬ f (O.getD k 0) = f (O.getD (k - 1) 0)) : cpK f O (k + 1) = cpK f O k ++ [O.getD k 0] := by rw [cpK, if_pos h]
theorem cpK_no {f : Int → Int} {O : List Int} {k : Nat} (h0 : ¬ k = 0) (h : f (O.getD k 0) = f (O.getD (k - 1) 0)) : cpK f O (k + 1) = cpK f O k := by
  rw [cpK, if_neg (fun h2 => h2.elim h0 (fun h3 => h3 h))]
theorem cpK_len (f : Int → Int) (O : List Int) : ∀ k, (cpK f O k).length ≤ k
  | 0 => by simp [cpK]
  | k + 1 => by
    have := cpK_len f O k
    rw [cpK]; split
    · simp; exact this
    · omega
theorem cpK_take {f : Int → Int} {O : List Int} : ∀ k, k ≤ O.length → (∀ j, 0 < j → j < k → ¬ f (O.getD j 0) = f (O.getD (j - 1) 0)) → cpK f O k = O.take k
  | 0, _, _ => by simp [cpK]
  | k + 1, hk, h => by
    have ih := cpK_take k (by omega) (fun j h1 h2 => h j h1 (by omega))
    have hc : k = 0 ∨ ¬ f (O.getD k 0) = f (O.getD (k - 1) 0) := by
      by_cases h0 : k = 0
      · exact Or.inl h0
      · exact Or.inr (h k (by omega) (by omega))
    rw [cpK_yes hc, ih, List.take_succ_eq_append_getElem (by omega)]
    simp [show k < O.length by omega]
end Go.Proofs.Ytmfchcaidfloaaa
