/- The polygon of a face, and a face by its name: spec and impl. -/
import Derived.Test.YtfhlafnjccoocaaGreatDrw9
import Derived.Test.YtfhlafnjccoocaaGreatDrw12
namespace Go.Proofs.YtfhlafnjccoocaaGreat
open Seq2 Go.ChangeShapes Go.WideShapes Go.ChangeAt Go.RowKit
set_option linter.unusedVariables false
set_option linter.unusedSimpArgs false

theorem dr_panel {D : Drw} (h : drB D = true) : panelB D = true ∧ ptsB D.wd D.hg D.ps = true ∧ facesB D.ps D.fs = true := by
  unfold drB at h
  simp only [Bool.and_eq_true] at h
  exact ⟨h.1.1, h.1.2, h.2⟩
theorem dr_face {D : Drw} (h : drB D = true) {j : Nat} (hj : j < D.fs.length) : nameB (D.fs.getD j fc0).1 = true ∧ ringIn D.ps (D.fs.getD j fc0).2 = true ∧ polyB (ringZ D.ps (D.fs.getD j fc0).2) = true := by
  have h1 := (dr_panel h).2.2
  unfold facesB at h1
  simp only [Bool.and_eq_true] at h1
  have h2 := (allTo_iff _ _).1 h1.2 j hj
  unfold faceB ringB at h2
  simp only [Bool.and_eq_true] at h2
  exact ⟨h2.1.1, h2.2.1, h2.2.2⟩
theorem dr_few {D : Drw} (h : drB D = true) : D.fs.length ≤ 24 ∧ D.ps.length ≤ 48 := by
  have h1 := (dr_panel h).2.2
  have h2 := (dr_panel h).2.1
  unfold facesB at h1
  unfold ptsB at h2
  simp only [Bool.and_eq_true, decide_eq_true_eq] at h1 h2
  exact ⟨h1.1, h2.2⟩
/-- The polygon of a face. -/
def polyAt (D : Drw) (j : Nat) : List P2 := ringZ D.ps (D.fs.getD j fc0).2
theorem DP.faces {w : World} {q : Nat} {D : Drw} (h : DP w q D) {j : Nat} (hj : j < D.fs.length) : ∃ (bo : Option Addr) (d fb : Nat) (s : ByteArray) (a : Option Addr) (n c : Nat), w.cell? ⟨q, 3, none⟩ = some (.slice (some ⟨fb, 0, none⟩) D.fs.length d) ∧ q < w.heap.size ∧ fb < w.heap.size ∧ w.cell? ⟨fb, j * 2 + 1, none⟩ = some (.slice a n c) ∧ n ≤ 1048576 ∧ IV w a n (D.fs.getD j fc0).2 := by
  obtain ⟨ao, np, cp, bo, m, d, hq, _, _, hs, _, hf⟩ := h.out
  obtain ⟨_, _, _, _, _, _, c3, _⟩ := hq.cells
  have hm := hf.1
  obtain ⟨fb, s, r, a, n, c, rfl, hfb, e, _, _, x1, en, hi⟩ := hf.at (k := j) (by omega)
  have hln := fcs_le (show fsSz D.fs ≤ 1048576 by unfold dSz at hs; omega) hj
  rw [hm] at c3
  refine ⟨none, d, fb, s, a, n, c, c3, hq.lt, hfb, x1, by omega, ?_⟩
  rw [e]; exact hi
end Go.Proofs.YtfhlafnjccoocaaGreat
