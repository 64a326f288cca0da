/- The polygon of a face, and a face by its name: spec and impl. -/
import Derived.Test.YtkmmhkhbpfkmcaaGreatDoorDrw9
import Derived.Test.YtkmmhkhbpfkmcaaGreatDoorDrw12
namespace Go.Proofs.YtkmmhkhbpfkmcaaGreatDoor
open Seq2 Go.ChangeShapes Go.WideShapes Go.ChangeAt Go.RowKit
set_option linter.unusedVariables false
set_option linter.unusedSimpArgs false

theorem dr_panel {D : Drw} (h : drB D = true) : panelB D = true ∧ ptsB D.wd D.hg D.ps = true ∧ facesB D.ps D.fs = true := by
  unfold drB at h
  simp only [Bool.and_eq_true] at h
  exact ⟨h.1.1, h.1.2, h.2⟩
theorem dr_face {D : Drw} (h : drB D = true) {j : Nat} (hj : j < D.fs.length) : nameB (D.fs.getD j fc0).1 = true ∧ ringIn D.ps (D.fs.getD j fc0).2 = true ∧ polyB (ringZ D.ps (D.fs.getD j fc0).2) = true := by
  have h1 := (dr_panel h).2.2
  unfold facesB at h1
  simp only [Bool.and_eq_true] at h1
  have h2 := (allTo_iff _ _).1 h1.2 j hj
  unfold faceB ringB at h2
  simp only [Bool.and_eq_true] at h2
  exact ⟨h2.1.1, h2.2.1, h2.2.2⟩
theorem dr_few {D : Drw} (h : drB D = true) : D.fs.length ≤ 24 ∧ D.ps.length ≤ 48 := by
  have h1 := (dr_panel h).2.2
  have h2 := (dr_panel h).2.1
  unfold facesB at h1
  unfold ptsB at h2
  simp only [Bool.and_eq_true, decide_eq_true_eq] at h1 h2
  exact ⟨h1.1, h2.2⟩
/-- The polygon of a face. -/
def polyAt (D : Drw) (j : Nat) : List P2 := ringZ D.ps (D.fs.getD j fc0).2
theorem DP.faces {w : World} {q : Nat} {D : Drw} (h : DP w q D) {j : Nat} (hj : j < D.fs.length) : ∃ (bo : Option Addr) (d fb : Nat) (s : ByteArray) (a : Option Addr) (n c : Nat), w.cell? ⟨q, 3, none⟩ = some (.slice (some ⟨fb, 0, none⟩) D.fs.length d) ∧ q < w.heap.size ∧ fb < w.heap.size ∧ w.cell? ⟨fb, j * 2 + 1, none⟩ = some (.slice a n c) ∧ n ≤ 1048576 ∧ IV w a n (D.fs.getD j fc0).2 := by
  obtain ⟨ao, np, cp, bo, m, d, hq, _, _, hs, _, hf⟩ := h.out
  obtain ⟨_, _, _, _, _, _, c3, _⟩ := hq.cells
  have hm := hf.1
  obtain ⟨fb, s, r, a, n, c, rfl, hfb, e, _, _, x1, en, hi⟩ := hf.at (k := j) (by omega)
  have hln := fcs_le (show fsSz D.fs ≤ 1048576 by unfold dSz at hs; omega) hj
  rw [hm] at c3
  refine ⟨none, d, fb, s, a, n, c, c3, hq.lt, hfb, x1, by omega, ?_⟩
  rw [e]; exact hi
theorem face_spec (q : Nat) (D : Drw) (x : Int) (w : World) (hd : DP w q D) : Calls Tryz.prog 48 #[.pointer (some ⟨q, 0, none⟩), .int .i64 x] w fun e w' => e = .returned (.bool (inI x 0 ((D.fs.length : Int) - 1))) ∧ w = w' := by
  obtain ⟨ao, np, cp, bo, m, d, hq, _, _, hs, _, hf⟩ := hd.out
  obtain ⟨_, _, _, _, _, _, c3, _⟩ := hq.cells
  have hqw := hq.lt
  have hm1 : m ≤ 1048576 := by have := hf.1; unfold dSz fsSz at hs; omega
  have HM := Lib.hid hf.1
  have q1 : IntKind.i64.wrap ((m : Int) - 1) = (m : Int) - 1 := IntWalk.i64_in _ (by omega)
  rw [← HM.out]
  clear hd hq hf hs
  go_enter Tryz.func48, Tryz.ntmps48
  go_wp2_with fail
  refine (in_any _ _ _ _).mono ?_
  rintro e w1 ⟨rfl, rfl⟩
  go_wp2
  go_ret
  exact ⟨rfl, rfl⟩
/-- A new slice of points. -/
theorem poly_spec (q : Nat) (D : Drw) (j : Nat) (w : World) (hd : DP w q D) (hj : j < D.fs.length) (hr : ringIn D.ps (D.fs.getD j fc0).2 = true) :
    Calls Tryz.prog 44 #[.pointer (some ⟨q, 0, none⟩), .int .i64 j] w (NewPost (polyAt D j) w) := by
  obtain ⟨_, d, fb, s, a, n, c, c3, hqw, hfb, x1, hn, hi⟩ := hd.faces hj
  have HD := Lib.hid hd
  have HI := Lib.hid hi
  have HR := Lib.hid hr
  clear hd hi hr
  go_enter Tryz.func44, Tryz.ntmps44
  go_wp2_with fail
  refine (ring_spec q D a n c _ _ hn HD.out HI.out).mono ?_
  rintro e w1 ⟨v, rfl, hb, hv⟩
  have HB := Lib.hid hb
  have HV := Lib.hid (hv HR.out)
  clear hb hv
  go_wp2
  go_ret
  refine ⟨_, rfl, ?_, HB.out⟩
  have := HV.out
  rw [← ringZ_len D.ps] at this
  exact this
end Go.Proofs.YtkmmhkhbpfkmcaaGreatDoor
