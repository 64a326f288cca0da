/- The rest of a panel: spec and impl. -/
import Derived.Test.YtkmmhkhbpfkmcaaGreatDoorDrw13
namespace Go.Proofs.YtkmmhkhbpfkmcaaGreatDoor
open Seq2 Go.ChangeShapes Go.WideShapes Go.ChangeAt Go.RowKit
set_option linter.unusedVariables false
set_option linter.unusedSimpArgs false

/-- Twice the area of the first k faces. -/
def arTo (D : Drw) (k : Nat) : Int := sumTo (fun j => areaI (polyAt D j)) k
def restD (D : Drw) (k : Nat) : Int := 2 * D.wd * D.hg - arTo D k
theorem dr_poly {D : Drw} (h : drB D = true) {j : Nat} (hj : j < D.fs.length) : polyB (polyAt D j) = true := (dr_face h hj).2.2
theorem ar_rng {D : Drw} (h : drB D = true) {j : Nat} (hj : j < D.fs.length) : 0 < areaI (polyAt D j) ∧ areaI (polyAt D j) ≤ 9600000000 := by
  obtain ⟨h3, h24, hv, _, _, ha⟩ := poly_ok (dr_poly h hj)
  refine ⟨ha, ?_⟩
  have h1 := (area_bd hv (by omega) (polyAt D j).length).2
  have h2 : areaI (polyAt D j) = sumTo (fun k => crP (pt (polyAt D j) k) (pt (polyAt D j) (k + 1))) (polyAt D j).length := rfl
  omega
theorem arTo_rng {D : Drw} (h : drB D = true) {k : Nat} (hk : k ≤ D.fs.length) : 0 ≤ arTo D k ∧ arTo D k ≤ k * 9600000000 := by
  unfold arTo
  induction k with
  | zero => simp [sumTo]
  | succ k ih =>
    have h1 := ih (by omega)
    have h2 := ar_rng h (j := k) (by omega)
    show 0 ≤ sumTo _ k + areaI (polyAt D k) ∧ sumTo _ k + areaI (polyAt D k) ≤ _
    push_cast
    omega
theorem wh_rng {D : Drw} (h : drB D = true) : (0 ≤ D.wd ∧ D.wd ≤ 20000) ∧ 0 ≤ 2 * D.wd * D.hg ∧ 2 * D.wd * D.hg ≤ 800000000 := by
  have hp := (dr_panel h).1
  unfold panelB inI at hp
  simp only [Bool.and_eq_true, decide_eq_true_eq] at hp
  have h1 := Int.mul_nonneg (show 0 ≤ 2 * D.wd by omega) (show 0 ≤ D.hg by omega)
  have h2 := Int.mul_le_mul (show 2 * D.wd ≤ 40000 by omega) (show D.hg ≤ 20000 by omega) (by omega) (by omega)
  omega
theorem rest_rng {D : Drw} (h : drB D = true) {k : Nat} (hk : k ≤ D.fs.length) : -231000000000 ≤ restD D k ∧ restD D k ≤ 800000000 := by
  have h1 := arTo_rng h hk
  have h2 := wh_rng h
  have h3 := dr_few h
  have h4 : (k : Int) * 9600000000 ≤ 24 * 9600000000 := by omega
  unfold restD
  omega
theorem rest_succ (D : Drw) (k : Nat) : restD D (k + 1) = restD D k - areaI (polyAt D k) := by
  unfold restD arTo
  show _ - (sumTo _ k + areaI (polyAt D k)) = _
  omega
def unR (D : Drw) : Int × Int := if drB D then (restD D D.fs.length, 0) else (0, 1)
end Go.Proofs.YtkmmhkhbpfkmcaaGreatDoor
