/- The score of two leaves: mathematics, spec. -/
import Derived.Test.YtmfchcaidfloaaaDoorK19
import Derived.Test.YtmfchcaidfloaaaDoorVen4
namespace Go.Proofs.YtmfchcaidfloaaaDoor
open Seq2 Go.ChangeShapes Go.WideShapes Go.ChangeAt Go.RowKit
set_option linter.unusedVariables false
set_option linter.unusedSimpArgs false

def mirG (g : Int) : Int := (180 - g) % 180
def scG (y : Lf) (bk : Bool) : Int := if bk then mirG y.ve.2.2 else y.ve.2.2
def scN (z y : Lf) : Int := if z.fl.toList == y.fl.toList then lesI 20 (awy z.nu y.nu) else 500
def scS (z y : Lf) : Int := if z.ve.1.toList == y.ve.1.toList then 0 else 500
def scI (z y : Lf) (bk : Bool) : Int := 3 * awy z.ve.2.1 y.ve.2.1 + angI z.ve.2.2 (scG y bk) + scN z y + scS z y
theorem ang_180 {a b : Int} (ha : 0 ≤ a) (ha2 : a ≤ 180) (hb : 0 ≤ b) (hb2 : b ≤ 180) : 0 ≤ angI a b ∧ angI a b ≤ 180 := by
  unfold angI lesI awy; split <;> split <;> omega
theorem mirG_rng {g : Int} (h0 : 0 ≤ g) (h1 : g ≤ 179) : 0 ≤ mirG g ∧ mirG g ≤ 179 := by unfold mirG; omega
/-- The numbers of a valid leaf. -/
structure LfN (z : Lf) : Prop where
  nu : 0 ≤ z.nu ∧ z.nu ≤ 999
  sh : 0 ≤ z.ve.2.1 ∧ z.ve.2.1 ≤ 100
  gr : 0 ≤ z.ve.2.2 ∧ z.ve.2.2 ≤ 179
theorem lfN_of {z : Lf} (h : lfB z = true) : LfN z := by
  simp only [lfB, Bool.and_eq_true, decide_eq_true_eq, inI_iff, vnB] at h
  obtain ⟨_, _, h3, h4, _⟩ := h
  obtain ⟨_, a, b, c, d⟩ := venB_ok h4
  exact ⟨h3, ⟨a, b⟩, ⟨c, d⟩⟩
theorem scG_rng {y : Lf} (h : LfN y) (bk : Bool) : 0 ≤ scG y bk ∧ scG y bk ≤ 179 := by
  unfold scG
  cases bk with
  | false => exact h.gr
  | true => exact mirG_rng h.gr.1 h.gr.2
theorem scI_rng {z y : Lf} (hz : LfN z) (hy : LfN y) (bk : Bool) : 0 ≤ scI z y bk ∧ scI z y bk ≤ 2000 := by
  have h1 := awy_rng hz.sh.1 hz.sh.2 hy.sh.1 hy.sh.2
  have hg := scG_rng hy bk
  have h2 := ang_180 hz.gr.1 (by have := hz.gr; omega) hg.1 (by omega : scG y bk ≤ 180)
  have h3 := awy_rng hz.nu.1 hz.nu.2 hy.nu.1 hy.nu.2
  have h4 : 0 ≤ scN z y ∧ scN z y ≤ 1000 := by unfold scN lesI; split <;> (try split) <;> omega
  have h5 : 0 ≤ scS z y ∧ scS z y ≤ 500 := by unfold scS; split <;> omega
  unfold scI; omega
theorem awy_neg (a b : Int) : grtI (a - b) (-(a - b)) = awy a b := by unfold grtI awy; split <;> split <;> omega
end Go.Proofs.YtmfchcaidfloaaaDoor
