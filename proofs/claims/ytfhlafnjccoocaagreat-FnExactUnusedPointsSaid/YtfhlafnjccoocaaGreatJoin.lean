/- What the rows of a seat ask of its program alone, proved once. -/
import Derived.Test.YtfhlafnjccoocaaGreatRows
import Derived.ProofKit
import Derived.WalkKit
namespace Go.Proofs.YtfhlafnjccoocaaGreat
theorem andI {a b : Bool} (h : a = true) (k : b = true) : (a && b) = true := by rw [h, k]; rfl
theorem jEnter : Tryz.pinned.checked.prog.mayEnter = true := by kernel_rfl
theorem jLifts : (false == Tryz.pinned.checked.prog.liftsFinal) = true := by kernel_rfl
theorem jMake : (Tryz.pinned.checked.prog.make == some ({ program := "", sum := "", func := "", spec := "" } : OpenClaim).make) = true := by kernel_rfl
theorem jLaid : laidOutB Tryz.pinned.checked.prog = true := by kernel_rfl
theorem jRowed : mapsRowed Tryz.pinned.checked.prog = true := by kernel_rfl
theorem jHeard : Tryz.pinned.checked.prog.stopsHeard = true := by kernel_rfl
end Go.Proofs.YtfhlafnjccoocaaGreat
