/- What the rows of a seat ask of its program alone, proved once. -/
import Derived.Test.YtmfchcaidfloaaaRows
import Derived.ProofKit
import Derived.WalkKit
namespace Go.Proofs.Ytmfchcaidfloaaa
theorem andI {a b : Bool} (h : a = true) (k : b = true) : (a && b) = true := by rw [h, k]; rfl
theorem jEnter : Try.pinned.checked.prog.mayEnter = true := by kernel_rfl
theorem jLifts : (false == Try.pinned.checked.prog.liftsFinal) = true := by kernel_rfl
theorem jMake : (Try.pinned.checked.prog.make == some ({ program := "", sum := "", func := "", spec := "" } : OpenClaim).make) = true := by kernel_rfl
theorem jLaid : laidOutB Try.pinned.checked.prog = true := by kernel_rfl
theorem jRowed : mapsRowed Try.pinned.checked.prog = true := by kernel_rfl
theorem jHeard : Try.pinned.checked.prog.stopsHeard = true := by kernel_rfl
end Go.Proofs.Ytmfchcaidfloaaa
