/- Area and border of a polygon. -/
import Derived.Test.YtcbbhpabiijpoaaPolyValid
import Derived.Test.YtcbbhpabiijpoaaSegFar
import Derived.Test.YtcbbhpabiijpoaaK1
namespace Go.Proofs.Ytcbbhpabiijpoaa
attribute [local go_sem] Oper.semAt_some
open Go.Shelf Go.ChangeShapes Go.WideShapes Go.ChangeAt Go.RowKit
set_option linter.unusedVariables false

def lenF (zs : List P2) (k : Nat) : Int := rootI (sqI (pt zs k).1 (pt zs k).2 (pt zs (k + 1)).1 (pt zs (k + 1)).2)
def lenI (zs : List P2) : Int := sumTo (lenF zs) zs.length
theorem root_le (n : Int) (h : n ≤ 800000000) : 0 ≤ rootI n ∧ rootI n ≤ 30000 := by
  unfold rootI
  have h1 := (natRoot_spec n.toNat).1
  refine ⟨by omega, ?_⟩
  have h2 : natRoot n.toNat ≤ 30000 := by
    rcases Nat.lt_or_ge 30000 (natRoot n.toNat) with h3 | h3
    · have := sq_lt h3; omega
    · exact h3
  omega
theorem lenF_bd {zs : List P2} (h : allOk zs = true) (h0 : 0 < zs.length) (k : Nat) : -30000 ≤ lenF zs k ∧ lenF zs k ≤ 30000 := by
  have h1 := sq_rng _ _ _ _ (pt_ok h h0 k) (pt_ok h h0 (k + 1))
  have h2 := root_le (sqI (pt zs k).1 (pt zs k).2 (pt zs (k + 1)).1 (pt zs (k + 1)).2) (by omega)
  unfold lenF
  omega
theorem len_step (zs : List P2) (k : Nat) (x y u v : Int) (hk : k < zs.length) (h1 : zs.getD k (0, 0) = (x, y)) (h2 : zs.getD ((k + 1) % zs.length) (0, 0) = (u, v)) :
    sumTo (lenF zs) k + rootI (sqI x y u v) = sumTo (lenF zs) (k + 1) := by
  show _ = sumTo _ k + lenF zs k
  unfold lenF
  rw [pt_lt hk, h1, pt, h2]
end Go.Proofs.Ytcbbhpabiijpoaa
