/- Distances of spec. -/
import Derived.Test.YtcbbhpabiijpoaaSegSpec2
namespace Go.Proofs.Ytcbbhpabiijpoaa
open Go.ChangeShapes Go.WideShapes Go.ChangeAt Go.RowKit

theorem sq_rng (xa ya xb yb : Int) (ha : okI xa ya = true) (hb : okI xb yb = true) : 0 ≤ sqI xa ya xb yb ∧ sqI xa ya xb yb ≤ 800000000 := by
  have ba := ok_bd ha
  have bb := ok_bd hb
  have m1 := mulB (xa - xb) (xa - xb) 20000 20000 (by omega) (by omega) (by omega) (by omega)
  have m2 := mulB (ya - yb) (ya - yb) 20000 20000 (by omega) (by omega) (by omega) (by omega)
  have s1 := sq_nonneg (xa - xb)
  have s2 := sq_nonneg (ya - yb)
  unfold sqI
  omega
end Go.Proofs.Ytcbbhpabiijpoaa
