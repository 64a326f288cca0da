/- Distances of impl over valid points. -/
import Derived.Test.YthflkkkpggaalaaK1
import Derived.Test.YthflkkkpggaalaaPlan
import Derived.Test.YthflkkkpggaalaaRootImpl
namespace Go.Proofs.Ythflkkkpggaalaa
open Go.ChangeShapes Go.WideShapes Go.ChangeAt Go.RowKit

set_option maxHeartbeats 1000000 in
theorem apart_any (xa ya xp yp : Int) (w : World) (ha : okI xa ya = true) (hp : okI xp yp = true) :
    Calls Try.prog 118 #[.agg #[.int .i64 xa, .int .i64 ya], .agg #[.int .i64 xp, .int .i64 yp]] w fun e w' => e = .returned (.int .i64 (rootI (sqI xa ya xp yp))) ∧ Below w.heap.size w w' := by
  have m1 := mulB (xp - xa) (xp - xa) 20000 20000
  have m2 := mulB (yp - ya) (yp - ya) 20000 20000
  have hs := Lib.hid (show rootI ((xp - xa) * (xp - xa) + (yp - ya) * (yp - ya)) = rootI (sqI xa ya xp yp) by rw [← sq_swap]; rfl)
  have ba := ok_bd ha
  have bp := ok_bd hp
  have HA := Lib.hid ha
  have HP := Lib.hid hp
  clear ha hp
  replace m1 := m1 (by omega) (by omega) (by omega) (by omega)
  replace m2 := m2 (by omega) (by omega) (by omega) (by omega)
  go_enter Try.func118, Try.ntmps118
  go_wp2_with fail
  refine (minus_any _ _ _ _ _ (by omega) (by omega) (by omega) (by omega)).mono ?_
  rintro e w1 ⟨rfl, hb1⟩
  have HB1 := Lib.hid hb1
  clear hb1
  go_wp2_with fail
  refine (dot_any _ _ _ _ _ (by omega) (by omega) (by omega) (by omega)).mono ?_
  rintro e w2 ⟨rfl, hb2⟩
  have HB2 := Lib.hid hb2
  clear hb2
  go_wp2_with fail
  refine (root_impl _ _ (by omega)).mono ?_
  rintro e w3 ⟨rfl, rfl⟩
  go_wp2
  go_ret
  exact ⟨ret_int hs.out, bseq ((bseq (two_allocs _ _) HB1.out).alloc (bseq (two_allocs _ _) HB1.out).size _) HB2.out⟩
theorem far_cases (xa ya xb yb xp yp : Int) : farI xa ya xb yb xp yp = if alI xa ya xb yb xp yp ≤ 0 then rootI (sqI xa ya xp yp) else if sqI xa ya xb yb ≤ alI xa ya xb yb xp yp then rootI (sqI xb yb xp yp)
  else rootI (crI xa ya xb yb xp yp * crI xa ya xb yb xp yp / sqI xa ya xb yb) := rfl
end Go.Proofs.Ythflkkkpggaalaa
