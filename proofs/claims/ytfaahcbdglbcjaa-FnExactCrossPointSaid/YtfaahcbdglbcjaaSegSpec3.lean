/- Distances of spec. -/
import Derived.Test.YtfaahcbdglbcjaaSegSpec2
namespace Go.Proofs.Ytfaahcbdglbcjaa
open Go.ChangeShapes Go.WideShapes Go.ChangeAt Go.RowKit

theorem sq_rng (xa ya xb yb : Int) (ha : okI xa ya = true) (hb : okI xb yb = true) : 0 ≤ sqI xa ya xb yb ∧ sqI xa ya xb yb ≤ 800000000 := by
  have ba := ok_bd ha
  have bb := ok_bd hb
  have m1 := mulB (xa - xb) (xa - xb) 20000 20000 (by omega) (by omega) (by omega) (by omega)
  have m2 := mulB (ya - yb) (ya - yb) 20000 20000 (by omega) (by omega) (by omega) (by omega)
  have s1 := sq_nonneg (xa - xb)
  have s2 := sq_nonneg (ya - yb)
  unfold sqI
  omega
theorem square_spec (xa ya xb yb : Int) (w : World) (ha : okI xa ya = true) (hb : okI xb yb = true) :
    Calls Try.prog 95 #[.agg #[.int .i64 xa, .int .i64 ya], .agg #[.int .i64 xb, .int .i64 yb]] w fun e w' => e = .returned (.int .i64 (sqI xa ya xb yb)) ∧ Below w.heap.size w w' := by
  have ba := ok_bd ha
  have bb := ok_bd hb
  have HA := Lib.hid ha
  have HB := Lib.hid hb
  clear ha hb
  have m1 := mulB (xa - xb) (xa - xb) 20000 20000 (by omega) (by omega) (by omega) (by omega)
  have m2 := mulB (ya - yb) (ya - yb) 20000 20000 (by omega) (by omega) (by omega) (by omega)
  go_enter Try.func95, Try.ntmps95
  go_wp2
  go_ret
  exact ⟨rfl, two_allocs _ _⟩
theorem apart_spec (xa ya xb yb : Int) (w : World) (ha : okI xa ya = true) (hb : okI xb yb = true) :
    Calls Try.prog 66 #[.agg #[.int .i64 xa, .int .i64 ya], .agg #[.int .i64 xb, .int .i64 yb]] w fun e w' => e = .returned (.int .i64 (rootI (sqI xa ya xb yb))) ∧ Below w.heap.size w w' := by
  have hr := sq_rng _ _ _ _ ha hb
  go_enter Try.func66, Try.ntmps66
  go_wp2_with fail
  refine (square_spec _ _ _ _ _ ha hb).mono ?_
  rintro e w1 ⟨rfl, g1⟩
  obtain ⟨k1, q1⟩ := bcell g1
  have HW1 := Lib.hid g1
  clear g1
  go_wp2_with fail
  refine (l01Root_any _ _ (by omega)).mono ?_
  rintro e w2q ⟨rfl, rfl⟩
  clear k1 q1
  go_wp2
  go_ret
  exact ⟨rfl, bseq (two_allocs _ _) HW1.out⟩
set_option maxHeartbeats 1000000 in
theorem farS_start (xa ya xb yb xp yp : Int) (w : World) (ha : okI xa ya = true) (hb : okI xb yb = true) (hp : okI xp yp = true) (h0 : (xb - xa) * (xp - xa) + (yb - ya) * (yp - ya) ≤ 0) :
    Calls Try.prog 68 #[.agg #[.int .i64 xa, .int .i64 ya], .agg #[.int .i64 xb, .int .i64 yb], .agg #[.int .i64 xp, .int .i64 yp]] w fun e w' => e = .returned (.int .i64 (rootI (sqI xa ya xp yp))) ∧ Below w.heap.size w w' := by
  have hq := sq_rng xa ya xb yb ha hb
  have ba := ok_bd ha
  have bb := ok_bd hb
  have bp := ok_bd hp
  have m1 := mulB (xb - xa) (xp - xa) 20000 20000 (by omega) (by omega) (by omega) (by omega)
  have m2 := mulB (yb - ya) (yp - ya) 20000 20000 (by omega) (by omega) (by omega) (by omega)
  go_enter Try.func68, Try.ntmps68
  go_wp2_with fail
  refine (square_spec _ _ _ _ _ ha hb).mono ?_
  rintro e w1 ⟨rfl, g1⟩
  obtain ⟨k1, q1⟩ := bcell g1
  have HW1 := Lib.hid g1
  clear g1
  go_wp2_with fail
  refine (apart_spec _ _ _ _ _ ha hp).mono ?_
  rintro e w2 ⟨rfl, g2⟩
  obtain ⟨k2, q2⟩ := bcell (bseq HW1.out g2)
  have HW2 := Lib.hid (bseq HW1.out g2)
  clear g2 k1 q1
  clear k2 q2
  go_wp2
  go_ret
  exact ⟨rfl, bseq (three_allocs _ _ _) HW2.out⟩
set_option maxHeartbeats 1000000 in
theorem farS_end (xa ya xb yb xp yp : Int) (w : World) (ha : okI xa ya = true) (hb : okI xb yb = true) (hp : okI xp yp = true) (h0 : 0 < (xb - xa) * (xp - xa) + (yb - ya) * (yp - ya)) (h1 : sqI xa ya xb yb ≤ (xb - xa) * (xp - xa) + (yb - ya) * (yp - ya)) :
    Calls Try.prog 68 #[.agg #[.int .i64 xa, .int .i64 ya], .agg #[.int .i64 xb, .int .i64 yb], .agg #[.int .i64 xp, .int .i64 yp]] w fun e w' => e = .returned (.int .i64 (rootI (sqI xb yb xp yp))) ∧ Below w.heap.size w w' := by
  have hq := sq_rng xa ya xb yb ha hb
  have ba := ok_bd ha
  have bb := ok_bd hb
  have bp := ok_bd hp
  have m1 := mulB (xb - xa) (xp - xa) 20000 20000 (by omega) (by omega) (by omega) (by omega)
  have m2 := mulB (yb - ya) (yp - ya) 20000 20000 (by omega) (by omega) (by omega) (by omega)
  go_enter Try.func68, Try.ntmps68
  go_wp2_with fail
  refine (square_spec _ _ _ _ _ ha hb).mono ?_
  rintro e w1 ⟨rfl, g1⟩
  obtain ⟨k1, q1⟩ := bcell g1
  have HW1 := Lib.hid g1
  clear g1
  go_wp2_with fail
  refine (apart_spec _ _ _ _ _ hb hp).mono ?_
  rintro e w2 ⟨rfl, g2⟩
  obtain ⟨k2, q2⟩ := bcell (bseq HW1.out g2)
  have HW2 := Lib.hid (bseq HW1.out g2)
  clear g2 k1 q1
  clear k2 q2
  go_wp2
  go_ret
  exact ⟨rfl, bseq (three_allocs _ _ _) HW2.out⟩
set_option maxHeartbeats 1000000 in
theorem farS_mid (xa ya xb yb xp yp : Int) (w : World) (ha : okI xa ya = true) (hb : okI xb yb = true) (hp : okI xp yp = true) (h0 : 0 < (xb - xa) * (xp - xa) + (yb - ya) * (yp - ya)) (h1 : (xb - xa) * (xp - xa) + (yb - ya) * (yp - ya) < sqI xa ya xb yb) :
    Calls Try.prog 68 #[.agg #[.int .i64 xa, .int .i64 ya], .agg #[.int .i64 xb, .int .i64 yb], .agg #[.int .i64 xp, .int .i64 yp]] w fun e w' => e = .returned (.int .i64 (rootI (crI xa ya xb yb xp yp * crI xa ya xb yb xp yp / sqI xa ya xb yb))) ∧ Below w.heap.size w w' := by
  have hq := sq_rng xa ya xb yb ha hb
  have ba := ok_bd ha
  have bb := ok_bd hb
  have bp := ok_bd hp
  have m1 := mulB (xb - xa) (xp - xa) 20000 20000 (by omega) (by omega) (by omega) (by omega)
  have m2 := mulB (yb - ya) (yp - ya) 20000 20000 (by omega) (by omega) (by omega) (by omega)
  have hc := cr_rng xa ya xb yb xp yp ha hb hp
  have m7 := mulB (crI xa ya xb yb xp yp) (crI xa ya xb yb xp yp) 800000000 800000000 (by omega) (by omega) (by omega) (by omega)
  have m8 := sq_nonneg (crI xa ya xb yb xp yp)
  have m9 : crI xa ya xb yb xp yp * crI xa ya xb yb xp yp / sqI xa ya xb yb ≤ 640000000000000000 := Int.le_trans (Int.ediv_le_self _ m8) (by omega)
  go_enter Try.func68, Try.ntmps68
  go_wp2_with fail
  refine (square_spec _ _ _ _ _ ha hb).mono ?_
  rintro e w1 ⟨rfl, g1⟩
  obtain ⟨k1, q1⟩ := bcell g1
  have HW1 := Lib.hid g1
  clear g1
  go_wp2_with fail
  refine (cross_spec _ _ _ _ _ _ _ ha hb hp).mono ?_
  rintro e w2 ⟨rfl, g2⟩
  obtain ⟨k2, q2⟩ := bcell (bseq HW1.out g2)
  have HW2 := Lib.hid (bseq HW1.out g2)
  clear g2 k1 q1
  go_wp2_with fail
  refine (l01Root_any _ _ (by omega)).mono ?_
  rintro e w3q ⟨rfl, rfl⟩
  clear k2 q2
  go_wp2
  go_ret
  exact ⟨rfl, bseq (three_allocs _ _ _) HW2.out⟩
theorem far_spec (xa ya xb yb xp yp : Int) (w : World) (ha : okI xa ya = true) (hb : okI xb yb = true) (hp : okI xp yp = true) :
    Calls Try.prog 68 #[.agg #[.int .i64 xa, .int .i64 ya], .agg #[.int .i64 xb, .int .i64 yb], .agg #[.int .i64 xp, .int .i64 yp]] w fun e w' => e = .returned (.int .i64 (farI xa ya xb yb xp yp)) ∧ Below w.heap.size w w' := by
  have e1 : alI xa ya xb yb xp yp = (xb - xa) * (xp - xa) + (yb - ya) * (yp - ya) := rfl
  rw [show farI xa ya xb yb xp yp = if alI xa ya xb yb xp yp ≤ 0 then rootI (sqI xa ya xp yp) else if sqI xa ya xb yb ≤ alI xa ya xb yb xp yp then rootI (sqI xb yb xp yp)
    else rootI (crI xa ya xb yb xp yp * crI xa ya xb yb xp yp / sqI xa ya xb yb) from rfl]
  split
  · exact farS_start _ _ _ _ _ _ w ha hb hp (by omega)
  · split
    · exact farS_end _ _ _ _ _ _ w ha hb hp (by omega) (by omega)
    · exact farS_mid _ _ _ _ _ _ w ha hb hp (by omega) (by omega)
end Go.Proofs.Ytfaahcbdglbcjaa
