/- Distances of spec. -/
import Derived.Test.YtfapacdfpegibaaSegSpec2
namespace Go.Proofs.Ytfapacdfpegibaa
open Go.ChangeShapes Go.WideShapes Go.ChangeAt Go.RowKit

theorem sq_rng (xa ya xb yb : Int) (ha : okI xa ya = true) (hb : okI xb yb = true) : 0 ≤ sqI xa ya xb yb ∧ sqI xa ya xb yb ≤ 800000000 := by
  have ba := ok_bd ha
  have bb := ok_bd hb
  have m1 := mulB (xa - xb) (xa - xb) 20000 20000 (by omega) (by omega) (by omega) (by omega)
  have m2 := mulB (ya - yb) (ya - yb) 20000 20000 (by omega) (by omega) (by omega) (by omega)
  have s1 := sq_nonneg (xa - xb)
  have s2 := sq_nonneg (ya - yb)
  unfold sqI
  omega
theorem square_spec (xa ya xb yb : Int) (w : World) (ha : okI xa ya = true) (hb : okI xb yb = true) :
    Calls Try.prog 150 #[.agg #[.int .i64 xa, .int .i64 ya], .agg #[.int .i64 xb, .int .i64 yb]] w fun e w' => e = .returned (.int .i64 (sqI xa ya xb yb)) ∧ Below w.heap.size w w' := by
  have ba := ok_bd ha
  have bb := ok_bd hb
  have HA := Lib.hid ha
  have HB := Lib.hid hb
  clear ha hb
  have m1 := mulB (xa - xb) (xa - xb) 20000 20000 (by omega) (by omega) (by omega) (by omega)
  have m2 := mulB (ya - yb) (ya - yb) 20000 20000 (by omega) (by omega) (by omega) (by omega)
  go_enter Try.func150, Try.ntmps150
  go_wp2
  go_ret
  exact ⟨rfl, two_allocs _ _⟩
theorem apart_spec (xa ya xb yb : Int) (w : World) (ha : okI xa ya = true) (hb : okI xb yb = true) :
    Calls Try.prog 132 #[.agg #[.int .i64 xa, .int .i64 ya], .agg #[.int .i64 xb, .int .i64 yb]] w fun e w' => e = .returned (.int .i64 (rootI (sqI xa ya xb yb))) ∧ Below w.heap.size w w' := by
  have hr := sq_rng _ _ _ _ ha hb
  go_enter Try.func132, Try.ntmps132
  go_wp2_with fail
  refine (square_spec _ _ _ _ _ ha hb).mono ?_
  rintro e w1 ⟨rfl, g1⟩
  obtain ⟨k1, q1⟩ := bcell g1
  have HW1 := Lib.hid g1
  clear g1
  go_wp2_with fail
  refine (l01Root_any _ _ (by omega)).mono ?_
  rintro e w2q ⟨rfl, rfl⟩
  clear k1 q1
  go_wp2
  go_ret
  exact ⟨rfl, bseq (two_allocs _ _) HW1.out⟩
end Go.Proofs.Ytfapacdfpegibaa
