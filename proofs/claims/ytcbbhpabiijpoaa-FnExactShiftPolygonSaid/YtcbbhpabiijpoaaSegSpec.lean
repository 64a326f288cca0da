/- Points and segments of spec: validity, sides. -/
import Derived.Test.YtcbbhpabiijpoaaPtImpl
import Derived.Test.YtcbbhpabiijpoaaRoot
namespace Go.Proofs.Ytcbbhpabiijpoaa
open Go.ChangeShapes Go.WideShapes Go.ChangeAt Go.RowKit

def ok4 (xa ya xb yb xc yc xd yd : Int) : Bool := okI xa ya && okI xb yb && okI xc yc && okI xd yd
set_option maxHeartbeats 400000 in
theorem four_spec (xa ya xb yb xc yc xd yd : Int) (w : World)  :
    Calls Try.prog 118 #[.agg #[.int .i64 xa, .int .i64 ya], .agg #[.int .i64 xb, .int .i64 yb], .agg #[.int .i64 xc, .int .i64 yc], .agg #[.int .i64 xd, .int .i64 yd]] w fun e w' => e = .returned (.bool (ok4 xa ya xb yb xc yc xd yd)) ∧ Below w.heap.size w w' := by
  cases c0 : okI xa ya
  · have hs : ok4 xa ya xb yb xc yc xd yd = false := by simp [ok4, c0]
    rw [hs]; clear hs
    go_enter Try.func118, Try.ntmps118
    go_wp2_with fail
    refine (ok_spec _ _ _).mono ?_
    rintro e w1 ⟨rfl, g1⟩
    obtain ⟨k1, q1⟩ := bcell g1
    have HW1 := Lib.hid g1
    clear g1
    clear k1 q1
    go_wp2
    go_ret
    exact ⟨rfl, bseq (four_allocs _ _ _ _) HW1.out⟩
  cases c1 : okI xb yb
  · have hs : ok4 xa ya xb yb xc yc xd yd = false := by simp [ok4, c0, c1]
    rw [hs]; clear hs
    go_enter Try.func118, Try.ntmps118
    go_wp2_with fail
    refine (ok_spec _ _ _).mono ?_
    rintro e w1 ⟨rfl, g1⟩
    obtain ⟨k1, q1⟩ := bcell g1
    have HW1 := Lib.hid g1
    clear g1
    go_wp2_with fail
    refine (ok_spec _ _ _).mono ?_
    rintro e w2 ⟨rfl, g2⟩
    obtain ⟨k2, q2⟩ := bcell (bseq HW1.out g2)
    have HW2 := Lib.hid (bseq HW1.out g2)
    clear g2 k1 q1
    clear k2 q2
    go_wp2
    go_ret
    exact ⟨rfl, bseq (four_allocs _ _ _ _) HW2.out⟩
  cases c2 : okI xc yc
  · have hs : ok4 xa ya xb yb xc yc xd yd = false := by simp [ok4, c0, c1, c2]
    rw [hs]; clear hs
    go_enter Try.func118, Try.ntmps118
    go_wp2_with fail
    refine (ok_spec _ _ _).mono ?_
    rintro e w1 ⟨rfl, g1⟩
    obtain ⟨k1, q1⟩ := bcell g1
    have HW1 := Lib.hid g1
    clear g1
    go_wp2_with fail
    refine (ok_spec _ _ _).mono ?_
    rintro e w2 ⟨rfl, g2⟩
    obtain ⟨k2, q2⟩ := bcell (bseq HW1.out g2)
    have HW2 := Lib.hid (bseq HW1.out g2)
    clear g2 k1 q1
    go_wp2_with fail
    refine (ok_spec _ _ _).mono ?_
    rintro e w3 ⟨rfl, g3⟩
    obtain ⟨k3, q3⟩ := bcell (bseq HW2.out g3)
    have HW3 := Lib.hid (bseq HW2.out g3)
    clear g3 k2 q2
    clear k3 q3
    go_wp2
    go_ret
    exact ⟨rfl, bseq (four_allocs _ _ _ _) HW3.out⟩
  cases c3 : okI xd yd
  · have hs : ok4 xa ya xb yb xc yc xd yd = false := by simp [ok4, c0, c1, c2, c3]
    rw [hs]; clear hs
    go_enter Try.func118, Try.ntmps118
    go_wp2_with fail
    refine (ok_spec _ _ _).mono ?_
    rintro e w1 ⟨rfl, g1⟩
    obtain ⟨k1, q1⟩ := bcell g1
    have HW1 := Lib.hid g1
    clear g1
    go_wp2_with fail
    refine (ok_spec _ _ _).mono ?_
    rintro e w2 ⟨rfl, g2⟩
    obtain ⟨k2, q2⟩ := bcell (bseq HW1.out g2)
    have HW2 := Lib.hid (bseq HW1.out g2)
    clear g2 k1 q1
    go_wp2_with fail
    refine (ok_spec _ _ _).mono ?_
    rintro e w3 ⟨rfl, g3⟩
    obtain ⟨k3, q3⟩ := bcell (bseq HW2.out g3)
    have HW3 := Lib.hid (bseq HW2.out g3)
    clear g3 k2 q2
    go_wp2_with fail
    refine (ok_spec _ _ _).mono ?_
    rintro e w4 ⟨rfl, g4⟩
    obtain ⟨k4, q4⟩ := bcell (bseq HW3.out g4)
    have HW4 := Lib.hid (bseq HW3.out g4)
    clear g4 k3 q3
    clear k4 q4
    go_wp2
    go_ret
    exact ⟨rfl, bseq (four_allocs _ _ _ _) HW4.out⟩
  have hs : ok4 xa ya xb yb xc yc xd yd = true := by simp [ok4, c0, c1, c2, c3]
  rw [hs]; clear hs
  go_enter Try.func118, Try.ntmps118
  go_wp2_with fail
  refine (ok_spec _ _ _).mono ?_
  rintro e w1 ⟨rfl, g1⟩
  obtain ⟨k1, q1⟩ := bcell g1
  have HW1 := Lib.hid g1
  clear g1
  go_wp2_with fail
  refine (ok_spec _ _ _).mono ?_
  rintro e w2 ⟨rfl, g2⟩
  obtain ⟨k2, q2⟩ := bcell (bseq HW1.out g2)
  have HW2 := Lib.hid (bseq HW1.out g2)
  clear g2 k1 q1
  go_wp2_with fail
  refine (ok_spec _ _ _).mono ?_
  rintro e w3 ⟨rfl, g3⟩
  obtain ⟨k3, q3⟩ := bcell (bseq HW2.out g3)
  have HW3 := Lib.hid (bseq HW2.out g3)
  clear g3 k2 q2
  go_wp2_with fail
  refine (ok_spec _ _ _).mono ?_
  rintro e w4 ⟨rfl, g4⟩
  obtain ⟨k4, q4⟩ := bcell (bseq HW3.out g4)
  have HW4 := Lib.hid (bseq HW3.out g4)
  clear g4 k3 q3
  clear k4 q4
  go_wp2
  go_ret
  exact ⟨rfl, bseq (four_allocs _ _ _ _) HW4.out⟩
theorem cross_spec (xa ya xb yb xc yc : Int) (w : World) (ha : okI xa ya = true) (hb : okI xb yb = true) (hc : okI xc yc = true) :
    Calls Try.prog 130 #[.agg #[.int .i64 xa, .int .i64 ya], .agg #[.int .i64 xb, .int .i64 yb], .agg #[.int .i64 xc, .int .i64 yc]] w fun e w' => e = .returned (.int .i64 (crI xa ya xb yb xc yc)) ∧ Below w.heap.size w w' := by
  have ba := ok_bd ha
  have bb := ok_bd hb
  have bc := ok_bd hc
  have HA := Lib.hid ha
  have HB := Lib.hid hb
  have HC := Lib.hid hc
  clear ha hb hc
  have m1 := mulB (xb - xa) (yc - ya) 20000 20000 (by omega) (by omega) (by omega) (by omega)
  have m2 := mulB (yb - ya) (xc - xa) 20000 20000 (by omega) (by omega) (by omega) (by omega)
  go_enter Try.func130, Try.ntmps130
  go_wp2
  go_ret
  exact ⟨rfl, three_allocs _ _ _⟩
theorem cr_rng (xa ya xb yb xc yc : Int) (ha : okI xa ya = true) (hb : okI xb yb = true) (hc : okI xc yc = true) : -800000000 ≤ crI xa ya xb yb xc yc ∧ crI xa ya xb yb xc yc ≤ 800000000 := by
  have ba := ok_bd ha
  have bb := ok_bd hb
  have bc := ok_bd hc
  clear ha hb hc
  have m1 := mulB (xb - xa) (yc - ya) 20000 20000 (by omega) (by omega) (by omega) (by omega)
  have m2 := mulB (yb - ya) (xc - xa) 20000 20000 (by omega) (by omega) (by omega) (by omega)
  unfold crI
  omega
theorem side_spec (xa ya xb yb xc yc : Int) (w : World) (ha : okI xa ya = true) (hb : okI xb yb = true) (hc : okI xc yc = true) :
    Calls Try.prog 113 #[.agg #[.int .i64 xa, .int .i64 ya], .agg #[.int .i64 xb, .int .i64 yb], .agg #[.int .i64 xc, .int .i64 yc]] w fun e w' => e = .returned (.int .i64 (sdI xa ya xb yb xc yc)) ∧ Below w.heap.size w w' := by
  have hs : sdI xa ya xb yb xc yc = if 0 < crI xa ya xb yb xc yc then 1 else if crI xa ya xb yb xc yc < 0 then -1 else 0 := rfl
  have hx := cross_spec xa ya xb yb xc yc
  by_cases h1 : 0 < crI xa ya xb yb xc yc
  · rw [if_pos h1] at hs
    rw [hs]; clear hs
    have HX := Lib.hid hx
    clear hx
    go_enter Try.func113, Try.ntmps113
    go_wp2_with fail
    refine (HX.out _ ha hb hc).mono ?_
    rintro e w1 ⟨rfl, g1⟩
    obtain ⟨k1, q1⟩ := bcell g1
    have HW1 := Lib.hid g1
    clear g1
    clear k1 q1
    go_wp2
    go_ret
    exact ⟨rfl, bseq (three_allocs _ _ _) HW1.out⟩
  by_cases h2 : crI xa ya xb yb xc yc < 0
  · rw [if_neg h1, if_pos h2] at hs
    rw [hs]; clear hs
    have HX := Lib.hid hx
    clear hx
    go_enter Try.func113, Try.ntmps113
    go_wp2_with fail
    refine (HX.out _ ha hb hc).mono ?_
    rintro e w1 ⟨rfl, g1⟩
    obtain ⟨k1, q1⟩ := bcell g1
    have HW1 := Lib.hid g1
    clear g1
    clear k1 q1
    go_wp2
    go_ret
    exact ⟨rfl, bseq (three_allocs _ _ _) HW1.out⟩
  · rw [if_neg h1, if_neg h2] at hs
    rw [hs]; clear hs
    have HX := Lib.hid hx
    clear hx
    go_enter Try.func113, Try.ntmps113
    go_wp2_with fail
    refine (HX.out _ ha hb hc).mono ?_
    rintro e w1 ⟨rfl, g1⟩
    obtain ⟨k1, q1⟩ := bcell g1
    have HW1 := Lib.hid g1
    clear g1
    clear k1 q1
    go_wp2
    go_ret
    exact ⟨rfl, bseq (three_allocs _ _ _) HW1.out⟩
theorem min_spec (x y : Int) (w : World) : Calls Try.prog 127 #[.int .i64 x, .int .i64 y] w fun e w' => e = .returned (.int .i64 (min x y)) ∧ w = w' := by
  by_cases h : x < y
  · rw [show min x y = x by omega]
    go_enter Try.func127, Try.ntmps127
    go_wp2
    go_ret
    exact ⟨rfl, rfl⟩
  · rw [show min x y = y by omega]
    go_enter Try.func127, Try.ntmps127
    go_wp2
    go_ret
    exact ⟨rfl, rfl⟩
theorem max_spec (x y : Int) (w : World) : Calls Try.prog 128 #[.int .i64 x, .int .i64 y] w fun e w' => e = .returned (.int .i64 (max x y)) ∧ w = w' := by
  by_cases h : y < x
  · rw [show max x y = x by omega]
    go_enter Try.func128, Try.ntmps128
    go_wp2
    go_ret
    exact ⟨rfl, rfl⟩
  · rw [show max x y = y by omega]
    go_enter Try.func128, Try.ntmps128
    go_wp2
    go_ret
    exact ⟨rfl, rfl⟩
end Go.Proofs.Ytcbbhpabiijpoaa
