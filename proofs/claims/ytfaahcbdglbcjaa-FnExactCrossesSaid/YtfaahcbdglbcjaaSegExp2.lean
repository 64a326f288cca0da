/- Exported functions of chapter 2 over points: segments that cross and touch, in spec and in impl. -/
import Derived.Test.YtfaahcbdglbcjaaSegExp1
import Derived.Test.YtfaahcbdglbcjaaSegTouch
namespace Go.Proofs.Ytfaahcbdglbcjaa
open Go.ChangeShapes Go.WideShapes Go.ChangeAt Go.RowKit

theorem crsS_no (xa ya xb yb xc yc xd yd : Int) (w : World) (hv : (okI xa ya && okI xb yb && okI xc yc && okI xd yd) = false) :
    Calls Try.prog 31 #[.agg #[.int .i64 xa, .int .i64 ya], .agg #[.int .i64 xb, .int .i64 yb], .agg #[.int .i64 xc, .int .i64 yc], .agg #[.int .i64 xd, .int .i64 yd]] w fun e w' => e = .returned (.bool false) ∧ Below w.heap.size w w' := by
  have HV := Lib.hid (show ok4 xa ya xb yb xc yc xd yd = false by rw [ok4_4]; exact hv)
  clear hv
  go_enter Try.func31, Try.ntmps31
  go_wp2_with fail
  refine (four_no xa ya xb yb xc yc xd yd _ HV.out).mono ?_
  rintro e w1 ⟨rfl, g1⟩
  obtain ⟨k1, q1⟩ := bcell g1
  have HW1 := Lib.hid g1
  clear g1
  clear k1 q1
  go_wp2
  go_ret
  exact ⟨rfl, bseq (four_allocs _ _ _ _) HW1.out⟩
set_option maxHeartbeats 1000000 in
theorem crsS_yes (xa ya xb yb xc yc xd yd : Int) (w : World) (ha : okI xa ya = true) (hb : okI xb yb = true) (hc : okI xc yc = true) (hd : okI xd yd = true) :
    Calls Try.prog 31 #[.agg #[.int .i64 xa, .int .i64 ya], .agg #[.int .i64 xb, .int .i64 yb], .agg #[.int .i64 xc, .int .i64 yc], .agg #[.int .i64 xd, .int .i64 yd]] w fun e w' => e = .returned (.bool (csB xa ya xb yb xc yc xd yd)) ∧ Below w.heap.size w w' := by
  have hv := v4_of xa ya xb yb xc yc xd yd ha hb hc hd
  have HV := Lib.hid (show ok4 xa ya xb yb xc yc xd yd = true by rw [ok4_4]; exact hv)
  clear hv
  go_enter Try.func31, Try.ntmps31
  go_wp2_with fail
  refine (four_yes xa ya xb yb xc yc xd yd _ HV.out).mono ?_
  rintro e w1 ⟨rfl, g1⟩
  obtain ⟨k1, q1⟩ := bcell g1
  have HW1 := Lib.hid g1
  clear g1
  go_wp2_with fail
  refine (crosses_spec _ _ _ _ _ _ _ _ _ ha hb hc hd).mono ?_
  rintro e w2 ⟨rfl, g2⟩
  obtain ⟨k2, q2⟩ := bcell (bseq HW1.out g2)
  have HW2 := Lib.hid (bseq HW1.out g2)
  clear g2 k1 q1
  clear k2 q2
  go_wp2
  go_ret
  exact ⟨rfl, bseq (four_allocs _ _ _ _) HW2.out⟩
theorem crsI_no (xa ya xb yb xc yc xd yd : Int) (w : World) (hv : (okI xa ya && okI xb yb && okI xc yc && okI xd yd) = false) :
    Calls Try.prog 18 #[.agg #[.int .i64 xa, .int .i64 ya], .agg #[.int .i64 xb, .int .i64 yb], .agg #[.int .i64 xc, .int .i64 yc], .agg #[.int .i64 xd, .int .i64 yd]] w fun e w' => e = .returned (.bool false) ∧ Below w.heap.size w w' := by
  have HV := Lib.hid hv
  clear hv
  go_enter Try.func18, Try.ntmps18
  go_wp2_with fail
  refine (allValid4_no _ _ _ _ _ _ _ _ _ _ _ (by simp) HV.out).mono ?_
  rintro e w1 ⟨rfl, g1⟩
  obtain ⟨k1, q1⟩ := bcell g1
  have HW1 := Lib.hid g1
  clear g1
  clear k1 q1
  go_wp2
  go_ret
  exact ⟨rfl, bseq (five_allocs _ _ _ _ _) HW1.out⟩
set_option maxHeartbeats 1000000 in
theorem crsI_yes (xa ya xb yb xc yc xd yd : Int) (w : World) (ha : okI xa ya = true) (hb : okI xb yb = true) (hc : okI xc yc = true) (hd : okI xd yd = true) :
    Calls Try.prog 18 #[.agg #[.int .i64 xa, .int .i64 ya], .agg #[.int .i64 xb, .int .i64 yb], .agg #[.int .i64 xc, .int .i64 yc], .agg #[.int .i64 xd, .int .i64 yd]] w fun e w' => e = .returned (.bool (csB xa ya xb yb xc yc xd yd)) ∧ Below w.heap.size w w' := by
  have hv := v4_of xa ya xb yb xc yc xd yd ha hb hc hd
  have HV := Lib.hid hv
  clear hv
  go_enter Try.func18, Try.ntmps18
  go_wp2_with fail
  refine (allValid4_yes _ _ _ _ _ _ _ _ _ _ _ (by simp) HV.out).mono ?_
  rintro e w1 ⟨rfl, g1⟩
  obtain ⟨k1, q1⟩ := bcell g1
  have HW1 := Lib.hid g1
  clear g1
  go_wp2_with fail
  refine (crosses_any _ _ _ _ _ _ _ _ _ ha hb hc hd).mono ?_
  rintro e w2 ⟨rfl, g2⟩
  obtain ⟨k2, q2⟩ := bcell (bseq HW1.out g2)
  have HW2 := Lib.hid (bseq HW1.out g2)
  clear g2 k1 q1
  clear k2 q2
  go_wp2
  go_ret
  exact ⟨rfl, bseq (five_allocs _ _ _ _ _) HW2.out⟩
theorem tchS_no (xa ya xb yb xc yc xd yd : Int) (w : World) (hv : (okI xa ya && okI xb yb && okI xc yc && okI xd yd) = false) :
    Calls Try.prog 32 #[.agg #[.int .i64 xa, .int .i64 ya], .agg #[.int .i64 xb, .int .i64 yb], .agg #[.int .i64 xc, .int .i64 yc], .agg #[.int .i64 xd, .int .i64 yd]] w fun e w' => e = .returned (.bool false) ∧ Below w.heap.size w w' := by
  have HV := Lib.hid (show ok4 xa ya xb yb xc yc xd yd = false by rw [ok4_4]; exact hv)
  clear hv
  go_enter Try.func32, Try.ntmps32
  go_wp2_with fail
  refine (four_no xa ya xb yb xc yc xd yd _ HV.out).mono ?_
  rintro e w1 ⟨rfl, g1⟩
  obtain ⟨k1, q1⟩ := bcell g1
  have HW1 := Lib.hid g1
  clear g1
  clear k1 q1
  go_wp2
  go_ret
  exact ⟨rfl, bseq (four_allocs _ _ _ _) HW1.out⟩
set_option maxHeartbeats 1000000 in
theorem tchS_yes (xa ya xb yb xc yc xd yd : Int) (w : World) (ha : okI xa ya = true) (hb : okI xb yb = true) (hc : okI xc yc = true) (hd : okI xd yd = true) :
    Calls Try.prog 32 #[.agg #[.int .i64 xa, .int .i64 ya], .agg #[.int .i64 xb, .int .i64 yb], .agg #[.int .i64 xc, .int .i64 yc], .agg #[.int .i64 xd, .int .i64 yd]] w fun e w' => e = .returned (.bool (tcB xa ya xb yb xc yc xd yd)) ∧ Below w.heap.size w w' := by
  have hv := v4_of xa ya xb yb xc yc xd yd ha hb hc hd
  have HV := Lib.hid (show ok4 xa ya xb yb xc yc xd yd = true by rw [ok4_4]; exact hv)
  clear hv
  go_enter Try.func32, Try.ntmps32
  go_wp2_with fail
  refine (four_yes xa ya xb yb xc yc xd yd _ HV.out).mono ?_
  rintro e w1 ⟨rfl, g1⟩
  obtain ⟨k1, q1⟩ := bcell g1
  have HW1 := Lib.hid g1
  clear g1
  go_wp2_with fail
  refine (touches_spec _ _ _ _ _ _ _ _ _ ha hb hc hd).mono ?_
  rintro e w2 ⟨rfl, g2⟩
  obtain ⟨k2, q2⟩ := bcell (bseq HW1.out g2)
  have HW2 := Lib.hid (bseq HW1.out g2)
  clear g2 k1 q1
  clear k2 q2
  go_wp2
  go_ret
  exact ⟨rfl, bseq (four_allocs _ _ _ _) HW2.out⟩
theorem tchI_no (xa ya xb yb xc yc xd yd : Int) (w : World) (hv : (okI xa ya && okI xb yb && okI xc yc && okI xd yd) = false) :
    Calls Try.prog 19 #[.agg #[.int .i64 xa, .int .i64 ya], .agg #[.int .i64 xb, .int .i64 yb], .agg #[.int .i64 xc, .int .i64 yc], .agg #[.int .i64 xd, .int .i64 yd]] w fun e w' => e = .returned (.bool false) ∧ Below w.heap.size w w' := by
  have HV := Lib.hid hv
  clear hv
  go_enter Try.func19, Try.ntmps19
  go_wp2_with fail
  refine (allValid4_no _ _ _ _ _ _ _ _ _ _ _ (by simp) HV.out).mono ?_
  rintro e w1 ⟨rfl, g1⟩
  obtain ⟨k1, q1⟩ := bcell g1
  have HW1 := Lib.hid g1
  clear g1
  clear k1 q1
  go_wp2
  go_ret
  exact ⟨rfl, bseq (five_allocs _ _ _ _ _) HW1.out⟩
set_option maxHeartbeats 1000000 in
theorem tchI_yes (xa ya xb yb xc yc xd yd : Int) (w : World) (ha : okI xa ya = true) (hb : okI xb yb = true) (hc : okI xc yc = true) (hd : okI xd yd = true) :
    Calls Try.prog 19 #[.agg #[.int .i64 xa, .int .i64 ya], .agg #[.int .i64 xb, .int .i64 yb], .agg #[.int .i64 xc, .int .i64 yc], .agg #[.int .i64 xd, .int .i64 yd]] w fun e w' => e = .returned (.bool (tcB xa ya xb yb xc yc xd yd)) ∧ Below w.heap.size w w' := by
  have hv := v4_of xa ya xb yb xc yc xd yd ha hb hc hd
  have HV := Lib.hid hv
  clear hv
  go_enter Try.func19, Try.ntmps19
  go_wp2_with fail
  refine (allValid4_yes _ _ _ _ _ _ _ _ _ _ _ (by simp) HV.out).mono ?_
  rintro e w1 ⟨rfl, g1⟩
  obtain ⟨k1, q1⟩ := bcell g1
  have HW1 := Lib.hid g1
  clear g1
  go_wp2_with fail
  refine (touches_any _ _ _ _ _ _ _ _ _ ha hb hc hd).mono ?_
  rintro e w2 ⟨rfl, g2⟩
  obtain ⟨k2, q2⟩ := bcell (bseq HW1.out g2)
  have HW2 := Lib.hid (bseq HW1.out g2)
  clear g2 k1 q1
  clear k2 q2
  go_wp2
  go_ret
  exact ⟨rfl, bseq (five_allocs _ _ _ _ _) HW2.out⟩
end Go.Proofs.Ytfaahcbdglbcjaa
