/- Exported functions of chapter 2 over points: distances, in spec and in impl. -/
import Derived.Test.YtfaahcbdglbcjaaSegExp1
import Derived.Test.YtfaahcbdglbcjaaSegGap
import Derived.Test.YtfaahcbdglbcjaaSegFar
namespace Go.Proofs.Ytfaahcbdglbcjaa
open Go.ChangeShapes Go.WideShapes Go.ChangeAt Go.RowKit

theorem dstS_no (xa ya xb yb : Int) (w : World) (hv : (okI xa ya && okI xb yb) = false) :
    Calls Try.prog 33 #[.agg #[.int .i64 xa, .int .i64 ya], .agg #[.int .i64 xb, .int .i64 yb]] w fun e w' => e = .returned (.int .i64 (-1)) ∧ Below w.heap.size w w' := by
  have HV := Lib.hid (show ok4 xa ya xa ya xb yb xb yb = false by rw [ok4_2]; exact hv)
  clear hv
  go_enter Try.func33, Try.ntmps33
  go_wp2_with fail
  refine (four_no xa ya xa ya xb yb xb yb _ HV.out).mono ?_
  rintro e w1 ⟨rfl, g1⟩
  obtain ⟨k1, q1⟩ := bcell g1
  have HW1 := Lib.hid g1
  clear g1
  clear k1 q1
  go_wp2
  go_ret
  exact ⟨rfl, bseq (two_allocs _ _) HW1.out⟩
set_option maxHeartbeats 1000000 in
theorem dstS_yes (xa ya xb yb : Int) (w : World) (ha : okI xa ya = true) (hb : okI xb yb = true) :
    Calls Try.prog 33 #[.agg #[.int .i64 xa, .int .i64 ya], .agg #[.int .i64 xb, .int .i64 yb]] w fun e w' => e = .returned (.int .i64 (rootI (sqI xa ya xb yb))) ∧ Below w.heap.size w w' := by
  have hv := v2_of xa ya xb yb ha hb
  have HV := Lib.hid (show ok4 xa ya xa ya xb yb xb yb = true by rw [ok4_2]; exact hv)
  clear hv
  go_enter Try.func33, Try.ntmps33
  go_wp2_with fail
  refine (four_yes xa ya xa ya xb yb xb yb _ HV.out).mono ?_
  rintro e w1 ⟨rfl, g1⟩
  obtain ⟨k1, q1⟩ := bcell g1
  have HW1 := Lib.hid g1
  clear g1
  go_wp2_with fail
  refine (apart_spec _ _ _ _ _ ha hb).mono ?_
  rintro e w2 ⟨rfl, g2⟩
  obtain ⟨k2, q2⟩ := bcell (bseq HW1.out g2)
  have HW2 := Lib.hid (bseq HW1.out g2)
  clear g2 k1 q1
  clear k2 q2
  go_wp2
  go_ret
  exact ⟨rfl, bseq (two_allocs _ _) HW2.out⟩
theorem dstI_no (xa ya xb yb : Int) (w : World) (hv : (okI xa ya && okI xb yb) = false) :
    Calls Try.prog 34 #[.agg #[.int .i64 xa, .int .i64 ya], .agg #[.int .i64 xb, .int .i64 yb]] w fun e w' => e = .returned (.int .i64 (-1)) ∧ Below w.heap.size w w' := by
  have HV := Lib.hid hv
  clear hv
  go_enter Try.func34, Try.ntmps34
  go_wp2_with fail
  refine (allValid2_no _ _ _ _ _ _ _ (by simp) HV.out).mono ?_
  rintro e w1 ⟨rfl, g1⟩
  obtain ⟨k1, q1⟩ := bcell g1
  have HW1 := Lib.hid g1
  clear g1
  clear k1 q1
  go_wp2
  go_ret
  exact ⟨rfl, bseq (three_allocs _ _ _) HW1.out⟩
set_option maxHeartbeats 1000000 in
theorem dstI_yes (xa ya xb yb : Int) (w : World) (ha : okI xa ya = true) (hb : okI xb yb = true) :
    Calls Try.prog 34 #[.agg #[.int .i64 xa, .int .i64 ya], .agg #[.int .i64 xb, .int .i64 yb]] w fun e w' => e = .returned (.int .i64 (rootI (sqI xa ya xb yb))) ∧ Below w.heap.size w w' := by
  have hv := v2_of xa ya xb yb ha hb
  have HV := Lib.hid hv
  clear hv
  go_enter Try.func34, Try.ntmps34
  go_wp2_with fail
  refine (allValid2_yes _ _ _ _ _ _ _ (by simp) HV.out).mono ?_
  rintro e w1 ⟨rfl, g1⟩
  obtain ⟨k1, q1⟩ := bcell g1
  have HW1 := Lib.hid g1
  clear g1
  go_wp2_with fail
  refine (apart_any _ _ _ _ _ ha hb).mono ?_
  rintro e w2 ⟨rfl, g2⟩
  obtain ⟨k2, q2⟩ := bcell (bseq HW1.out g2)
  have HW2 := Lib.hid (bseq HW1.out g2)
  clear g2 k1 q1
  clear k2 q2
  go_wp2
  go_ret
  exact ⟨rfl, bseq (three_allocs _ _ _) HW2.out⟩
theorem farS_no (xa ya xb yb xc yc : Int) (w : World) (hv : (okI xa ya && okI xb yb && okI xc yc) = false) :
    Calls Try.prog 35 #[.agg #[.int .i64 xa, .int .i64 ya], .agg #[.int .i64 xb, .int .i64 yb], .agg #[.int .i64 xc, .int .i64 yc]] w fun e w' => e = .returned (.int .i64 (-1)) ∧ Below w.heap.size w w' := by
  have HV := Lib.hid (show ok4 xa ya xb yb xc yc xc yc = false by rw [ok4_3]; exact hv)
  clear hv
  go_enter Try.func35, Try.ntmps35
  go_wp2_with fail
  refine (four_no xa ya xb yb xc yc xc yc _ HV.out).mono ?_
  rintro e w1 ⟨rfl, g1⟩
  obtain ⟨k1, q1⟩ := bcell g1
  have HW1 := Lib.hid g1
  clear g1
  clear k1 q1
  go_wp2
  go_ret
  exact ⟨rfl, bseq (three_allocs _ _ _) HW1.out⟩
set_option maxHeartbeats 1000000 in
theorem farS_yes (xa ya xb yb xc yc : Int) (w : World) (ha : okI xa ya = true) (hb : okI xb yb = true) (hc : okI xc yc = true) :
    Calls Try.prog 35 #[.agg #[.int .i64 xa, .int .i64 ya], .agg #[.int .i64 xb, .int .i64 yb], .agg #[.int .i64 xc, .int .i64 yc]] w fun e w' => e = .returned (.int .i64 (farI xa ya xb yb xc yc)) ∧ Below w.heap.size w w' := by
  have hv := v3_of xa ya xb yb xc yc ha hb hc
  have HV := Lib.hid (show ok4 xa ya xb yb xc yc xc yc = true by rw [ok4_3]; exact hv)
  clear hv
  go_enter Try.func35, Try.ntmps35
  go_wp2_with fail
  refine (four_yes xa ya xb yb xc yc xc yc _ HV.out).mono ?_
  rintro e w1 ⟨rfl, g1⟩
  obtain ⟨k1, q1⟩ := bcell g1
  have HW1 := Lib.hid g1
  clear g1
  go_wp2_with fail
  refine (far_spec _ _ _ _ _ _ _ ha hb hc).mono ?_
  rintro e w2 ⟨rfl, g2⟩
  obtain ⟨k2, q2⟩ := bcell (bseq HW1.out g2)
  have HW2 := Lib.hid (bseq HW1.out g2)
  clear g2 k1 q1
  clear k2 q2
  go_wp2
  go_ret
  exact ⟨rfl, bseq (three_allocs _ _ _) HW2.out⟩
theorem farX_no (xa ya xb yb xc yc : Int) (w : World) (hv : (okI xa ya && okI xb yb && okI xc yc) = false) :
    Calls Try.prog 23 #[.agg #[.int .i64 xa, .int .i64 ya], .agg #[.int .i64 xb, .int .i64 yb], .agg #[.int .i64 xc, .int .i64 yc]] w fun e w' => e = .returned (.int .i64 (-1)) ∧ Below w.heap.size w w' := by
  have HV := Lib.hid hv
  clear hv
  go_enter Try.func23, Try.ntmps23
  go_wp2_with fail
  refine (allValid3_no _ _ _ _ _ _ _ _ _ (by simp) HV.out).mono ?_
  rintro e w1 ⟨rfl, g1⟩
  obtain ⟨k1, q1⟩ := bcell g1
  have HW1 := Lib.hid g1
  clear g1
  clear k1 q1
  go_wp2
  go_ret
  exact ⟨rfl, bseq (four_allocs _ _ _ _) HW1.out⟩
set_option maxHeartbeats 1000000 in
theorem farX_yes (xa ya xb yb xc yc : Int) (w : World) (ha : okI xa ya = true) (hb : okI xb yb = true) (hc : okI xc yc = true) :
    Calls Try.prog 23 #[.agg #[.int .i64 xa, .int .i64 ya], .agg #[.int .i64 xb, .int .i64 yb], .agg #[.int .i64 xc, .int .i64 yc]] w fun e w' => e = .returned (.int .i64 (farI xa ya xb yb xc yc)) ∧ Below w.heap.size w w' := by
  have hv := v3_of xa ya xb yb xc yc ha hb hc
  have HV := Lib.hid hv
  clear hv
  go_enter Try.func23, Try.ntmps23
  go_wp2_with fail
  refine (allValid3_yes _ _ _ _ _ _ _ _ _ (by simp) HV.out).mono ?_
  rintro e w1 ⟨rfl, g1⟩
  obtain ⟨k1, q1⟩ := bcell g1
  have HW1 := Lib.hid g1
  clear g1
  go_wp2_with fail
  refine (far_any _ _ _ _ _ _ _ ha hb hc).mono ?_
  rintro e w2 ⟨rfl, g2⟩
  obtain ⟨k2, q2⟩ := bcell (bseq HW1.out g2)
  have HW2 := Lib.hid (bseq HW1.out g2)
  clear g2 k1 q1
  clear k2 q2
  go_wp2
  go_ret
  exact ⟨rfl, bseq (four_allocs _ _ _ _) HW2.out⟩
theorem gapS_no (xa ya xb yb xc yc xd yd : Int) (w : World) (hv : (okI xa ya && okI xb yb && okI xc yc && okI xd yd) = false) :
    Calls Try.prog 36 #[.agg #[.int .i64 xa, .int .i64 ya], .agg #[.int .i64 xb, .int .i64 yb], .agg #[.int .i64 xc, .int .i64 yc], .agg #[.int .i64 xd, .int .i64 yd]] w fun e w' => e = .returned (.int .i64 (-1)) ∧ Below w.heap.size w w' := by
  have HV := Lib.hid (show ok4 xa ya xb yb xc yc xd yd = false by rw [ok4_4]; exact hv)
  clear hv
  go_enter Try.func36, Try.ntmps36
  go_wp2_with fail
  refine (four_no xa ya xb yb xc yc xd yd _ HV.out).mono ?_
  rintro e w1 ⟨rfl, g1⟩
  obtain ⟨k1, q1⟩ := bcell g1
  have HW1 := Lib.hid g1
  clear g1
  clear k1 q1
  go_wp2
  go_ret
  exact ⟨rfl, bseq (four_allocs _ _ _ _) HW1.out⟩
set_option maxHeartbeats 1000000 in
theorem gapS_yes (xa ya xb yb xc yc xd yd : Int) (w : World) (ha : okI xa ya = true) (hb : okI xb yb = true) (hc : okI xc yc = true) (hd : okI xd yd = true) :
    Calls Try.prog 36 #[.agg #[.int .i64 xa, .int .i64 ya], .agg #[.int .i64 xb, .int .i64 yb], .agg #[.int .i64 xc, .int .i64 yc], .agg #[.int .i64 xd, .int .i64 yd]] w fun e w' => e = .returned (.int .i64 (gapI xa ya xb yb xc yc xd yd)) ∧ Below w.heap.size w w' := by
  have hv := v4_of xa ya xb yb xc yc xd yd ha hb hc hd
  have HV := Lib.hid (show ok4 xa ya xb yb xc yc xd yd = true by rw [ok4_4]; exact hv)
  clear hv
  go_enter Try.func36, Try.ntmps36
  go_wp2_with fail
  refine (four_yes xa ya xb yb xc yc xd yd _ HV.out).mono ?_
  rintro e w1 ⟨rfl, g1⟩
  obtain ⟨k1, q1⟩ := bcell g1
  have HW1 := Lib.hid g1
  clear g1
  go_wp2_with fail
  refine (gap_spec _ _ _ _ _ _ _ _ _ ha hb hc hd).mono ?_
  rintro e w2 ⟨rfl, g2⟩
  obtain ⟨k2, q2⟩ := bcell (bseq HW1.out g2)
  have HW2 := Lib.hid (bseq HW1.out g2)
  clear g2 k1 q1
  clear k2 q2
  go_wp2
  go_ret
  exact ⟨rfl, bseq (four_allocs _ _ _ _) HW2.out⟩
end Go.Proofs.Ytfaahcbdglbcjaa
