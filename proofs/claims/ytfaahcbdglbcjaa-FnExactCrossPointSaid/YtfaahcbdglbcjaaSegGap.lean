/- The distance of two segments, of spec. -/
import Derived.Test.YtfaahcbdglbcjaaSegSpec3
namespace Go.Proofs.Ytfaahcbdglbcjaa
open Go.ChangeShapes Go.WideShapes Go.ChangeAt Go.RowKit

set_option maxHeartbeats 1000000 in
theorem gap_touch (xa ya xb yb xc yc xd yd : Int) (w : World) (ha : okI xa ya = true) (hb : okI xb yb = true) (hc : okI xc yc = true) (hd : okI xd yd = true) (h0 : tcB xa ya xb yb xc yc xd yd = true) :
    Calls Try.prog 69 #[.agg #[.int .i64 xa, .int .i64 ya], .agg #[.int .i64 xb, .int .i64 yb], .agg #[.int .i64 xc, .int .i64 yc], .agg #[.int .i64 xd, .int .i64 yd]] w fun e w' => e = .returned (.int .i64 0) ∧ Below w.heap.size w w' := by
  go_enter Try.func69, Try.ntmps69
  go_wp2_with fail
  refine (touches_spec _ _ _ _ _ _ _ _ _ ha hb hc hd).mono ?_
  rintro e w1 ⟨rfl, g1⟩
  obtain ⟨k1, q1⟩ := bcell g1
  have HW1 := Lib.hid g1
  clear g1
  clear k1 q1
  go_wp2
  go_ret
  exact ⟨rfl, bseq (four_allocs _ _ _ _) HW1.out⟩
set_option maxHeartbeats 2000000 in
theorem gap_apart (xa ya xb yb xc yc xd yd : Int) (w : World) (ha : okI xa ya = true) (hb : okI xb yb = true) (hc : okI xc yc = true) (hd : okI xd yd = true) (h0 : tcB xa ya xb yb xc yc xd yd = false) :
    Calls Try.prog 69 #[.agg #[.int .i64 xa, .int .i64 ya], .agg #[.int .i64 xb, .int .i64 yb], .agg #[.int .i64 xc, .int .i64 yc], .agg #[.int .i64 xd, .int .i64 yd]] w fun e w' => e = .returned (.int .i64 (min (min (farI xa ya xb yb xc yc) (farI xa ya xb yb xd yd)) (min (farI xc yc xd yd xa ya) (farI xc yc xd yd xb yb)))) ∧ Below w.heap.size w w' := by
  have HA := Lib.hid ha
  have HB := Lib.hid hb
  have HC := Lib.hid hc
  have HD := Lib.hid hd
  clear ha hb hc hd
  go_enter Try.func69, Try.ntmps69
  go_wp2_with fail
  refine (touches_spec _ _ _ _ _ _ _ _ _ HA.out HB.out HC.out HD.out).mono ?_
  rintro e w1 ⟨rfl, g1⟩
  obtain ⟨k1, q1⟩ := bcell g1
  have HW1 := Lib.hid g1
  clear g1
  have n1 : w.heap.size + 1 + 1 + 1 < w1.heap.size := by have := HW1.out.size; simp at this; omega
  have n2 : w.heap.size + 1 + 1 < w1.heap.size := by omega
  have n3 : w.heap.size + 1 < w1.heap.size := by omega
  have n4 : w.heap.size < w1.heap.size := by omega
  go_wp2
  refine wp_region_below (by kernel_rfl) (by kernel_rfl) ?_
  (refine wq_val (by go_simp) ?_; apply Exists.intro; refine ⟨fun w1 hw1 => ?_, ?_⟩; (obtain ⟨hc, hf⟩ := bcell hw1; clear hw1; go_simp; (try with_reducible rfl)); (try simp only [Act.put, List.setIfInBounds_toArray, List.set_cons_zero, List.set_cons_succ]))
  (refine wq_val (by go_simp) ?_; apply Exists.intro; refine ⟨fun w1 hw1 => ?_, ?_⟩; (obtain ⟨hc, hf⟩ := bcell hw1; clear hw1; go_simp; (try with_reducible rfl)); (try simp only [Act.put, List.setIfInBounds_toArray, List.set_cons_zero, List.set_cons_succ]))
  (refine wq_val (by go_simp) ?_; apply Exists.intro; refine ⟨fun w1 hw1 => ?_, ?_⟩; (obtain ⟨hc, hf⟩ := bcell hw1; clear hw1; go_simp; (try with_reducible rfl)); (try simp only [Act.put, List.setIfInBounds_toArray, List.set_cons_zero, List.set_cons_succ]))
  (refine wq_call 68 (by go_simp) ?_; apply Exists.intro; refine ⟨fun w1 hw1 => ?_, ?_⟩; (clear hw1; go_simp; (try with_reducible rfl)); apply Exists.intro; refine ⟨fun w1 hw1 => ?_, ?_⟩; (exact calls_below hw1 (far_spec _ _ _ _ _ _ _ HA.out HB.out HC.out)); (try simp only [Act.put, List.setIfInBounds_toArray, List.set_cons_zero, List.set_cons_succ]))
  (refine wq_val (by go_simp) ?_; apply Exists.intro; refine ⟨fun w1 hw1 => ?_, ?_⟩; (obtain ⟨hc, hf⟩ := bcell hw1; clear hw1; go_simp; (try with_reducible rfl)); (try simp only [Act.put, List.setIfInBounds_toArray, List.set_cons_zero, List.set_cons_succ]))
  (refine wq_val (by go_simp) ?_; apply Exists.intro; refine ⟨fun w1 hw1 => ?_, ?_⟩; (obtain ⟨hc, hf⟩ := bcell hw1; clear hw1; go_simp; (try with_reducible rfl)); (try simp only [Act.put, List.setIfInBounds_toArray, List.set_cons_zero, List.set_cons_succ]))
  (refine wq_val (by go_simp) ?_; apply Exists.intro; refine ⟨fun w1 hw1 => ?_, ?_⟩; (obtain ⟨hc, hf⟩ := bcell hw1; clear hw1; go_simp; (try with_reducible rfl)); (try simp only [Act.put, List.setIfInBounds_toArray, List.set_cons_zero, List.set_cons_succ]))
  (refine wq_call 68 (by go_simp) ?_; apply Exists.intro; refine ⟨fun w1 hw1 => ?_, ?_⟩; (clear hw1; go_simp; (try with_reducible rfl)); apply Exists.intro; refine ⟨fun w1 hw1 => ?_, ?_⟩; (exact calls_below hw1 (far_spec _ _ _ _ _ _ _ HA.out HB.out HD.out)); (try simp only [Act.put, List.setIfInBounds_toArray, List.set_cons_zero, List.set_cons_succ]))
  (refine wq_call 92 (by go_simp) ?_; apply Exists.intro; refine ⟨fun w1 hw1 => ?_, ?_⟩; (clear hw1; go_simp; (try with_reducible rfl)); apply Exists.intro; refine ⟨fun w1 hw1 => ?_, ?_⟩; (exact calls_below_same hw1 (min_spec _ _ _)); (try simp only [Act.put, List.setIfInBounds_toArray, List.set_cons_zero, List.set_cons_succ]))
  (refine wq_val (by go_simp) ?_; apply Exists.intro; refine ⟨fun w1 hw1 => ?_, ?_⟩; (obtain ⟨hc, hf⟩ := bcell hw1; clear hw1; go_simp; (try with_reducible rfl)); (try simp only [Act.put, List.setIfInBounds_toArray, List.set_cons_zero, List.set_cons_succ]))
  (refine wq_val (by go_simp) ?_; apply Exists.intro; refine ⟨fun w1 hw1 => ?_, ?_⟩; (obtain ⟨hc, hf⟩ := bcell hw1; clear hw1; go_simp; (try with_reducible rfl)); (try simp only [Act.put, List.setIfInBounds_toArray, List.set_cons_zero, List.set_cons_succ]))
  (refine wq_val (by go_simp) ?_; apply Exists.intro; refine ⟨fun w1 hw1 => ?_, ?_⟩; (obtain ⟨hc, hf⟩ := bcell hw1; clear hw1; go_simp; (try with_reducible rfl)); (try simp only [Act.put, List.setIfInBounds_toArray, List.set_cons_zero, List.set_cons_succ]))
  (refine wq_call 68 (by go_simp) ?_; apply Exists.intro; refine ⟨fun w1 hw1 => ?_, ?_⟩; (clear hw1; go_simp; (try with_reducible rfl)); apply Exists.intro; refine ⟨fun w1 hw1 => ?_, ?_⟩; (exact calls_below hw1 (far_spec _ _ _ _ _ _ _ HC.out HD.out HA.out)); (try simp only [Act.put, List.setIfInBounds_toArray, List.set_cons_zero, List.set_cons_succ]))
  (refine wq_val (by go_simp) ?_; apply Exists.intro; refine ⟨fun w1 hw1 => ?_, ?_⟩; (obtain ⟨hc, hf⟩ := bcell hw1; clear hw1; go_simp; (try with_reducible rfl)); (try simp only [Act.put, List.setIfInBounds_toArray, List.set_cons_zero, List.set_cons_succ]))
  (refine wq_val (by go_simp) ?_; apply Exists.intro; refine ⟨fun w1 hw1 => ?_, ?_⟩; (obtain ⟨hc, hf⟩ := bcell hw1; clear hw1; go_simp; (try with_reducible rfl)); (try simp only [Act.put, List.setIfInBounds_toArray, List.set_cons_zero, List.set_cons_succ]))
  (refine wq_val (by go_simp) ?_; apply Exists.intro; refine ⟨fun w1 hw1 => ?_, ?_⟩; (obtain ⟨hc, hf⟩ := bcell hw1; clear hw1; go_simp; (try with_reducible rfl)); (try simp only [Act.put, List.setIfInBounds_toArray, List.set_cons_zero, List.set_cons_succ]))
  (refine wq_call 68 (by go_simp) ?_; apply Exists.intro; refine ⟨fun w1 hw1 => ?_, ?_⟩; (clear hw1; go_simp; (try with_reducible rfl)); apply Exists.intro; refine ⟨fun w1 hw1 => ?_, ?_⟩; (exact calls_below hw1 (far_spec _ _ _ _ _ _ _ HC.out HD.out HB.out)); (try simp only [Act.put, List.setIfInBounds_toArray, List.set_cons_zero, List.set_cons_succ]))
  (refine wq_call 92 (by go_simp) ?_; apply Exists.intro; refine ⟨fun w1 hw1 => ?_, ?_⟩; (clear hw1; go_simp; (try with_reducible rfl)); apply Exists.intro; refine ⟨fun w1 hw1 => ?_, ?_⟩; (exact calls_below_same hw1 (min_spec _ _ _)); (try simp only [Act.put, List.setIfInBounds_toArray, List.set_cons_zero, List.set_cons_succ]))
  (refine wq_call 92 (by go_simp) ?_; apply Exists.intro; refine ⟨fun w1 hw1 => ?_, ?_⟩; (clear hw1; go_simp; (try with_reducible rfl)); apply Exists.intro; refine ⟨fun w1 hw1 => ?_, ?_⟩; (exact calls_below_same hw1 (min_spec _ _ _)); (try simp only [Act.put, List.setIfInBounds_toArray, List.set_cons_zero, List.set_cons_succ]))
  (refine wq_val (by go_simp) ?_; apply Exists.intro; refine ⟨fun w1 hw1 => ?_, ?_⟩; (obtain ⟨hc, hf⟩ := bcell hw1; clear hw1; go_simp; (try with_reducible rfl)); (try simp only [Act.put, List.setIfInBounds_toArray, List.set_cons_zero, List.set_cons_succ]))
  refine wq_nil ?_
  intro w2 hb2
  have HB2 := Lib.hid hb2
  clear hb2 k1 q1
  go_wp2
  go_ret
  exact ⟨ret_int (by omega), bseq (bseq (four_allocs _ _ _ _) HW1.out) HB2.out⟩
theorem gap_spec (xa ya xb yb xc yc xd yd : Int) (w : World) (ha : okI xa ya = true) (hb : okI xb yb = true) (hc : okI xc yc = true) (hd : okI xd yd = true) :
    Calls Try.prog 69 #[.agg #[.int .i64 xa, .int .i64 ya], .agg #[.int .i64 xb, .int .i64 yb], .agg #[.int .i64 xc, .int .i64 yc], .agg #[.int .i64 xd, .int .i64 yd]] w fun e w' => e = .returned (.int .i64 (gapI xa ya xb yb xc yc xd yd)) ∧ Below w.heap.size w w' := by
  unfold gapI
  cases h0 : tcB xa ya xb yb xc yc xd yd
  · exact gap_apart _ _ _ _ _ _ _ _ w ha hb hc hd h0
  · exact gap_touch _ _ _ _ _ _ _ _ w ha hb hc hd h0
end Go.Proofs.Ytfaahcbdglbcjaa
