/- Segments of impl over valid points: contains, divides, crosses, distances. -/
import Derived.Test.YtmfchcaidfloaaaDoorK1
import Derived.Test.YtmfchcaidfloaaaDoorPlan
import Derived.Test.YtmfchcaidfloaaaDoorRootImpl
namespace Go.Proofs.YtmfchcaidfloaaaDoor
open Go.ChangeShapes Go.WideShapes Go.ChangeAt Go.RowKit

set_option maxHeartbeats 1000000 in
theorem contains_no (xa ya xb yb xp yp : Int) (w : World) (ha : okI xa ya = true) (hb : okI xb yb = true) (hp : okI xp yp = true) (h0 : (sdI xa ya xb yb xp yp == 0) = false) :
    Calls Tryd.prog 128 #[.agg #[.int .i64 xa, .int .i64 ya, .int .i64 xb, .int .i64 yb], .agg #[.int .i64 xp, .int .i64 yp]] w fun e w' => e = .returned (.bool false) ∧ Below w.heap.size w w' := by
  have ba := ok_bd ha
  have bb := ok_bd hb
  have bp := ok_bd hp
  have HA := Lib.hid ha
  have HB := Lib.hid hb
  have HP := Lib.hid hp
  clear ha hb hp
  go_enter Tryd.func128, Tryd.ntmps128
  go_wp2
  refine wp_region_below (by kernel_rfl) (by kernel_rfl) ?_
  (refine wq_val (by go_simp) ?_; apply Exists.intro; refine ⟨fun w1 hw1 => ?_, ?_⟩; (obtain ⟨hc, hf⟩ := bcell hw1; clear hw1; go_simp; (try with_reducible rfl)); (try simp only [Act.put, List.setIfInBounds_toArray, List.set_cons_zero, List.set_cons_succ]))
  (refine wq_val (by go_simp) ?_; apply Exists.intro; refine ⟨fun w1 hw1 => ?_, ?_⟩; (obtain ⟨hc, hf⟩ := bcell hw1; clear hw1; go_simp; (try with_reducible rfl)); (try simp only [Act.put, List.setIfInBounds_toArray, List.set_cons_zero, List.set_cons_succ]))
  (refine wq_call 150 (by go_simp) ?_; apply Exists.intro; refine ⟨fun w1 hw1 => ?_, ?_⟩; (clear hw1; go_simp; (try with_reducible rfl)); apply Exists.intro; refine ⟨fun w1 hw1 => ?_, ?_⟩; (exact calls_below hw1 (side_any _ _ _ _ _ _ _ HA.out HB.out HP.out)); (try simp only [Act.put, List.setIfInBounds_toArray, List.set_cons_zero, List.set_cons_succ]))
  (refine wq_val (by go_simp) ?_; apply Exists.intro; refine ⟨fun w1 hw1 => ?_, ?_⟩; (obtain ⟨hc, hf⟩ := bcell hw1; clear hw1; go_simp; (try with_reducible rfl)); (try simp only [Act.put, List.setIfInBounds_toArray, List.set_cons_zero, List.set_cons_succ]))
  (refine wq_val (by go_simp) ?_; apply Exists.intro; refine ⟨fun w1 hw1 => ?_, ?_⟩; (obtain ⟨hc, hf⟩ := bcell hw1; clear hw1; go_simp; (try with_reducible rfl)); (try simp only [Act.put, List.setIfInBounds_toArray, List.set_cons_zero, List.set_cons_succ]))
  (refine wq_skip (by go_simp) ?_; (try simp only [Act.put, List.setIfInBounds_toArray, List.set_cons_zero, List.set_cons_succ]))
  (refine wq_skip (by go_simp) ?_; (try simp only [Act.put, List.setIfInBounds_toArray, List.set_cons_zero, List.set_cons_succ]))
  (refine wq_skip (by go_simp) ?_; (try simp only [Act.put, List.setIfInBounds_toArray, List.set_cons_zero, List.set_cons_succ]))
  (refine wq_skip (by go_simp) ?_; (try simp only [Act.put, List.setIfInBounds_toArray, List.set_cons_zero, List.set_cons_succ]))
  (refine wq_skip (by go_simp) ?_; (try simp only [Act.put, List.setIfInBounds_toArray, List.set_cons_zero, List.set_cons_succ]))
  (refine wq_skip (by go_simp) ?_; (try simp only [Act.put, List.setIfInBounds_toArray, List.set_cons_zero, List.set_cons_succ]))
  (refine wq_skip (by go_simp) ?_; (try simp only [Act.put, List.setIfInBounds_toArray, List.set_cons_zero, List.set_cons_succ]))
  (refine wq_skip (by go_simp) ?_; (try simp only [Act.put, List.setIfInBounds_toArray, List.set_cons_zero, List.set_cons_succ]))
  (refine wq_skip (by go_simp) ?_; (try simp only [Act.put, List.setIfInBounds_toArray, List.set_cons_zero, List.set_cons_succ]))
  (refine wq_skip (by go_simp) ?_; (try simp only [Act.put, List.setIfInBounds_toArray, List.set_cons_zero, List.set_cons_succ]))
  (refine wq_val (by go_simp) ?_; apply Exists.intro; refine ⟨fun w1 hw1 => ?_, ?_⟩; (obtain ⟨hc, hf⟩ := bcell hw1; clear hw1; go_simp; (try with_reducible rfl)); (try simp only [Act.put, List.setIfInBounds_toArray, List.set_cons_zero, List.set_cons_succ]))
  (refine wq_val (by go_simp) ?_; apply Exists.intro; refine ⟨fun w1 hw1 => ?_, ?_⟩; (obtain ⟨hc, hf⟩ := bcell hw1; clear hw1; go_simp; (try with_reducible rfl)); (try simp only [Act.put, List.setIfInBounds_toArray, List.set_cons_zero, List.set_cons_succ]))
  refine wq_nil ?_
  intro w1 hb1
  have HB1 := Lib.hid hb1
  clear hb1
  go_wp2
  go_ret
  exact ⟨rfl, bseq (two_allocs _ _) HB1.out⟩
set_option maxHeartbeats 1000000 in
theorem contains_yes (xa ya xb yb xp yp : Int) (w : World) (ha : okI xa ya = true) (hb : okI xb yb = true) (hp : okI xp yp = true) (h0 : (sdI xa ya xb yb xp yp == 0) = true) (h1 : (xa - xp) * (xb - xp) + (ya - yp) * (yb - yp) ≤ 0) :
    Calls Tryd.prog 128 #[.agg #[.int .i64 xa, .int .i64 ya, .int .i64 xb, .int .i64 yb], .agg #[.int .i64 xp, .int .i64 yp]] w fun e w' => e = .returned (.bool true) ∧ Below w.heap.size w w' := by
  have ba := ok_bd ha
  have bb := ok_bd hb
  have bp := ok_bd hp
  have HA := Lib.hid ha
  have HB := Lib.hid hb
  have HP := Lib.hid hp
  clear ha hb hp
  go_enter Tryd.func128, Tryd.ntmps128
  go_wp2
  refine wp_region_below (by kernel_rfl) (by kernel_rfl) ?_
  (refine wq_val (by go_simp) ?_; apply Exists.intro; refine ⟨fun w1 hw1 => ?_, ?_⟩; (obtain ⟨hc, hf⟩ := bcell hw1; clear hw1; go_simp; (try with_reducible rfl)); (try simp only [Act.put, List.setIfInBounds_toArray, List.set_cons_zero, List.set_cons_succ]))
  (refine wq_val (by go_simp) ?_; apply Exists.intro; refine ⟨fun w1 hw1 => ?_, ?_⟩; (obtain ⟨hc, hf⟩ := bcell hw1; clear hw1; go_simp; (try with_reducible rfl)); (try simp only [Act.put, List.setIfInBounds_toArray, List.set_cons_zero, List.set_cons_succ]))
  (refine wq_call 150 (by go_simp) ?_; apply Exists.intro; refine ⟨fun w1 hw1 => ?_, ?_⟩; (clear hw1; go_simp; (try with_reducible rfl)); apply Exists.intro; refine ⟨fun w1 hw1 => ?_, ?_⟩; (exact calls_below hw1 (side_any _ _ _ _ _ _ _ HA.out HB.out HP.out)); (try simp only [Act.put, List.setIfInBounds_toArray, List.set_cons_zero, List.set_cons_succ]))
  (refine wq_val (by go_simp) ?_; apply Exists.intro; refine ⟨fun w1 hw1 => ?_, ?_⟩; (obtain ⟨hc, hf⟩ := bcell hw1; clear hw1; go_simp; (try with_reducible rfl)); (try simp only [Act.put, List.setIfInBounds_toArray, List.set_cons_zero, List.set_cons_succ]))
  (refine wq_val (by go_simp) ?_; apply Exists.intro; refine ⟨fun w1 hw1 => ?_, ?_⟩; (obtain ⟨hc, hf⟩ := bcell hw1; clear hw1; go_simp; (try with_reducible rfl)); (try simp only [Act.put, List.setIfInBounds_toArray, List.set_cons_zero, List.set_cons_succ]))
  (refine wq_val (by go_simp) ?_; apply Exists.intro; refine ⟨fun w1 hw1 => ?_, ?_⟩; (obtain ⟨hc, hf⟩ := bcell hw1; clear hw1; go_simp; (try with_reducible rfl)); (try simp only [Act.put, List.setIfInBounds_toArray, List.set_cons_zero, List.set_cons_succ]))
  (refine wq_val (by go_simp) ?_; apply Exists.intro; refine ⟨fun w1 hw1 => ?_, ?_⟩; (obtain ⟨hc, hf⟩ := bcell hw1; clear hw1; go_simp; (try with_reducible rfl)); (try simp only [Act.put, List.setIfInBounds_toArray, List.set_cons_zero, List.set_cons_succ]))
  (refine wq_val (by go_simp) ?_; apply Exists.intro; refine ⟨fun w1 hw1 => ?_, ?_⟩; (obtain ⟨hc, hf⟩ := bcell hw1; clear hw1; go_simp; (try with_reducible rfl)); (try simp only [Act.put, List.setIfInBounds_toArray, List.set_cons_zero, List.set_cons_succ]))
  (refine wq_call 151 (by go_simp) ?_; apply Exists.intro; refine ⟨fun w1 hw1 => ?_, ?_⟩; (clear hw1; go_simp; (try with_reducible rfl)); apply Exists.intro; refine ⟨fun w1 hw1 => ?_, ?_⟩; (exact calls_below hw1 (minus_any _ _ _ _ _ (by omega) (by omega) (by omega) (by omega))); (try simp only [Act.put, List.setIfInBounds_toArray, List.set_cons_zero, List.set_cons_succ]))
  (refine wq_val (by go_simp) ?_; apply Exists.intro; refine ⟨fun w1 hw1 => ?_, ?_⟩; (obtain ⟨hc, hf⟩ := bcell hw1; clear hw1; go_simp; (try with_reducible rfl)); (try simp only [Act.put, List.setIfInBounds_toArray, List.set_cons_zero, List.set_cons_succ]))
  (refine wq_val (by go_simp) ?_; apply Exists.intro; refine ⟨fun w1 hw1 => ?_, ?_⟩; (obtain ⟨hc, hf⟩ := bcell hw1; clear hw1; go_simp; (try with_reducible rfl)); (try simp only [Act.put, List.setIfInBounds_toArray, List.set_cons_zero, List.set_cons_succ]))
  (refine wq_val (by go_simp) ?_; apply Exists.intro; refine ⟨fun w1 hw1 => ?_, ?_⟩; (obtain ⟨hc, hf⟩ := bcell hw1; clear hw1; go_simp; (try with_reducible rfl)); (try simp only [Act.put, List.setIfInBounds_toArray, List.set_cons_zero, List.set_cons_succ]))
  (refine wq_call 151 (by go_simp) ?_; apply Exists.intro; refine ⟨fun w1 hw1 => ?_, ?_⟩; (clear hw1; go_simp; (try with_reducible rfl)); apply Exists.intro; refine ⟨fun w1 hw1 => ?_, ?_⟩; (exact calls_below hw1 (minus_any _ _ _ _ _ (by omega) (by omega) (by omega) (by omega))); (try simp only [Act.put, List.setIfInBounds_toArray, List.set_cons_zero, List.set_cons_succ]))
  (refine wq_call 152 (by go_simp) ?_; apply Exists.intro; refine ⟨fun w1 hw1 => ?_, ?_⟩; (clear hw1; go_simp; (try with_reducible rfl)); apply Exists.intro; refine ⟨fun w1 hw1 => ?_, ?_⟩; (exact calls_below hw1 (dot_any _ _ _ _ _ (by omega) (by omega) (by omega) (by omega))); (try simp only [Act.put, List.setIfInBounds_toArray, List.set_cons_zero, List.set_cons_succ]))
  (refine wq_val (by go_simp) ?_; apply Exists.intro; refine ⟨fun w1 hw1 => ?_, ?_⟩; (obtain ⟨hc, hf⟩ := bcell hw1; clear hw1; go_simp; (try with_reducible rfl)); (try simp only [Act.put, List.setIfInBounds_toArray, List.set_cons_zero, List.set_cons_succ]))
  (refine wq_val (by go_simp) ?_; apply Exists.intro; refine ⟨fun w1 hw1 => ?_, ?_⟩; (obtain ⟨hc, hf⟩ := bcell hw1; clear hw1; go_simp; (try with_reducible rfl)); (try simp only [Act.put, List.setIfInBounds_toArray, List.set_cons_zero, List.set_cons_succ]))
  (refine wq_val (by go_simp) ?_; apply Exists.intro; refine ⟨fun w1 hw1 => ?_, ?_⟩; (obtain ⟨hc, hf⟩ := bcell hw1; clear hw1; go_simp; (try with_reducible rfl)); (try simp only [Act.put, List.setIfInBounds_toArray, List.set_cons_zero, List.set_cons_succ]))
  refine wq_nil ?_
  intro w1 hb1
  have HB1 := Lib.hid hb1
  clear hb1
  go_wp2
  go_ret
  exact ⟨rfl, bseq (two_allocs _ _) HB1.out⟩
set_option maxHeartbeats 1000000 in
theorem contains_far (xa ya xb yb xp yp : Int) (w : World) (ha : okI xa ya = true) (hb : okI xb yb = true) (hp : okI xp yp = true) (h0 : (sdI xa ya xb yb xp yp == 0) = true) (h1 : decide ((xa - xp) * (xb - xp) + (ya - yp) * (yb - yp) ≤ 0) = false) :
    Calls Tryd.prog 128 #[.agg #[.int .i64 xa, .int .i64 ya, .int .i64 xb, .int .i64 yb], .agg #[.int .i64 xp, .int .i64 yp]] w fun e w' => e = .returned (.bool false) ∧ Below w.heap.size w w' := by
  have ba := ok_bd ha
  have bb := ok_bd hb
  have bp := ok_bd hp
  have HA := Lib.hid ha
  have HB := Lib.hid hb
  have HP := Lib.hid hp
  clear ha hb hp
  go_enter Tryd.func128, Tryd.ntmps128
  go_wp2
  refine wp_region_below (by kernel_rfl) (by kernel_rfl) ?_
  (refine wq_val (by go_simp) ?_; apply Exists.intro; refine ⟨fun w1 hw1 => ?_, ?_⟩; (obtain ⟨hc, hf⟩ := bcell hw1; clear hw1; go_simp; (try with_reducible rfl)); (try simp only [Act.put, List.setIfInBounds_toArray, List.set_cons_zero, List.set_cons_succ]))
  (refine wq_val (by go_simp) ?_; apply Exists.intro; refine ⟨fun w1 hw1 => ?_, ?_⟩; (obtain ⟨hc, hf⟩ := bcell hw1; clear hw1; go_simp; (try with_reducible rfl)); (try simp only [Act.put, List.setIfInBounds_toArray, List.set_cons_zero, List.set_cons_succ]))
  (refine wq_call 150 (by go_simp) ?_; apply Exists.intro; refine ⟨fun w1 hw1 => ?_, ?_⟩; (clear hw1; go_simp; (try with_reducible rfl)); apply Exists.intro; refine ⟨fun w1 hw1 => ?_, ?_⟩; (exact calls_below hw1 (side_any _ _ _ _ _ _ _ HA.out HB.out HP.out)); (try simp only [Act.put, List.setIfInBounds_toArray, List.set_cons_zero, List.set_cons_succ]))
  (refine wq_val (by go_simp) ?_; apply Exists.intro; refine ⟨fun w1 hw1 => ?_, ?_⟩; (obtain ⟨hc, hf⟩ := bcell hw1; clear hw1; go_simp; (try with_reducible rfl)); (try simp only [Act.put, List.setIfInBounds_toArray, List.set_cons_zero, List.set_cons_succ]))
  (refine wq_val (by go_simp) ?_; apply Exists.intro; refine ⟨fun w1 hw1 => ?_, ?_⟩; (obtain ⟨hc, hf⟩ := bcell hw1; clear hw1; go_simp; (try with_reducible rfl)); (try simp only [Act.put, List.setIfInBounds_toArray, List.set_cons_zero, List.set_cons_succ]))
  (refine wq_val (by go_simp) ?_; apply Exists.intro; refine ⟨fun w1 hw1 => ?_, ?_⟩; (obtain ⟨hc, hf⟩ := bcell hw1; clear hw1; go_simp; (try with_reducible rfl)); (try simp only [Act.put, List.setIfInBounds_toArray, List.set_cons_zero, List.set_cons_succ]))
  (refine wq_val (by go_simp) ?_; apply Exists.intro; refine ⟨fun w1 hw1 => ?_, ?_⟩; (obtain ⟨hc, hf⟩ := bcell hw1; clear hw1; go_simp; (try with_reducible rfl)); (try simp only [Act.put, List.setIfInBounds_toArray, List.set_cons_zero, List.set_cons_succ]))
  (refine wq_val (by go_simp) ?_; apply Exists.intro; refine ⟨fun w1 hw1 => ?_, ?_⟩; (obtain ⟨hc, hf⟩ := bcell hw1; clear hw1; go_simp; (try with_reducible rfl)); (try simp only [Act.put, List.setIfInBounds_toArray, List.set_cons_zero, List.set_cons_succ]))
  (refine wq_call 151 (by go_simp) ?_; apply Exists.intro; refine ⟨fun w1 hw1 => ?_, ?_⟩; (clear hw1; go_simp; (try with_reducible rfl)); apply Exists.intro; refine ⟨fun w1 hw1 => ?_, ?_⟩; (exact calls_below hw1 (minus_any _ _ _ _ _ (by omega) (by omega) (by omega) (by omega))); (try simp only [Act.put, List.setIfInBounds_toArray, List.set_cons_zero, List.set_cons_succ]))
  (refine wq_val (by go_simp) ?_; apply Exists.intro; refine ⟨fun w1 hw1 => ?_, ?_⟩; (obtain ⟨hc, hf⟩ := bcell hw1; clear hw1; go_simp; (try with_reducible rfl)); (try simp only [Act.put, List.setIfInBounds_toArray, List.set_cons_zero, List.set_cons_succ]))
  (refine wq_val (by go_simp) ?_; apply Exists.intro; refine ⟨fun w1 hw1 => ?_, ?_⟩; (obtain ⟨hc, hf⟩ := bcell hw1; clear hw1; go_simp; (try with_reducible rfl)); (try simp only [Act.put, List.setIfInBounds_toArray, List.set_cons_zero, List.set_cons_succ]))
  (refine wq_val (by go_simp) ?_; apply Exists.intro; refine ⟨fun w1 hw1 => ?_, ?_⟩; (obtain ⟨hc, hf⟩ := bcell hw1; clear hw1; go_simp; (try with_reducible rfl)); (try simp only [Act.put, List.setIfInBounds_toArray, List.set_cons_zero, List.set_cons_succ]))
  (refine wq_call 151 (by go_simp) ?_; apply Exists.intro; refine ⟨fun w1 hw1 => ?_, ?_⟩; (clear hw1; go_simp; (try with_reducible rfl)); apply Exists.intro; refine ⟨fun w1 hw1 => ?_, ?_⟩; (exact calls_below hw1 (minus_any _ _ _ _ _ (by omega) (by omega) (by omega) (by omega))); (try simp only [Act.put, List.setIfInBounds_toArray, List.set_cons_zero, List.set_cons_succ]))
  (refine wq_call 152 (by go_simp) ?_; apply Exists.intro; refine ⟨fun w1 hw1 => ?_, ?_⟩; (clear hw1; go_simp; (try with_reducible rfl)); apply Exists.intro; refine ⟨fun w1 hw1 => ?_, ?_⟩; (exact calls_below hw1 (dot_any _ _ _ _ _ (by omega) (by omega) (by omega) (by omega))); (try simp only [Act.put, List.setIfInBounds_toArray, List.set_cons_zero, List.set_cons_succ]))
  (refine wq_val (by go_simp) ?_; apply Exists.intro; refine ⟨fun w1 hw1 => ?_, ?_⟩; (obtain ⟨hc, hf⟩ := bcell hw1; clear hw1; go_simp; (try with_reducible rfl)); (try simp only [Act.put, List.setIfInBounds_toArray, List.set_cons_zero, List.set_cons_succ]))
  (refine wq_val (by go_simp) ?_; apply Exists.intro; refine ⟨fun w1 hw1 => ?_, ?_⟩; (obtain ⟨hc, hf⟩ := bcell hw1; clear hw1; go_simp; (try with_reducible rfl)); (try simp only [Act.put, List.setIfInBounds_toArray, List.set_cons_zero, List.set_cons_succ]))
  (refine wq_val (by go_simp) ?_; apply Exists.intro; refine ⟨fun w1 hw1 => ?_, ?_⟩; (obtain ⟨hc, hf⟩ := bcell hw1; clear hw1; go_simp; (try with_reducible rfl)); (try simp only [Act.put, List.setIfInBounds_toArray, List.set_cons_zero, List.set_cons_succ]))
  refine wq_nil ?_
  intro w1 hb1
  have HB1 := Lib.hid hb1
  clear hb1
  go_wp2
  go_ret
  exact ⟨rfl, bseq (two_allocs _ _) HB1.out⟩
theorem contains_any (xa ya xb yb xp yp : Int) (w : World) (ha : okI xa ya = true) (hb : okI xb yb = true) (hp : okI xp yp = true) :
    Calls Tryd.prog 128 #[.agg #[.int .i64 xa, .int .i64 ya, .int .i64 xb, .int .i64 yb], .agg #[.int .i64 xp, .int .i64 yp]] w fun e w' => e = .returned (.bool (onB xa ya xb yb xp yp)) ∧ Below w.heap.size w w' := by
  rw [on_eq]
  cases h0 : (sdI xa ya xb yb xp yp == 0) with
  | false =>
    rw [show decide (sdI xa ya xb yb xp yp = 0) = false by simpa using h0, Bool.false_and]
    exact contains_no _ _ _ _ _ _ w ha hb hp h0
  | true =>
    rw [show decide (sdI xa ya xb yb xp yp = 0) = true by simpa using h0, Bool.true_and]
    cases h1 : decide ((xa - xp) * (xb - xp) + (ya - yp) * (yb - yp) ≤ 0) with
    | false => exact contains_far _ _ _ _ _ _ w ha hb hp h0 h1
    | true => exact contains_yes _ _ _ _ _ _ w ha hb hp h0 (of_decide_eq_true h1)
end Go.Proofs.YtmfchcaidfloaaaDoor
