/- The contrast: impl. -/
import Derived.Test.YthjimogeimigmaaDoorVen8
namespace Go.Proofs.YthjimogeimigmaaDoor
open Seq2 Go.ChangeShapes Go.WideShapes Go.ChangeAt Go.RowKit
set_option linter.unusedVariables false
set_option linter.unusedSimpArgs false

set_option maxRecDepth 100000 in
set_option maxHeartbeats 4000000 in
theorem contr_impl (s0 : ByteArray) (x0 y0 : Int) (s1 : ByteArray) (x1 y1 : Int) (w : World) (ht : TabAt w) :
    Calls Tryd.prog 26 #[.agg #[.string s0, .int .i64 x0, .int .i64 y0], .agg #[.string s1, .int .i64 x1, .int .i64 y1]] w fun e w' => e = .returned (.tuple #[.int .i64 ((cnR s0 x0 y0 s1 x1 y1).1), .int .i64 ((cnR s0 x0 y0 s1 x1 y1).2)]) ∧ Below w.heap.size w w' := by
  have H0 := Lib.hid ((VC.box w s0 x0 y0).below (one_alloc (.cells #[.string s1, .int .i64 x1, .int .i64 y1] 34)))
  have H1 := Lib.hid (VC.box (w.alloc (.cells #[.string s0, .int .i64 x0, .int .i64 y0] 34)) s1 x1 y1)
  rw [World.size_alloc] at H1
  have HA := Lib.hid (two_allocs (w := w) (.cells #[.string s0, .int .i64 x0, .int .i64 y0] 34) (.cells #[.string s1, .int .i64 x1, .int .i64 y1] 34))
  have HB := Lib.hid (show vnsB [(s0, x0, y0), (s1, x1, y1)] = (venB s0 x0 y0 && venB s1 x1 y1) by simp [vnsB, vnB])
  have HT := Lib.hid (ht.below HA.out)
  have HN := Lib.hid (World.alloc_heap_new ((w.alloc (.cells #[.string s0, .int .i64 x0, .int .i64 y0] 34)).alloc (.cells #[.string s1, .int .i64 x1, .int .i64 y1] 34)) (.cells #[.string s0, .int .i64 x0, .int .i64 y0, .string s1, .int .i64 x1, .int .i64 y1] 34))
  have HL : Hid (VL (((w.alloc (.cells #[.string s0, .int .i64 x0, .int .i64 y0] 34)).alloc (.cells #[.string s1, .int .i64 x1, .int .i64 y1] 34)).alloc (.cells #[.string s0, .int .i64 x0, .int .i64 y0, .string s1, .int .i64 x1, .int .i64 y1] 34)) (some ⟨w.heap.size + 1 + 1, 0, none⟩) 2 [(s0, x0, y0), (s1, x1, y1)]) := by
    refine Lib.hid ⟨rfl, Or.inr ⟨_, rfl, fun j hj => ?_⟩⟩
    have hn := HN.out
    rw [World.size_alloc, World.size_alloc] at hn
    match j, hj with
    | 0, _ => exact ⟨by simp, (cell_of_row _ _ 0 _ _ _ hn).trans rfl, (cell_of_row _ _ 1 _ _ _ hn).trans rfl, (cell_of_row _ _ 2 _ _ _ hn).trans rfl⟩
    | 1, _ => exact ⟨by simp, (cell_of_row _ _ 3 _ _ _ hn).trans rfl, (cell_of_row _ _ 4 _ _ _ hn).trans rfl, (cell_of_row _ _ 5 _ _ _ hn).trans rfl⟩
  clear HN ht
  cases h : venB s0 x0 y0 && venB s1 x1 y1 with
  | false =>
    have HR := Lib.hid (show cnR s0 x0 y0 s1 x1 y1 = (0, 1) by unfold cnR; rw [h]; rfl)
    rw [HR.out]
    go_enter Tryd.func26, Tryd.ntmps26
    go_wp2_with fail
    refine (all_ven _ 2 2 _ _ (by omega) HL.out (HT.out.below (one_alloc _))).mono ?_
    rintro e w1 ⟨rfl, g1⟩
    have HG := Lib.hid (bseq (bseq HA.out (one_alloc _)) g1)
    clear g1
    rw [HB.out, h]
    go_wp2
    go_ret2
    exact ⟨rfl, HG.out⟩
  | true =>
    have HR := Lib.hid (show cnR s0 x0 y0 s1 x1 y1 = (awy x0 x1 + angI y0 y1 / 6, 0) by unfold cnR; rw [h]; rfl)
    obtain ⟨h0, h1⟩ := Bool.and_eq_true_iff.1 h
    obtain ⟨_, a0, a1, b0, b1⟩ := venB_ok h0
    obtain ⟨_, c0, c1, d0, d1⟩ := venB_ok h1
    have e1 : IntKind.i64.wrap (x0 - x1) = x0 - x1 := IntWalk.i64_in _ (by omega)
    have ha := awy_rng a0 a1 c0 c1
    have hg := ang_rng b0 (by omega : y0 ≤ 180) d0 (by omega : y1 ≤ 180)
    have e3 : (angI y0 y1).tdiv 6 = angI y0 y1 / 6 := Int.tdiv_eq_ediv_of_nonneg hg.1
    have e4 : IntKind.i64.wrap (angI y0 y1 / 6) = angI y0 y1 / 6 := IntWalk.i64_in _ (by omega)
    have e5 : IntKind.i64.wrap (awy x0 x1 + angI y0 y1 / 6) = awy x0 x1 + angI y0 y1 / 6 := IntWalk.i64_in _ (by omega)
    have HD := Lib.hid (show awy (x0 - x1) 0 = awy x0 x1 by unfold awy; split <;> split <;> omega)
    rw [HR.out]
    go_enter Tryd.func26, Tryd.ntmps26
    go_wp2_with fail
    refine (all_ven _ 2 2 _ _ (by omega) HL.out (HT.out.below (one_alloc _))).mono ?_
    rintro e w1 ⟨rfl, g1⟩
    have HG := Lib.hid (bseq (bseq HA.out (one_alloc _)) g1)
    have v0 := (H0.out.below (one_alloc _)).below g1
    have v1 := (H1.out.below (one_alloc _)).below g1
    clear g1
    rw [HB.out, h]
    obtain ⟨q0, v0, v01, v02⟩ := v0
    obtain ⟨q1, v1, v11, v12⟩ := v1
    go_wp2
    refine wp_region_below (by kernel_rfl) (by kernel_rfl) ?_
    repeat (first | (refine wq_skip ?_ ?_; (focus (go_simp; (first | done | (simp [undef]; done)))); (try simp only [Act.put, List.setIfInBounds_toArray, List.set_cons_zero, List.set_cons_succ])) | (refine wq_val ?_ ?_; (focus (go_simp; done)); apply Exists.intro; refine ⟨fun w1 hw1 => ?_, ?_⟩; (obtain ⟨hc, hf⟩ := bcell hw1; clear hw1; go_simp; (first | done | with_reducible rfl | (with_reducible exact eql2 _ _ _) | (with_reducible exact neq2 _ _ _))); (try simp only [Act.put, List.setIfInBounds_toArray, List.set_cons_zero, List.set_cons_succ])) | (refine wq_call 61 ?_ ?_; (focus (go_simp; done)); apply Exists.intro; refine ⟨fun w1 hw1 => ?_, ?_⟩; (focus (clear hw1; go_simp; (first | done | with_reducible rfl))); apply Exists.intro; refine ⟨fun w1 hw1 => ?_, ?_⟩; (focus (exact calls_below_same hw1 (by have h := abs_ven (x0 - x1) w1 (by omega) (by omega); rw [HD.out] at h; exact h); done)); (try simp only [Act.put, List.setIfInBounds_toArray, List.set_cons_zero, List.set_cons_succ])) | (refine wq_call 62 ?_ ?_; (focus (go_simp; done)); apply Exists.intro; refine ⟨fun w1 hw1 => ?_, ?_⟩; (focus (clear hw1; go_simp; (first | done | with_reducible rfl))); apply Exists.intro; refine ⟨fun w1 hw1 => ?_, ?_⟩; (focus (exact calls_below_same hw1 (angle_impl y0 y1 w1 b0 (by omega) d0 (by omega)); done)); (try simp only [Act.put, List.setIfInBounds_toArray, List.set_cons_zero, List.set_cons_succ])))
    refine wq_nil ?_
    intro w2 hb2
    have HB2 := Lib.hid (bseq HG.out hb2)
    clear hb2
    go_wp2
    go_ret2
    exact ⟨rfl, HB2.out⟩
end Go.Proofs.YthjimogeimigmaaDoor
