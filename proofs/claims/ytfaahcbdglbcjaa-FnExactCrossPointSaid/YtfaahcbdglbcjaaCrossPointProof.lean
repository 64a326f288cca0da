/- FnExactCrossPoint returns true at every four points, and leaves them as they were. Condition: none. -/
import Derived.Test.YtfaahcbdglbcjaaRows
import Derived.Test.YtfaahcbdglbcjaaCrossI
import Derived.Test.YtfaahcbdglbcjaaPtArg
import Derived.Test.YtfaahcbdglbcjaaPost
import Derived.WalkKit
import Derived.ProofKit
import Derived.OpenShut
import Derived.ChangeMaps5
namespace Go.Proofs.Ytfaahcbdglbcjaa.fnExactCrossPoint
open Go.ChangeShapes Go.WideShapes Go.ChangeAt Go.RowKit Go.ChangeMaps
set_option linter.unusedVariables false

theorem own : ownKnob Try.prog.godebug = none := by kernel_rfl

theorem eqPt_yes (x y : Int) (w : World) : Calls Try.prog 38 #[.agg #[.int .i64 x, .int .i64 y], .agg #[.int .i64 x, .int .i64 y]] w fun e w' => e = .returned (.bool true) ∧ Below w.heap.size w w' := by
  go_enter Try.func38, Try.ntmps38
  go_wp2
  go_ret
  exact ⟨rfl, two_allocs _ _⟩
theorem cs_rr (xa ya xb yb xc yc xd yd : Int) (h : csB xa ya xb yb xc yc xd yd = true) : (xb - xa) * (yd - yc) - (yb - ya) * (xd - xc) ≠ 0 := by
  unfold csB at h
  rw [Bool.and_eq_true] at h
  have h1 := sg_mul _ _ (of_decide_eq_true h.1)
  rw [show crI xa ya xb yb xc yc = -(uuI xa ya xb yb xc yc) by unfold crI uuI; grind, show crI xa ya xb yb xd yd = rrI xa ya xb yb xc yc xd yd - uuI xa ya xb yb xc yc by unfold crI uuI rrI; grind] at h1
  have h2 : rrI xa ya xb yb xc yc xd yd ≠ 0 := by omega
  exact h2
theorem both (xa ya xb yb xc yc xd yd : Int) : ∃ X Y C : Int, (∀ w : World, Calls Try.prog 37 #[.agg #[.int .i64 xa, .int .i64 ya], .agg #[.int .i64 xb, .int .i64 yb], .agg #[.int .i64 xc, .int .i64 yc], .agg #[.int .i64 xd, .int .i64 yd]] w fun e w' => e = .returned (.tuple #[.agg #[.int .i64 X, .int .i64 Y], .int .i64 C]) ∧ Below w.heap.size w w') ∧ (∀ w : World, Calls Try.prog 25 #[.agg #[.int .i64 xa, .int .i64 ya], .agg #[.int .i64 xb, .int .i64 yb], .agg #[.int .i64 xc, .int .i64 yc], .agg #[.int .i64 xd, .int .i64 yd]] w fun e w' => e = .returned (.tuple #[.agg #[.int .i64 X, .int .i64 Y], .int .i64 C]) ∧ Below w.heap.size w w') := by
  cases hv : (okI xa ya && okI xb yb && okI xc yc && okI xd yd)
  · exact ⟨0, 0, 1, fun w => cpS_no _ _ _ _ _ _ _ _ w hv, fun w => cpI_no _ _ _ _ _ _ _ _ w hv⟩
  · simp only [Bool.and_eq_true] at hv
    obtain ⟨⟨⟨ha, hb⟩, hc⟩, hd⟩ := hv
    cases h0 : csB xa ya xb yb xc yc xd yd
    · exact ⟨0, 0, 6, fun w => cpS_apart _ _ _ _ _ _ _ _ w ha hb hc hd h0, fun w => cpI_apart _ _ _ _ _ _ _ _ w ha hb hc hd h0⟩
    · have hr := cs_rr xa ya xb yb xc yc xd yd h0
      refine ⟨_, _, 0, fun w => ?_, fun w => cpI_yes _ _ _ _ _ _ _ _ w ha hb hc hd h0 hr⟩
      by_cases h : (xb - xa) * (yd - yc) - (yb - ya) * (xd - xc) < 0
      · exact cpS_neg _ _ _ _ _ _ _ _ w ha hb hc hd h0 h
      · exact cpS_pos _ _ _ _ _ _ _ _ w ha hb hc hd h0 (by omega)
set_option maxHeartbeats 4000000 in
theorem walk_in (xa ya xb yb xc yc xd yd : Int) (X Y C : Int) (w : World) (hS : ∀ w : World, Calls Try.prog 37 #[.agg #[.int .i64 xa, .int .i64 ya], .agg #[.int .i64 xb, .int .i64 yb], .agg #[.int .i64 xc, .int .i64 yc], .agg #[.int .i64 xd, .int .i64 yd]] w fun e w' => e = .returned (.tuple #[.agg #[.int .i64 X, .int .i64 Y], .int .i64 C]) ∧ Below w.heap.size w w') (hI : ∀ w : World, Calls Try.prog 25 #[.agg #[.int .i64 xa, .int .i64 ya], .agg #[.int .i64 xb, .int .i64 yb], .agg #[.int .i64 xc, .int .i64 yc], .agg #[.int .i64 xd, .int .i64 yd]] w fun e w' => e = .returned (.tuple #[.agg #[.int .i64 X, .int .i64 Y], .int .i64 C]) ∧ Below w.heap.size w w') :
    Calls Try.prog 12 #[.agg #[.int .i64 xa, .int .i64 ya], .agg #[.int .i64 xb, .int .i64 yb], .agg #[.int .i64 xc, .int .i64 yc], .agg #[.int .i64 xd, .int .i64 yd]] w fun e w' => e = .returned (.bool true) ∧ Below w.heap.size w w' := by
  have HS := Lib.hid hS
  have HI := Lib.hid hI
  clear hS hI
  go_enter Try.func12, Try.ntmps12
  go_wp2
  refine wp_region_plan [.val 0 [] (.agg #[.int .i64 xa, .int .i64 ya]), .val 1 [] (.agg #[.int .i64 xa, .int .i64 ya]), .val 2 [] (.agg #[.int .i64 xb, .int .i64 yb]), .val 3 [] (.agg #[.int .i64 xb, .int .i64 yb]), .val 4 [] (.agg #[.int .i64 xc, .int .i64 yc]), .val 5 [] (.agg #[.int .i64 xc, .int .i64 yc]), .val 6 [] (.agg #[.int .i64 xd, .int .i64 yd]), .val 7 [] (.agg #[.int .i64 xd, .int .i64 yd]), .val 8 [] (.tuple #[.agg #[.int .i64 X, .int .i64 Y], .int .i64 C]), .val 9 [] (.tuple #[.agg #[.int .i64 X, .int .i64 Y], .int .i64 C]), .val 10 [] (.agg #[.int .i64 X, .int .i64 Y]), .val 11 [] (.int .i64 C), .make 12 (.cells #[.int .i64 0, .int .i64 0] 25 (0, 0)) (fun p => .pointer (some ⟨p, 0, none⟩)), .put 13 12 (.cells #[.int .i64 X, .int .i64 Y] 25 (0, 0)), .val 14 [] (.int .i64 C)] (by kernel_rfl) (by kernel_rfl) rfl ?_
  refine plan_val (by kernel_rfl) (by kernel_rfl) (by kernel_rfl) (by go_simp) (fun w1 hw1 => ?_) ?_
  · obtain ⟨hc, hf⟩ := bcell hw1; clear hw1; go_simp; (try with_reducible rfl)
  (try simp only [Act.put, List.setIfInBounds_toArray, List.set_cons_zero, List.set_cons_succ])
  refine plan_call [] 27 #[.agg #[.int .i64 xa, .int .i64 ya]] (by kernel_rfl) (by kernel_rfl) (by kernel_rfl) (by kernel_rfl) (by go_simp) (fun w1 hw1 => ?_) (fun w1 hC => ?_) ?_
  · clear hw1; go_simp; (try with_reducible rfl)
  · exact toPoint_any _ _ _
  (try simp only [Act.put, List.setIfInBounds_toArray, List.set_cons_zero, List.set_cons_succ])
  refine plan_val (by kernel_rfl) (by kernel_rfl) (by kernel_rfl) (by go_simp) (fun w1 hw1 => ?_) ?_
  · obtain ⟨hc, hf⟩ := bcell hw1; clear hw1; go_simp; (try with_reducible rfl)
  (try simp only [Act.put, List.setIfInBounds_toArray, List.set_cons_zero, List.set_cons_succ])
  refine plan_call [] 27 #[.agg #[.int .i64 xb, .int .i64 yb]] (by kernel_rfl) (by kernel_rfl) (by kernel_rfl) (by kernel_rfl) (by go_simp) (fun w1 hw1 => ?_) (fun w1 hC => ?_) ?_
  · clear hw1; go_simp; (try with_reducible rfl)
  · exact toPoint_any _ _ _
  (try simp only [Act.put, List.setIfInBounds_toArray, List.set_cons_zero, List.set_cons_succ])
  refine plan_val (by kernel_rfl) (by kernel_rfl) (by kernel_rfl) (by go_simp) (fun w1 hw1 => ?_) ?_
  · obtain ⟨hc, hf⟩ := bcell hw1; clear hw1; go_simp; (try with_reducible rfl)
  (try simp only [Act.put, List.setIfInBounds_toArray, List.set_cons_zero, List.set_cons_succ])
  refine plan_call [] 27 #[.agg #[.int .i64 xc, .int .i64 yc]] (by kernel_rfl) (by kernel_rfl) (by kernel_rfl) (by kernel_rfl) (by go_simp) (fun w1 hw1 => ?_) (fun w1 hC => ?_) ?_
  · clear hw1; go_simp; (try with_reducible rfl)
  · exact toPoint_any _ _ _
  (try simp only [Act.put, List.setIfInBounds_toArray, List.set_cons_zero, List.set_cons_succ])
  refine plan_val (by kernel_rfl) (by kernel_rfl) (by kernel_rfl) (by go_simp) (fun w1 hw1 => ?_) ?_
  · obtain ⟨hc, hf⟩ := bcell hw1; clear hw1; go_simp; (try with_reducible rfl)
  (try simp only [Act.put, List.setIfInBounds_toArray, List.set_cons_zero, List.set_cons_succ])
  refine plan_call [] 27 #[.agg #[.int .i64 xd, .int .i64 yd]] (by kernel_rfl) (by kernel_rfl) (by kernel_rfl) (by kernel_rfl) (by go_simp) (fun w1 hw1 => ?_) (fun w1 hC => ?_) ?_
  · clear hw1; go_simp; (try with_reducible rfl)
  · exact toPoint_any _ _ _
  (try simp only [Act.put, List.setIfInBounds_toArray, List.set_cons_zero, List.set_cons_succ])
  refine plan_call [] 37 #[.agg #[.int .i64 xa, .int .i64 ya], .agg #[.int .i64 xb, .int .i64 yb], .agg #[.int .i64 xc, .int .i64 yc], .agg #[.int .i64 xd, .int .i64 yd]] (by kernel_rfl) (by kernel_rfl) (by kernel_rfl) (by kernel_rfl) (by go_simp) (fun w1 hw1 => ?_) (fun w1 hC => ?_) ?_
  · clear hw1; go_simp; (try with_reducible rfl)
  · exact HS.out _
  (try simp only [Act.put, List.setIfInBounds_toArray, List.set_cons_zero, List.set_cons_succ])
  refine plan_val (by kernel_rfl) (by kernel_rfl) (by kernel_rfl) (by go_simp) (fun w1 hw1 => ?_) ?_
  · obtain ⟨hc, hf⟩ := bcell hw1; clear hw1; go_simp; (try with_reducible rfl)
  (try simp only [Act.put, List.setIfInBounds_toArray, List.set_cons_zero, List.set_cons_succ])
  refine plan_val (by kernel_rfl) (by kernel_rfl) (by kernel_rfl) (by go_simp) (fun w1 hw1 => ?_) ?_
  · obtain ⟨hc, hf⟩ := bcell hw1; clear hw1; go_simp; (try with_reducible rfl)
  (try simp only [Act.put, List.setIfInBounds_toArray, List.set_cons_zero, List.set_cons_succ])
  refine plan_val (by kernel_rfl) (by kernel_rfl) (by kernel_rfl) (by go_simp) (fun w1 hw1 => ?_) ?_
  · obtain ⟨hc, hf⟩ := bcell hw1; clear hw1; go_simp; (try with_reducible rfl)
  (try simp only [Act.put, List.setIfInBounds_toArray, List.set_cons_zero, List.set_cons_succ])
  refine plan_make (by kernel_rfl) (by kernel_rfl) (by go_simp) (fun w1 => ?_) (fun p12 hp12 => ?_)
  · go_simp; (try with_reducible rfl)
  (try simp only [Act.put, List.setIfInBounds_toArray, List.set_cons_zero, List.set_cons_succ])
  refine plan_put (p := p12) (by kernel_rfl) (by kernel_rfl) (by kernel_rfl) (by kernel_rfl) (by go_simp) (Or.inl rfl) (fun w1 hg hh => ?_) ?_
  · obtain ⟨c0, f0, c1, f1⟩ := cells2_of hh
    refine ⟨_, ?_, stored2 hh⟩
    clear hh hg; go_simp; (try with_reducible rfl)
  (try simp only [Act.put])
  refine plan_val (by kernel_rfl) (by kernel_rfl) (by kernel_rfl) (by go_simp) (fun w1 hw1 => ?_) ?_
  · obtain ⟨hc, hf⟩ := bcell hw1; clear hw1; go_simp; (try with_reducible rfl)
  (try simp only [Act.put, List.setIfInBounds_toArray, List.set_cons_zero, List.set_cons_succ])
  refine plan_done (by kernel_rfl) (fun w1 hC => ?_)
  obtain ⟨b1, s1, g1⟩ := hC.2 ⟨12, p12, _⟩ (Or.inr ⟨⟨12, p12, _⟩, Or.inl rfl, rfl, rfl⟩)
  obtain ⟨c10, _, c11, _⟩ := cells2_of g1
  obtain ⟨k1, q1⟩ := bcell hC.1
  have HB1 := Lib.hid hC.1
  have z3 : w.heap.size + 1 + 1 + 1 < w1.heap.size := by have := hC.1.size; simp at this; omega
  have z2 : w.heap.size + 1 + 1 < w1.heap.size := by have := hC.1.size; simp at this; omega
  have z1 : w.heap.size + 1 < w1.heap.size := by have := hC.1.size; simp at this; omega
  have z0 : w.heap.size < w1.heap.size := by have := hC.1.size; simp at this; omega
  clear hC g1 hp12
  generalize p12 = pa at *
  go_wp2
  refine wp_region_plan [.val 0 [] (.agg #[.int .i64 xa, .int .i64 ya]), .val 1 [] (.agg #[.int .i64 xa, .int .i64 ya]), .val 2 [] (.agg #[.int .i64 xb, .int .i64 yb]), .val 3 [] (.agg #[.int .i64 xb, .int .i64 yb]), .val 4 [] (.agg #[.int .i64 xc, .int .i64 yc]), .val 5 [] (.agg #[.int .i64 xc, .int .i64 yc]), .val 6 [] (.agg #[.int .i64 xd, .int .i64 yd]), .val 7 [] (.agg #[.int .i64 xd, .int .i64 yd]), .val 8 [] (.tuple #[.agg #[.int .i64 X, .int .i64 Y], .int .i64 C]), .val 9 [] (.tuple #[.agg #[.int .i64 X, .int .i64 Y], .int .i64 C]), .val 10 [] (.agg #[.int .i64 X, .int .i64 Y]), .val 11 [] (.int .i64 C), .make 12 (.cells #[.int .i64 0, .int .i64 0] 25 (0, 0)) (fun p => .pointer (some ⟨p, 0, none⟩)), .put 13 12 (.cells #[.int .i64 X, .int .i64 Y] 25 (0, 0)), .val 14 [] (.int .i64 C)] (by kernel_rfl) (by kernel_rfl) rfl ?_
  refine plan_val (by kernel_rfl) (by kernel_rfl) (by kernel_rfl) (by go_simp) (fun w1 hw1 => ?_) ?_
  · obtain ⟨hc, hf⟩ := bcell hw1; clear hw1; go_simp; (try with_reducible rfl)
  (try simp only [Act.put, List.setIfInBounds_toArray, List.set_cons_zero, List.set_cons_succ])
  refine plan_call [] 27 #[.agg #[.int .i64 xa, .int .i64 ya]] (by kernel_rfl) (by kernel_rfl) (by kernel_rfl) (by kernel_rfl) (by go_simp) (fun w1 hw1 => ?_) (fun w1 hC => ?_) ?_
  · clear hw1; go_simp; (try with_reducible rfl)
  · exact toPoint_any _ _ _
  (try simp only [Act.put, List.setIfInBounds_toArray, List.set_cons_zero, List.set_cons_succ])
  refine plan_val (by kernel_rfl) (by kernel_rfl) (by kernel_rfl) (by go_simp) (fun w1 hw1 => ?_) ?_
  · obtain ⟨hc, hf⟩ := bcell hw1; clear hw1; go_simp; (try with_reducible rfl)
  (try simp only [Act.put, List.setIfInBounds_toArray, List.set_cons_zero, List.set_cons_succ])
  refine plan_call [] 27 #[.agg #[.int .i64 xb, .int .i64 yb]] (by kernel_rfl) (by kernel_rfl) (by kernel_rfl) (by kernel_rfl) (by go_simp) (fun w1 hw1 => ?_) (fun w1 hC => ?_) ?_
  · clear hw1; go_simp; (try with_reducible rfl)
  · exact toPoint_any _ _ _
  (try simp only [Act.put, List.setIfInBounds_toArray, List.set_cons_zero, List.set_cons_succ])
  refine plan_val (by kernel_rfl) (by kernel_rfl) (by kernel_rfl) (by go_simp) (fun w1 hw1 => ?_) ?_
  · obtain ⟨hc, hf⟩ := bcell hw1; clear hw1; go_simp; (try with_reducible rfl)
  (try simp only [Act.put, List.setIfInBounds_toArray, List.set_cons_zero, List.set_cons_succ])
  refine plan_call [] 27 #[.agg #[.int .i64 xc, .int .i64 yc]] (by kernel_rfl) (by kernel_rfl) (by kernel_rfl) (by kernel_rfl) (by go_simp) (fun w1 hw1 => ?_) (fun w1 hC => ?_) ?_
  · clear hw1; go_simp; (try with_reducible rfl)
  · exact toPoint_any _ _ _
  (try simp only [Act.put, List.setIfInBounds_toArray, List.set_cons_zero, List.set_cons_succ])
  refine plan_val (by kernel_rfl) (by kernel_rfl) (by kernel_rfl) (by go_simp) (fun w1 hw1 => ?_) ?_
  · obtain ⟨hc, hf⟩ := bcell hw1; clear hw1; go_simp; (try with_reducible rfl)
  (try simp only [Act.put, List.setIfInBounds_toArray, List.set_cons_zero, List.set_cons_succ])
  refine plan_call [] 27 #[.agg #[.int .i64 xd, .int .i64 yd]] (by kernel_rfl) (by kernel_rfl) (by kernel_rfl) (by kernel_rfl) (by go_simp) (fun w1 hw1 => ?_) (fun w1 hC => ?_) ?_
  · clear hw1; go_simp; (try with_reducible rfl)
  · exact toPoint_any _ _ _
  (try simp only [Act.put, List.setIfInBounds_toArray, List.set_cons_zero, List.set_cons_succ])
  refine plan_call [] 25 #[.agg #[.int .i64 xa, .int .i64 ya], .agg #[.int .i64 xb, .int .i64 yb], .agg #[.int .i64 xc, .int .i64 yc], .agg #[.int .i64 xd, .int .i64 yd]] (by kernel_rfl) (by kernel_rfl) (by kernel_rfl) (by kernel_rfl) (by go_simp) (fun w1 hw1 => ?_) (fun w1 hC => ?_) ?_
  · clear hw1; go_simp; (try with_reducible rfl)
  · exact HI.out _
  (try simp only [Act.put, List.setIfInBounds_toArray, List.set_cons_zero, List.set_cons_succ])
  refine plan_val (by kernel_rfl) (by kernel_rfl) (by kernel_rfl) (by go_simp) (fun w1 hw1 => ?_) ?_
  · obtain ⟨hc, hf⟩ := bcell hw1; clear hw1; go_simp; (try with_reducible rfl)
  (try simp only [Act.put, List.setIfInBounds_toArray, List.set_cons_zero, List.set_cons_succ])
  refine plan_val (by kernel_rfl) (by kernel_rfl) (by kernel_rfl) (by go_simp) (fun w1 hw1 => ?_) ?_
  · obtain ⟨hc, hf⟩ := bcell hw1; clear hw1; go_simp; (try with_reducible rfl)
  (try simp only [Act.put, List.setIfInBounds_toArray, List.set_cons_zero, List.set_cons_succ])
  refine plan_val (by kernel_rfl) (by kernel_rfl) (by kernel_rfl) (by go_simp) (fun w1 hw1 => ?_) ?_
  · obtain ⟨hc, hf⟩ := bcell hw1; clear hw1; go_simp; (try with_reducible rfl)
  (try simp only [Act.put, List.setIfInBounds_toArray, List.set_cons_zero, List.set_cons_succ])
  refine plan_make (by kernel_rfl) (by kernel_rfl) (by go_simp) (fun w1 => ?_) (fun p12 hp12 => ?_)
  · go_simp; (try with_reducible rfl)
  (try simp only [Act.put, List.setIfInBounds_toArray, List.set_cons_zero, List.set_cons_succ])
  refine plan_put (p := p12) (by kernel_rfl) (by kernel_rfl) (by kernel_rfl) (by kernel_rfl) (by go_simp) (Or.inl rfl) (fun w1 hg hh => ?_) ?_
  · obtain ⟨c0, f0, c1, f1⟩ := cells2_of hh
    refine ⟨_, ?_, stored2 hh⟩
    clear hh hg; go_simp; (try with_reducible rfl)
  (try simp only [Act.put])
  refine plan_val (by kernel_rfl) (by kernel_rfl) (by kernel_rfl) (by go_simp) (fun w1 hw1 => ?_) ?_
  · obtain ⟨hc, hf⟩ := bcell hw1; clear hw1; go_simp; (try with_reducible rfl)
  (try simp only [Act.put, List.setIfInBounds_toArray, List.set_cons_zero, List.set_cons_succ])
  refine plan_done (by kernel_rfl) (fun w2 hC => ?_)
  obtain ⟨b2, s2, g2⟩ := hC.2 ⟨12, p12, _⟩ (Or.inr ⟨⟨12, p12, _⟩, Or.inl rfl, rfl, rfl⟩)
  obtain ⟨c20, _, c21, _⟩ := cells2_of g2
  obtain ⟨k2, q2⟩ := bcell hC.1
  have HB2 := Lib.hid hC.1
  have c20' := (k2 pa 0 s1).trans c10
  have c21' := (k2 pa 1 s1).trans c11
  clear hC g2 hp12 k1 q1 k2 q2
  go_wp2_with fail
  refine (eqPt_yes _ _ _).mono ?_
  rintro e w3 ⟨rfl, g3⟩
  have HB3 := Lib.hid g3
  clear g3
  go_wp2
  go_ret
  exact ⟨rfl, bseq (bseq (bseq (four_allocs _ _ _ _) HB1.out) HB2.out) HB3.out⟩
theorem walk (xa ya xb yb xc yc xd yd : Int) (wx0 : (Lit.int .i64 xa).wf = true) (wy0 : (Lit.int .i64 ya).wf = true) (wx1 : (Lit.int .i64 xb).wf = true) (wy1 : (Lit.int .i64 yb).wf = true) (wx2 : (Lit.int .i64 xc).wf = true) (wy2 : (Lit.int .i64 yc).wf = true) (wx3 : (Lit.int .i64 xd).wf = true) (wy3 : (Lit.int .i64 yd).wf = true) (w : World) :
    Calls Try.prog 12 #[.agg #[.int .i64 xa, .int .i64 ya], .agg #[.int .i64 xb, .int .i64 yb], .agg #[.int .i64 xc, .int .i64 yc], .agg #[.int .i64 xd, .int .i64 yd]] w fun e w' => e = .returned (.bool true) ∧ Below w.heap.size w w' := by
  obtain ⟨X, Y, C, h1, h2⟩ := both xa ya xb yb xc yc xd yd
  exact walk_in xa ya xb yb xc yc xd yd X Y C w h1 h2

set_option maxRecDepth 100000 in
theorem lifted (os : Os) (started : os.Started) (H : Type) (enc : TypeId × Value → H) :
    ReturnsInHanded {} Try.checked os 12 .any (Rows.fnExactCrossPointSpec.pre6 enc Try.prog Try.f12 Rows.fnExactCrossPointRow.domain false) (Rows.fnExactCrossPointSpec.post enc Try.prog Try.f12 false true false false) := by
  refine returnsInHanded_of_change (C := Try.checked) own started (by kernel_rfl) Try.func12
    (ChangeSpec.witness6 (enc := enc) (C := Try.checked) false ⟨#[], #[.agg #[.int .i64 0, .int .i64 0], .agg #[.int .i64 0, .int .i64 0], .agg #[.int .i64 0, .int .i64 0], .agg #[.int .i64 0, .int .i64 0]], []⟩ 8 (by kernel_rfl) (by kernel_rfl) (by kernel_rfl) (by kernel_rfl)) ?_
  intro W base args ds gs before hval0 hW hcnd _
  have hval : ∀ (j : Nat) t v, Try.f12.params[j]? = some t → args[j]? = some v → Value.okWide Try.prog W .any base t v := hval0
  have hW' := hW
  obtain ⟨p, q, hA0, hV, rfl, hfz, hnd⟩ := hW
  have hA : DataW.TrodAll enc Try.prog W 0 (fun _ => true) true Try.f12.params.toList args.toList ds p := hA0
  rw [Try.params12] at hA hval
  obtain ⟨v0, vs0, d0, ds0, p0, q0, hargs, rfl, rfl, h0, r0⟩ := trodAll_cons hA
  obtain ⟨v1, vs1, d1, ds1, p1, q1, rfl, rfl, rfl, h1, r1⟩ := trodAll_cons r0
  obtain ⟨v2, vs2, d2, ds2, p2, q2, rfl, rfl, rfl, h2, r2⟩ := trodAll_cons r1
  obtain ⟨v3, vs3, d3, ds3, p3, q3, rfl, rfl, rfl, h3, r3⟩ := trodAll_cons r2
  obtain ⟨rfl, rfl, rfl⟩ := trodAll_nil r3
  obtain rfl : args = #[v0, v1, v2, v3] := by cases args; simp_all
  obtain ⟨rfl, rfl⟩ := trodVars_none hV
  obtain ⟨x0, y0, rfl, rfl, rfl, wx0, wy0⟩ := open_pt (hval 0 35 v0 rfl rfl) h0
  obtain ⟨x1, y1, rfl, rfl, rfl, wx1, wy1⟩ := open_pt (hval 1 35 v1 rfl rfl) h1
  obtain ⟨x2, y2, rfl, rfl, rfl, wx2, wy2⟩ := open_pt (hval 2 35 v2 rfl rfl) h2
  obtain ⟨x3, y3, rfl, rfl, rfl, wx3, wy3⟩ := open_pt (hval 3 35 v3 rfl rfl) h3
  clear hA0 hval0
  simp only [List.append_nil] at hW'
  refine (walk x0 y0 x1 y1 x2 y2 x3 y3 wx0 wy0 wx1 wy1 wx2 wy2 wx3 wy3 W).mono fun e W' ⟨he, hg⟩ => ?_
  subst he
  exact ⟨_, rfl, post_below (pa := []) (pv := []) hW' (fun _ _ _ => (trodAll_cons_mk (shut_bool Try.underlying4 _) trodAll_mk0)) (fun sp hsp => (trodAll_cons_mk (shut_pt wx0 wy0) (trodAll_cons_mk (shut_pt wx1 wy1) (trodAll_cons_mk (shut_pt wx2 wy2) (trodAll_cons_mk (shut_pt wx3 wy3) trodAll_mk0))))) (fun _ _ => rfl) rfl
    hg (ok_one (by kernel_rfl) rfl (okWide_bool_mk Try.underlying4 _))⟩

theorem over : Rows.fnExactCrossPointRow.holds Try.pinned (OpenSpec.ofChange Rows.fnExactCrossPointSpec) :=
  OpenClaim.holds_of_wide 12 Try.f12 rfl rfl rfl rfl rfl rfl rfl ⟨rfl, rfl, rfl, rfl, rfl⟩ rfl rfl rfl rfl rfl (by kernel_rfl) Try.func12 (by kernel_rfl)
    (of_decide_eq_true (by kernel_rfl)) (by unfold Func.isWrapper; first | (rw [if_pos (by decide +kernel)]; kernel_rfl) | (rw [if_neg (by decide +kernel)]; exact ⟨rfl, rfl⟩))
    (fun os started H enc _ => lifted os started H enc)

theorem proved : Rows.FnExactCrossPointSaid :=
  over
#print axioms proved
end Go.Proofs.Ytfaahcbdglbcjaa.fnExactCrossPoint
