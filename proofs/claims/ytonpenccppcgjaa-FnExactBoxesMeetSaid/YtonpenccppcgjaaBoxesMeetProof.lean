/- FnExactBoxesMeet returns true at every two boxes, and leaves them as they were. Condition: none. -/
import Derived.Test.YtonpenccppcgjaaRows
import Derived.Test.YtonpenccppcgjaaLea5
import Derived.Test.YtonpenccppcgjaaSeq3
import Derived.Test.YtonpenccppcgjaaK5
import Derived.Test.YtonpenccppcgjaaPost
import Derived.Test.YtonpenccppcgjaaJoin
import Derived.WalkKit
import Derived.ProofKit
import Derived.OpenShut
import Derived.ChangeMaps5
namespace Go.Proofs.Ytonpenccppcgjaa.fnExactBoxesMeet
open Go.ChangeShapes Go.WideShapes Go.ChangeAt Go.RowKit Go.ChangeMaps
set_option linter.unusedVariables false

theorem own : ownKnob Try.prog.godebug = none := by kernel_rfl

set_option maxRecDepth 100000 in
set_option maxHeartbeats 8000000 in
theorem walk_in (x0 y0 a0 b0 : Int) (x1 y1 a1 b1 : Int) (w : World) :
    Calls Try.prog 3 #[.agg #[.int .i64 x0, .int .i64 y0, .int .i64 a0, .int .i64 b0], .agg #[.int .i64 x1, .int .i64 y1, .int .i64 a1, .int .i64 b1]] w fun e w' => e = .returned (.bool true) ∧ Below w.heap.size w w' := by
  go_enter Try.func3, Try.ntmps3
  have HW := Lib.hid (show Below w.heap.size w ((w.alloc (.cells #[.int .i64 x0, .int .i64 y0, .int .i64 a0, .int .i64 b0] 23)).alloc (.cells #[.int .i64 x1, .int .i64 y1, .int .i64 a1, .int .i64 b1] 23)) from two_allocs _ _)
  have ha := World.alloc_heap_new w (.cells #[.int .i64 x0, .int .i64 y0, .int .i64 a0, .int .i64 b0] 23)
  replace ha := (Below.heap_alloc (w.alloc (.cells #[.int .i64 x0, .int .i64 y0, .int .i64 a0, .int .i64 b0] 23)) (.cells #[.int .i64 x1, .int .i64 y1, .int .i64 a1, .int .i64 b1] 23) (w.heap.size) (by simp; try omega)).trans ha
  have HA0 := Lib.hid ha
  clear ha
  have ha := World.alloc_heap_new (w.alloc (.cells #[.int .i64 x0, .int .i64 y0, .int .i64 a0, .int .i64 b0] 23)) (.cells #[.int .i64 x1, .int .i64 y1, .int .i64 a1, .int .i64 b1] 23)
  rw [show (w.alloc (.cells #[.int .i64 x0, .int .i64 y0, .int .i64 a0, .int .i64 b0] 23)).heap.size = w.heap.size + 1 by simp] at ha
  have HA1 := Lib.hid ha
  clear ha
  have hne : (bmB (x0, y0, a0, b0) (x1, y1, a1, b1) != bmB (x0, y0, a0, b0) (x1, y1, a1, b1)) = false := by simp
  go_wp2
  refine Seq3.wp_region (((w.alloc (.cells #[.int .i64 x0, .int .i64 y0, .int .i64 a0, .int .i64 b0] 23)).alloc (.cells #[.int .i64 x1, .int .i64 y1, .int .i64 a1, .int .i64 b1] 23))) [0, 2] [(1, []), (3, []), (4, [5])] (by kernel_rfl) (by kernel_rfl) rfl (Below.refl _ _) (fun w1 hh hb1 => ?_)
  repeat (first | (refine Seq2.fl_row (by decide) ?_) | (refine Seq2.fl_skip (by kernel_rfl) (by kernel_rfl) ?_ ?_; (focus (go_simp; (first | done | (simp [undef]; done)))); (try simp only [Act.put, List.setIfInBounds_toArray, List.set_cons_zero, List.set_cons_succ])) | (refine Seq2.fl_val (by kernel_rfl) (by kernel_rfl) ?_ ?_; (focus (go_simp; done)); apply Exists.intro; refine ⟨fun w2 hw2 => ?_, ?_⟩; (focus (obtain ⟨hc, hf⟩ := bcell hw2; clear hw2; go_simp; (first | done | with_reducible rfl | (with_reducible exact eql2 _ _ _) | (with_reducible exact neq2 _ _ _)))); (try simp only [Act.put, List.setIfInBounds_toArray, List.set_cons_zero, List.set_cons_succ])))
  refine Seq2.fl_nil ?_
  refine Seq3.c3_one (by kernel_rfl) rfl ?_
  gi_wp2_with fail
  refine ⟨trivial, rfl, (callsIn_wide.2 (toBx_any x0 y0 a0 b0 _)).mono ?_⟩
  rintro e w1 ⟨rfl, g1⟩
  have HB1 := Lib.hid (hb1.trans (g1.mono hb1.size))
  clear g1
  clear hh
  gi_wp2
  refine ⟨HB1.out, ?_⟩
  refine Seq3.c3_one (by kernel_rfl) rfl ?_
  gi_wp2_with fail
  refine ⟨trivial, rfl, (callsIn_wide.2 (toBx_any x1 y1 a1 b1 _)).mono ?_⟩
  rintro e w2 ⟨rfl, g2⟩
  have HB2 := Lib.hid (HB1.out.trans (g2.mono HB1.out.size))
  clear g2
  gi_wp2
  refine ⟨HB2.out, ?_⟩
  refine Seq3.c3_one (by kernel_rfl) rfl ?_
  gi_wp2_with fail
  refine ⟨trivial, rfl, (callsIn_wide.2 (bm_spec x0 y0 a0 b0 x1 y1 a1 b1 _)).mono ?_⟩
  rintro e w3 ⟨rfl, g3⟩
  have HB3 := Lib.hid (HB2.out.trans (g3.mono HB2.out.size))
  clear g3
  gi_wp2
  refine ⟨HB3.out, ?_⟩
  refine Seq3.mid 5 ?_
  simp only [List.drop_succ_cons, List.drop_zero]
  repeat (first | (refine Seq2.fl_row (by decide) ?_) | (refine Seq2.fl_skip (by kernel_rfl) (by kernel_rfl) ?_ ?_; (focus (go_simp; (first | done | (simp [undef]; done)))); (try simp only [Act.put, List.setIfInBounds_toArray, List.set_cons_zero, List.set_cons_succ])) | (refine Seq2.fl_val (by kernel_rfl) (by kernel_rfl) ?_ ?_; (focus (go_simp; done)); apply Exists.intro; refine ⟨fun w2 hw2 => ?_, ?_⟩; (focus (obtain ⟨hc, hf⟩ := bcell hw2; clear hw2; go_simp; (first | done | with_reducible rfl | (with_reducible exact eql2 _ _ _) | (with_reducible exact neq2 _ _ _)))); (try simp only [Act.put, List.setIfInBounds_toArray, List.set_cons_zero, List.set_cons_succ])))
  refine Seq2.fl_nil ?_
  refine Seq3.c3_nil (by kernel_rfl) ?_
  clear hb1
  have g0 := HB3.out
  replace HA0 := Lib.hid ((g0.block _ (blk_lt HA0.out)).trans HA0.out)
  replace HA1 := Lib.hid ((g0.block _ (blk_lt HA1.out)).trans HA1.out)
  replace HW := Lib.hid (bseq HW.out g0)
  clear g0
  have hza0 := blk_lt HA0.out
  have a0_0 := (cell_of_arr HA0.out (j := 0) rfl).1
  have a0_1 := (cell_of_arr HA0.out (j := 1) rfl).1
  have a0_2 := (cell_of_arr HA0.out (j := 2) rfl).1
  have a0_3 := (cell_of_arr HA0.out (j := 3) rfl).1
  have hza1 := blk_lt HA1.out
  have a1_0 := (cell_of_arr HA1.out (j := 0) rfl).1
  have a1_1 := (cell_of_arr HA1.out (j := 1) rfl).1
  have a1_2 := (cell_of_arr HA1.out (j := 2) rfl).1
  have a1_3 := (cell_of_arr HA1.out (j := 3) rfl).1
  go_wp2
  refine Seq3.wp_region w3 [0, 2] [(1, []), (3, []), (4, [5])] (by kernel_rfl) (by kernel_rfl) rfl (Below.refl _ _) (fun w1 hh hb1 => ?_)
  repeat (first | (refine Seq2.fl_row (by decide) ?_) | (refine Seq2.fl_skip (by kernel_rfl) (by kernel_rfl) ?_ ?_; (focus (go_simp; (first | done | (simp [undef]; done)))); (try simp only [Act.put, List.setIfInBounds_toArray, List.set_cons_zero, List.set_cons_succ])) | (refine Seq2.fl_val (by kernel_rfl) (by kernel_rfl) ?_ ?_; (focus (go_simp; done)); apply Exists.intro; refine ⟨fun w2 hw2 => ?_, ?_⟩; (focus (obtain ⟨hc, hf⟩ := bcell hw2; clear hw2; go_simp; (first | done | with_reducible rfl | (with_reducible exact eql2 _ _ _) | (with_reducible exact neq2 _ _ _)))); (try simp only [Act.put, List.setIfInBounds_toArray, List.set_cons_zero, List.set_cons_succ])))
  refine Seq2.fl_nil ?_
  refine Seq3.c3_one (by kernel_rfl) rfl ?_
  gi_wp2_with fail
  refine ⟨trivial, rfl, (callsIn_wide.2 (toBx_any x0 y0 a0 b0 _)).mono ?_⟩
  rintro e w4 ⟨rfl, g4⟩
  have HB4 := Lib.hid (hb1.trans (g4.mono hb1.size))
  clear g4
  clear hh
  gi_wp2
  refine ⟨HB4.out, ?_⟩
  refine Seq3.c3_one (by kernel_rfl) rfl ?_
  gi_wp2_with fail
  refine ⟨trivial, rfl, (callsIn_wide.2 (toBx_any x1 y1 a1 b1 _)).mono ?_⟩
  rintro e w5 ⟨rfl, g5⟩
  have HB5 := Lib.hid (HB4.out.trans (g5.mono HB4.out.size))
  clear g5
  gi_wp2
  refine ⟨HB5.out, ?_⟩
  refine Seq3.c3_one (by kernel_rfl) rfl ?_
  gi_wp2_with fail
  refine ⟨trivial, rfl, (callsIn_wide.2 (bm_impl x0 y0 a0 b0 x1 y1 a1 b1 _)).mono ?_⟩
  rintro e w6 ⟨rfl, g6⟩
  have HB6 := Lib.hid (HB5.out.trans (g6.mono HB5.out.size))
  clear g6
  gi_wp2
  refine ⟨HB6.out, ?_⟩
  refine Seq3.mid 5 ?_
  simp only [List.drop_succ_cons, List.drop_zero]
  repeat (first | (refine Seq2.fl_row (by decide) ?_) | (refine Seq2.fl_skip (by kernel_rfl) (by kernel_rfl) ?_ ?_; (focus (go_simp; (first | done | (simp [undef]; done)))); (try simp only [Act.put, List.setIfInBounds_toArray, List.set_cons_zero, List.set_cons_succ])) | (refine Seq2.fl_val (by kernel_rfl) (by kernel_rfl) ?_ ?_; (focus (go_simp; done)); apply Exists.intro; refine ⟨fun w2 hw2 => ?_, ?_⟩; (focus (obtain ⟨hc, hf⟩ := bcell hw2; clear hw2; go_simp; (first | done | with_reducible rfl | (with_reducible exact eql2 _ _ _) | (with_reducible exact neq2 _ _ _)))); (try simp only [Act.put, List.setIfInBounds_toArray, List.set_cons_zero, List.set_cons_succ])))
  refine Seq2.fl_nil ?_
  refine Seq3.c3_nil (by kernel_rfl) ?_
  clear hb1
  have g0 := HB6.out
  clear hza0 a0_0 a0_1 a0_2 a0_3 hza1 a1_0 a1_1 a1_2 a1_3
  replace HA0 := Lib.hid ((g0.block _ (blk_lt HA0.out)).trans HA0.out)
  replace HA1 := Lib.hid ((g0.block _ (blk_lt HA1.out)).trans HA1.out)
  replace HW := Lib.hid (bseq HW.out g0)
  clear g0
  have hza0 := blk_lt HA0.out
  have a0_0 := (cell_of_arr HA0.out (j := 0) rfl).1
  have a0_1 := (cell_of_arr HA0.out (j := 1) rfl).1
  have a0_2 := (cell_of_arr HA0.out (j := 2) rfl).1
  have a0_3 := (cell_of_arr HA0.out (j := 3) rfl).1
  have hza1 := blk_lt HA1.out
  have a1_0 := (cell_of_arr HA1.out (j := 0) rfl).1
  have a1_1 := (cell_of_arr HA1.out (j := 1) rfl).1
  have a1_2 := (cell_of_arr HA1.out (j := 2) rfl).1
  have a1_3 := (cell_of_arr HA1.out (j := 3) rfl).1
  go_wp2
  go_ret
  exact ⟨rfl, HW.out⟩
set_option maxRecDepth 100000 in
set_option maxHeartbeats 4000000 in
theorem walk (x0 y0 a0 b0 : Int) (x1 y1 a1 b1 : Int) (w : World) :
    Calls Try.prog 3 #[.agg #[.int .i64 x0, .int .i64 y0, .int .i64 a0, .int .i64 b0], .agg #[.int .i64 x1, .int .i64 y1, .int .i64 a1, .int .i64 b1]] w fun e w' => e = .returned (.bool true) ∧ Below w.heap.size w w' := by
  exact walk_in x0 y0 a0 b0 x1 y1 a1 b1 w

set_option maxRecDepth 100000 in
theorem lifted (os : Os) (started : os.Started) (H : Type) (enc : TypeId × Value → H) :
    ReturnsInHanded {} Try.checked os 3 .any (Rows.fnExactBoxesMeetSpec.pre6 enc Try.prog Try.f3 Rows.fnExactBoxesMeetRow.domain false) (Rows.fnExactBoxesMeetSpec.post enc Try.prog Try.f3 false true false false) := by
  refine returnsInHanded_of_change (C := Try.checked) own started (by kernel_rfl) Try.func3
    (ChangeSpec.witness6 (enc := enc) (C := Try.checked) false ⟨#[], #[.agg #[.int .i64 0, .int .i64 0, .int .i64 0, .int .i64 0], .agg #[.int .i64 0, .int .i64 0, .int .i64 0, .int .i64 0]], []⟩ 8 (by kernel_rfl) (by kernel_rfl) (by kernel_rfl) (by kernel_rfl)) ?_
  intro W base args ds gs before hval0 hW hcnd _
  have hval : ∀ (j : Nat) t v, Try.f3.params[j]? = some t → args[j]? = some v → Value.okWide Try.prog W .any base t v := hval0
  have hW' := hW
  obtain ⟨p, q, hA0, hV, rfl, hfz, hnd⟩ := hW
  have hA : DataW.TrodAll enc Try.prog W 0 (fun _ => true) true Try.f3.params.toList args.toList ds p := hA0
  rw [Try.params3] at hA hval
  obtain ⟨v0, vs0, d0, ds0, p0, q0, hargs, rfl, rfl, h0, r0⟩ := trodAll_cons hA
  obtain ⟨v1, vs1, d1, ds1, p1, q1, rfl, rfl, rfl, h1, r1⟩ := trodAll_cons r0
  obtain ⟨rfl, rfl, rfl⟩ := trodAll_nil r1
  obtain rfl : args = #[v0, v1] := by cases args; simp_all
  obtain ⟨rfl, rfl⟩ := trodVars_none hV
  clear hA0 hval0
  have l0 : ∀ x ∈ p0, x.block < W.heap.size := fun x hx => hW'.lt x (by simp [hx])
  have l1 : ∀ x ∈ p1, x.block < W.heap.size := fun x hx => hW'.lt x (by simp [hx])
  have e0 := hval 0 23 v0 rfl rfl
  obtain ⟨x0_0, x0_1, x0_2, x0_3, e0v⟩ := open_Bx e0 h0
  have e1 := hval 1 23 v1 rfl rfl
  obtain ⟨x1_0, x1_1, x1_2, x1_3, e1v⟩ := open_Bx e1 h1
  have hc := walk x0_0 x0_1 x0_2 x0_3 x1_0 x1_1 x1_2 x1_3 W 
  simp only [← e0v, ← e1v] at hc
  refine hc.mono fun e W' ⟨he, hg⟩ => ?_
  subst he
  exact ⟨_, rfl, post_below (pa := (p0 ++ (p1 ++ []))) (pv := []) hW' (fun _ _ _ => (trodAll_cons_mk (shut_bool Try.underlying4 _) trodAll_mk0)) (fun sp hsp => (trodAll_cons_mk (trod_again (by decide) h0 l0 hg sp (fun x hx => hsp x (by simp [hx]))) (trodAll_cons_mk (trod_again (by decide) h1 l1 hg sp (fun x hx => hsp x (by simp [hx]))) trodAll_mk0))) (fun _ _ => rfl) (by simp)
    hg (ok_one (by kernel_rfl) rfl (okWide_bool_mk Try.underlying4 _))⟩

set_option maxHeartbeats 8000000 in
theorem joined : joinedFacts Try.pinned.checked.prog 3 Try.f3 Rows.fnExactBoxesMeetSpec Rows.fnExactBoxesMeetRow = true := by
  unfold joinedFacts
  repeat' (with_reducible refine andI ?_ ?_)
  rotate_left 1
  · exact jLaid
  · exact jRowed
  rotate_left 21
  · exact jHeard
  · exact jEnter
  · exact jLifts
  · exact jMake
  all_goals as_aux_lemma => kernel_rfl

theorem over : Rows.fnExactBoxesMeetRow.holds Try.pinned (OpenSpec.ofChange Rows.fnExactBoxesMeetSpec) :=
  OpenClaim.holds_of_wide 3 Try.f3 rfl rfl rfl rfl rfl rfl rfl ⟨rfl, rfl, rfl, rfl, rfl⟩ rfl rfl rfl rfl rfl (by kernel_rfl) Try.func3 joined
    (of_decide_eq_true (by kernel_rfl)) (by unfold Func.isWrapper; first | (rw [if_pos (by decide +kernel)]; kernel_rfl) | (rw [if_neg (by decide +kernel)]; exact ⟨rfl, rfl⟩))
    (fun os started H enc _ => lifted os started H enc)

theorem proved : Rows.FnExactBoxesMeetSaid :=
  over
#print axioms proved
end Go.Proofs.Ytonpenccppcgjaa.fnExactBoxesMeet
