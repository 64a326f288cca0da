/- FnExactValidDrawing returns true at every drawing, and leaves them as they were. Condition: none. -/
import Derived.Test.YtbidbleghlcegaaRows
import Derived.Test.YtbidbleghlcegaaDrw6
import Derived.Test.YtbidbleghlcegaaDrw9
import Derived.Test.YtbidbleghlcegaaDrw12
import Derived.Test.YtbidbleghlcegaaSeq3
import Derived.Test.YtbidbleghlcegaaK5
import Derived.Test.YtbidbleghlcegaaPost
import Derived.Test.YtbidbleghlcegaaJoin
import Derived.WalkKit
import Derived.ProofKit
import Derived.OpenShut
import Derived.ChangeMaps5
namespace Go.Proofs.Ytbidbleghlcegaa.fnExactValidDrawing
open Go.ChangeShapes Go.WideShapes Go.ChangeAt Go.RowKit Go.ChangeMaps
set_option linter.unusedVariables false

theorem own : ownKnob Try.prog.godebug = none := by kernel_rfl

set_option maxRecDepth 100000 in
set_option maxHeartbeats 8000000 in
theorem walk_in (v : Value) (D : Drw) (w : World) (hs : dSz D ≤ 1048576) (hv : DL w v D) :
    Calls Try.prog 3 #[v] w fun e w' => e = .returned (.bool true) ∧ Below w.heap.size w w' := by
  have HV0 := Lib.hid hv
  have HS := Lib.hid hs
  have HL := Lib.hid (lft_ok (l := 1048576) (n := dSz D) (by omega))
  have hd0 : decide ((1048576 : Int) - (dSz D : Int) < 0) = false := by simp; omega
  obtain ⟨ao, n, c, bo, m, d, rfl, _, _, _, _, _, _⟩ := hv.out
  clear hv
  have HV := HV0
  clear HV0 hs
  go_enter Try.func3, Try.ntmps3
  go_wp2_with fail
  refine (szDr_any _ D 1048576 _ (by omega) (by omega) (HV.out.below (one_alloc _))).mono ?_
  rintro e w1 ⟨rfl, g1⟩
  have HW1 := Lib.hid (bseq (one_alloc _) g1)
  have HA1 := Lib.hid ((g1.block w.heap.size (by simp)).trans (show _ = some (.cells #[.int .i64 D.wd, .int .i64 D.hg, .slice ao n c, .slice bo m d] 25 (0, 0)) by first | exact World.alloc_heap_new _ _ | exact (Below.heap_alloc _ _ _ (by simp)).trans (World.alloc_heap_new _ _)))
  rw [HL.out]
  have hza := blk_lt HA1.out
  obtain ⟨a0, _, a1, _, a2, _, a3, _⟩ := cells4_of HA1.out
  clear g1
  go_wp2_with fail
  refine (toDr_own _ D _ HS.out (HV.out.below HW1.out)).mono ?_
  rintro e w2 ⟨v2, rfl, o2, g2⟩
  have HW2 := Lib.hid (bseq HW1.out g2)
  have O2 := Lib.hid o2
  have HA2 := Lib.hid ((g2.block w.heap.size hza).trans HA1.out)
  clear g2 o2 hza a0 a1 a2 a3
  go_wp2_with fail
  refine (valid_dspec _ D _ O2.out.view).mono ?_
  rintro e w3 ⟨rfl, g3⟩
  have HW3 := Lib.hid (bseq HW2.out g3)
  have HA3 := Lib.hid ((g3.block w.heap.size (blk_lt HA2.out)).trans HA2.out)
  clear g3 O2
  have hza := blk_lt HA3.out
  obtain ⟨a0, _, a1, _, a2, _, a3, _⟩ := cells4_of HA3.out
  go_wp2_with fail
  refine (toDr_own _ D _ HS.out (HV.out.below HW3.out)).mono ?_
  rintro e w4 ⟨v4, rfl, o4, g4⟩
  have HW4 := Lib.hid (bseq HW3.out g4)
  have O4 := Lib.hid o4
  have HA4 := Lib.hid ((g4.block w.heap.size hza).trans HA3.out)
  obtain ⟨p4, b4, rfl, _, _, _, _, _⟩ := o4.out
  clear g4 o4 hza a0 a1 a2 a3
  go_wp2_with fail
  have O4v := Lib.hid (O4.out.view)
  have HX4 := Lib.hid (World.alloc_heap_new w4 (.cells #[.int .i64 D.wd, .int .i64 D.hg, .slice (some ⟨p4, 0, none⟩) D.ps.length D.ps.length, .slice (some ⟨b4, 0, none⟩) D.fs.length D.fs.length] 31))
  refine (valid_dimpl _ D _ (O4v.out.below (one_alloc _))).mono ?_
  rintro e w5 ⟨rfl, g5⟩
  have HW5 := Lib.hid (HW4.out.trans ((bseq (one_alloc _) g5).mono HW4.out.size))
  have HV5 := Lib.hid ((O4v.out.below (one_alloc _)).below g5)
  have HX5 := Lib.hid ((g5.block _ (by simp)).trans HX4.out)
  have HA5 := Lib.hid ((g5.block w.heap.size (by have := blk_lt HA4.out; simp; omega)).trans ((Below.heap_alloc _ _ _ (blk_lt HA4.out)).trans HA4.out))
  clear g5
  have hza := blk_lt HA5.out
  have hzx := blk_lt HX5.out
  obtain ⟨a0, _, a1, _, a2, _, a3, _⟩ := cells4_of HA5.out
  obtain ⟨x0, _, x1, _, x2, _, x3, _⟩ := cells4_of HX5.out
  have hne : (drB D != drB D) = false := by simp
  go_wp2
  refine Seq3.wp_region w5 [0, 1] [(2, []), (3, [4])] (by kernel_rfl) (by kernel_rfl) rfl (Below.refl _ _) (fun w1 hh hb1 => ?_)
  repeat (first | (refine Seq2.fl_row (by decide) ?_) | (refine Seq2.fl_skip (by kernel_rfl) (by kernel_rfl) ?_ ?_; (focus (go_simp; (first | done | (simp [undef]; done)))); (try simp only [Act.put, List.setIfInBounds_toArray, List.set_cons_zero, List.set_cons_succ])) | (refine Seq2.fl_val (by kernel_rfl) (by kernel_rfl) ?_ ?_; (focus (go_simp; done)); apply Exists.intro; refine ⟨fun w2 hw2 => ?_, ?_⟩; (focus (obtain ⟨hc, hf⟩ := bcell hw2; clear hw2; go_simp; (first | done | with_reducible rfl | (with_reducible exact eql2 _ _ _) | (with_reducible exact neq2 _ _ _)))); (try simp only [Act.put, List.setIfInBounds_toArray, List.set_cons_zero, List.set_cons_succ])))
  refine Seq2.fl_nil ?_
  refine Seq3.c3_one (by kernel_rfl) rfl ?_
  gi_wp2_with fail
  have hW6 := HW5.out.trans (hb1.mono HW5.out.size)
  refine ⟨trivial, rfl, (callsIn_wide.2 (toDr_own _ D _ HS.out (HV.out.below hW6))).mono ?_⟩
  rintro e w6 ⟨v6, rfl, o6, g6⟩
  have HB6 := Lib.hid (hb1.trans (g6.mono hb1.size))
  have O6 := Lib.hid o6
  clear g6 o6 hb1 hh hW6
  gi_wp2
  refine ⟨HB6.out, ?_⟩
  refine Seq3.c3_one (by kernel_rfl) rfl ?_
  gi_wp2_with fail
  refine ⟨trivial, rfl, (callsIn_wide.2 (eqDr_same _ _ D _ (HV5.out.below HB6.out) O6.out.view)).mono ?_⟩
  rintro e w7 ⟨rfl, g7⟩
  have HB7 := Lib.hid (HB6.out.trans (g7.mono HB6.out.size))
  clear g7
  gi_wp2
  refine ⟨HB7.out, ?_⟩
  refine Seq3.mid 4 ?_
  simp only [List.drop_succ_cons, List.drop_zero]
  repeat (first | (refine Seq2.fl_row (by decide) ?_) | (refine Seq2.fl_skip (by kernel_rfl) (by kernel_rfl) ?_ ?_; (focus (go_simp; (first | done | (simp [undef]; done)))); (try simp only [Act.put, List.setIfInBounds_toArray, List.set_cons_zero, List.set_cons_succ])) | (refine Seq2.fl_val (by kernel_rfl) (by kernel_rfl) ?_ ?_; (focus (go_simp; done)); apply Exists.intro; refine ⟨fun w2 hw2 => ?_, ?_⟩; (focus (obtain ⟨hc, hf⟩ := bcell hw2; clear hw2; go_simp; (first | done | with_reducible rfl | (with_reducible exact eql2 _ _ _) | (with_reducible exact neq2 _ _ _)))); (try simp only [Act.put, List.setIfInBounds_toArray, List.set_cons_zero, List.set_cons_succ])))
  refine Seq2.fl_nil ?_
  refine Seq3.c3_nil (by kernel_rfl) ?_
  have HW7 := Lib.hid (HW5.out.trans (HB7.out.mono HW5.out.size))
  go_wp2
  go_ret
  exact ⟨rfl, HW7.out⟩
set_option maxRecDepth 100000 in
set_option maxHeartbeats 1000000 in
theorem walk (v : Value) (D : Drw) (w : World) (hv : DL w v D) :
    Calls Try.prog 3 #[v] w fun e w' => e = .returned (.bool true) ∧ Below w.heap.size w w' := by
  by_cases hs : dSz D ≤ 1048576
  · exact walk_in v D w hs hv
  · have HL := Lib.hid (lft_no (l := 1048576) (n := dSz D) (by omega))
    have HV := Lib.hid hv
    obtain ⟨ao, n, c, bo, m, d, rfl, _, _, _, _, _, _⟩ := hv.out
    clear hv
    go_enter Try.func3, Try.ntmps3
    go_wp2_with fail
    refine (szDr_any _ D 1048576 _ (by omega) (by omega) (HV.out.below (one_alloc _))).mono ?_
    rintro e w1 ⟨rfl, g1⟩
    have HG := Lib.hid (bseq (one_alloc _) g1)
    clear g1
    rw [HL.out]
    go_wp2
    go_ret
    exact ⟨rfl, HG.out⟩

set_option maxRecDepth 100000 in
theorem lifted (os : Os) (started : os.Started) (H : Type) (enc : TypeId × Value → H) :
    ReturnsInHanded {} Try.checked os 3 .any (Rows.fnExactValidDrawingSpec.pre6 enc Try.prog Try.f3 Rows.fnExactValidDrawingRow.domain false) (Rows.fnExactValidDrawingSpec.post enc Try.prog Try.f3 false true false false) := by
  refine returnsInHanded_of_change (C := Try.checked) own started (by kernel_rfl) Try.func3
    (ChangeSpec.witness6 (enc := enc) (C := Try.checked) false ⟨#[], #[.agg #[.int .i64 0, .int .i64 0, .slice none 0 0, .slice none 0 0]], []⟩ 8 (by kernel_rfl) (by kernel_rfl) (by kernel_rfl) (by kernel_rfl)) ?_
  intro W base args ds gs before hval0 hW hcnd _
  have hval : ∀ (j : Nat) t v, Try.f3.params[j]? = some t → args[j]? = some v → Value.okWide Try.prog W .any base t v := hval0
  have hW' := hW
  obtain ⟨p, q, hA0, hV, rfl, hfz, hnd⟩ := hW
  have hA : DataW.TrodAll enc Try.prog W 0 (fun _ => true) true Try.f3.params.toList args.toList ds p := hA0
  rw [Try.params3] at hA hval
  obtain ⟨v0, vs0, d0, ds0, p0, q0, hargs, rfl, rfl, h0, r0⟩ := trodAll_cons hA
  obtain ⟨rfl, rfl, rfl⟩ := trodAll_nil r0
  obtain rfl : args = #[v0] := by cases args; simp_all
  obtain ⟨rfl, rfl⟩ := trodVars_none hV
  clear hA0 hval0
  have l0 : ∀ x ∈ p0, x.block < W.heap.size := fun x hx => hW'.lt x (by simp [hx])
  have e0 := hval 0 25 v0 rfl rfl
  obtain ⟨D0, lv0⟩ := open_draw e0 h0
  have hc := walk v0 D0 W lv0
  refine hc.mono fun e W' ⟨he, hg⟩ => ?_
  subst he
  exact ⟨_, rfl, post_below (pa := (p0 ++ [])) (pv := []) hW' (fun _ _ _ => (trodAll_cons_mk (shut_bool Try.underlying4 _) trodAll_mk0)) (fun sp hsp => (trodAll_cons_mk (trod_again (by decide) h0 l0 hg sp (fun x hx => hsp x (by simp [hx]))) trodAll_mk0)) (fun _ _ => rfl) (by simp)
    hg (ok_one (by kernel_rfl) rfl (okWide_bool_mk Try.underlying4 _))⟩

set_option maxHeartbeats 8000000 in
theorem joined : joinedFacts Try.pinned.checked.prog 3 Try.f3 Rows.fnExactValidDrawingSpec Rows.fnExactValidDrawingRow = true := by
  unfold joinedFacts
  repeat' (with_reducible refine andI ?_ ?_)
  rotate_left 1
  · exact jLaid
  · exact jRowed
  rotate_left 21
  · exact jHeard
  · exact jEnter
  · exact jLifts
  · exact jMake
  all_goals as_aux_lemma => kernel_rfl

theorem over : Rows.fnExactValidDrawingRow.holds Try.pinned (OpenSpec.ofChange Rows.fnExactValidDrawingSpec) :=
  OpenClaim.holds_of_wide 3 Try.f3 rfl rfl rfl rfl rfl rfl rfl ⟨rfl, rfl, rfl, rfl, rfl⟩ rfl rfl rfl rfl rfl (by kernel_rfl) Try.func3 joined
    (of_decide_eq_true (by kernel_rfl)) (by unfold Func.isWrapper; first | (rw [if_pos (by decide +kernel)]; kernel_rfl) | (rw [if_neg (by decide +kernel)]; exact ⟨rfl, rfl⟩))
    (fun os started H enc _ => lifted os started H enc)

theorem proved : Rows.FnExactValidDrawingSaid :=
  over
#print axioms proved
end Go.Proofs.Ytbidbleghlcegaa.fnExactValidDrawing
