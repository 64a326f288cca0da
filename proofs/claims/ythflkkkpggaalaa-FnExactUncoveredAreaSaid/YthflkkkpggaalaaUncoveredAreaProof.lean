/- FnExactUncoveredArea returns true at every drawing, and leaves them as they were. Condition: none. -/
import Derived.Test.YthflkkkpggaalaaRows
import Derived.Test.YthflkkkpggaalaaDrw6
import Derived.Test.YthflkkkpggaalaaDrw18
import Derived.Test.YthflkkkpggaalaaSeq3
import Derived.Test.YthflkkkpggaalaaK5
import Derived.Test.YthflkkkpggaalaaPost
import Derived.Test.YthflkkkpggaalaaJoin
import Derived.WalkKit
import Derived.ProofKit
import Derived.OpenShut
import Derived.ChangeMaps5
namespace Go.Proofs.Ythflkkkpggaalaa.fnExactUncoveredArea
open Go.ChangeShapes Go.WideShapes Go.ChangeAt Go.RowKit Go.ChangeMaps
set_option linter.unusedVariables false

theorem own : ownKnob Try.prog.godebug = none := by kernel_rfl

set_option maxRecDepth 100000 in
set_option maxHeartbeats 8000000 in
theorem walk_in (v0 : Value) (D0 : Drw) (w : World) (hsum : dSz D0 ≤ 1048576) (hv0 : DL w v0 D0) :
    Calls Try.prog 3 #[v0] w fun e w' => e = .returned (.bool true) ∧ Below w.heap.size w w' := by
  have HS0 := Lib.hid (show dSz D0 ≤ 1048576 by omega)
  have HV0 := Lib.hid hv0
  obtain ⟨ao0, n0, c0, bo0, m0, d0, rfl, _, _, _, _, _, _⟩ := hv0.out
  clear hv0
  go_enter Try.func3, Try.ntmps3
  have HW := Lib.hid (show Below w.heap.size w (w.alloc (.cells #[.int .i64 D0.wd, .int .i64 D0.hg, .slice ao0 n0 c0, .slice bo0 m0 d0] 25)) from one_alloc _)
  have ha := World.alloc_heap_new w (.cells #[.int .i64 D0.wd, .int .i64 D0.hg, .slice ao0 n0 c0, .slice bo0 m0 d0] 25)
  have HA0 := Lib.hid ha
  clear ha
  have HL0 := Lib.hid (lft_ok (l := (1048576 : Int)) (n := dSz D0) (by omega))
  have hd0 : decide ((1048576 : Int) - (dSz D0 : Int) < 0) = false := by simp; omega
  go_wp2_with fail
  refine (szDr_any _ D0 ((1048576 : Int)) _ (by omega) (by omega) (HV0.out.below HW.out)).mono ?_
  rintro e w1 ⟨rfl, g1⟩
  replace HA0 := Lib.hid ((g1.block _ (blk_lt HA0.out)).trans HA0.out)
  replace HW := Lib.hid (bseq HW.out g1)
  clear g1
  have hza0 := blk_lt HA0.out
  have a0_0 := (cell_of_arr HA0.out (j := 0) rfl).1
  have a0_1 := (cell_of_arr HA0.out (j := 1) rfl).1
  have a0_2 := (cell_of_arr HA0.out (j := 2) rfl).1
  have a0_3 := (cell_of_arr HA0.out (j := 3) rfl).1
  rw [HL0.out]
  go_wp2_with fail
  refine (toDr_own _ D0 _ HS0.out (HV0.out.below HW.out)).mono ?_
  rintro e w2 ⟨v2, rfl, o2, g2⟩
  clear hza0 a0_0 a0_1 a0_2 a0_3
  replace HA0 := Lib.hid ((g2.block _ (blk_lt HA0.out)).trans HA0.out)
  replace HW := Lib.hid (bseq HW.out g2)
  clear g2
  have hza0 := blk_lt HA0.out
  have a0_0 := (cell_of_arr HA0.out (j := 0) rfl).1
  have a0_1 := (cell_of_arr HA0.out (j := 1) rfl).1
  have a0_2 := (cell_of_arr HA0.out (j := 2) rfl).1
  have a0_3 := (cell_of_arr HA0.out (j := 3) rfl).1
  have O2 := Lib.hid o2
  clear o2
  go_wp2_with fail
  refine (uncov_spec _ D0 _ (DO.view O2.out)).mono ?_
  rintro e w3 ⟨rfl, g3⟩
  clear hza0 a0_0 a0_1 a0_2 a0_3
  replace HA0 := Lib.hid ((g3.block _ (blk_lt HA0.out)).trans HA0.out)
  replace O2 := Lib.hid (O2.out.below g3)
  replace HW := Lib.hid (bseq HW.out g3)
  clear g3
  have hza0 := blk_lt HA0.out
  have a0_0 := (cell_of_arr HA0.out (j := 0) rfl).1
  have a0_1 := (cell_of_arr HA0.out (j := 1) rfl).1
  have a0_2 := (cell_of_arr HA0.out (j := 2) rfl).1
  have a0_3 := (cell_of_arr HA0.out (j := 3) rfl).1
  clear O2
  have HLO0 := Lib.hid HW.out.size
  have HZL0_0 := Lib.hid (blk_lt HA0.out)
  go_wp2_with fail
  refine (toDr_own _ D0 _ HS0.out (HV0.out.below HW.out)).mono ?_
  rintro e w4 ⟨v4, rfl, o4, g4⟩
  clear hza0 a0_0 a0_1 a0_2 a0_3
  replace HA0 := Lib.hid ((g4.block _ (blk_lt HA0.out)).trans HA0.out)
  replace HW := Lib.hid (bseq HW.out g4)
  clear g4
  have hza0 := blk_lt HA0.out
  have a0_0 := (cell_of_arr HA0.out (j := 0) rfl).1
  have a0_1 := (cell_of_arr HA0.out (j := 1) rfl).1
  have a0_2 := (cell_of_arr HA0.out (j := 2) rfl).1
  have a0_3 := (cell_of_arr HA0.out (j := 3) rfl).1
  have O4 := Lib.hid o4
  clear o4
  obtain ⟨p4, b4, rfl, _, _, _, _, _⟩ := O4.out.out
  go_wp2_with fail
  refine (uncov_impl _ D0 _ (DO.view (O4.out.below (one_alloc _)))).mono ?_
  rintro e w5 ⟨rfl, g5⟩
  clear hza0 a0_0 a0_1 a0_2 a0_3
  have HX0 := Lib.hid ((g5.block _ (by simp)).trans (World.alloc_heap_new w4 (.cells #[.int .i64 D0.wd, .int .i64 D0.hg, .slice (some ⟨p4, 0, none⟩) D0.ps.length D0.ps.length, .slice (some ⟨b4, 0, none⟩) D0.fs.length D0.fs.length] 32)))
  replace g5 := bseq (one_alloc _) g5
  replace HA0 := Lib.hid ((g5.block _ (blk_lt HA0.out)).trans HA0.out)
  replace O4 := Lib.hid (O4.out.below g5)
  replace HW := Lib.hid (bseq HW.out g5)
  clear g5
  have hza0 := blk_lt HA0.out
  have a0_0 := (cell_of_arr HA0.out (j := 0) rfl).1
  have a0_1 := (cell_of_arr HA0.out (j := 1) rfl).1
  have a0_2 := (cell_of_arr HA0.out (j := 2) rfl).1
  have a0_3 := (cell_of_arr HA0.out (j := 3) rfl).1
  have hzHX0 := blk_lt HX0.out
  have hx0_0 := (cell_of_arr HX0.out (j := 0) rfl).1
  have hx0_1 := (cell_of_arr HX0.out (j := 1) rfl).1
  have hx0_2 := (cell_of_arr HX0.out (j := 2) rfl).1
  have hx0_3 := (cell_of_arr HX0.out (j := 3) rfl).1
  go_wp2
  refine Seq3.wp_region w5 [0, 1] [(2, []), (3, [4])] (by kernel_rfl) (by kernel_rfl) rfl (Below.refl _ _) (fun w1 hh hb1 => ?_)
  repeat (first | (refine Seq2.fl_row (by decide) ?_) | (refine Seq2.fl_skip (by kernel_rfl) (by kernel_rfl) ?_ ?_; (focus (go_simp; (first | done | (simp [undef]; done)))); (try simp only [Act.put, List.setIfInBounds_toArray, List.set_cons_zero, List.set_cons_succ])) | (refine Seq2.fl_val (by kernel_rfl) (by kernel_rfl) ?_ ?_; (focus (go_simp; done)); apply Exists.intro; refine ⟨fun w2 hw2 => ?_, ?_⟩; (focus (obtain ⟨hc, hf⟩ := bcell hw2; clear hw2; go_simp; (first | done | with_reducible rfl | (with_reducible exact eql2 _ _ _) | (with_reducible exact neq2 _ _ _)))); (try simp only [Act.put, List.setIfInBounds_toArray, List.set_cons_zero, List.set_cons_succ])))
  refine Seq2.fl_nil ?_
  refine Seq3.c3_one (by kernel_rfl) rfl ?_
  gi_wp2_with fail
  refine ⟨trivial, rfl, (callsIn_wide.2 (toDr_own _ D0 _ HS0.out (HV0.out.below (HW.out.trans (hb1.mono HW.out.size))))).mono ?_⟩
  rintro e w6 ⟨v6, rfl, o6, g6⟩
  have HB6 := Lib.hid (hb1.trans (g6.mono hb1.size))
  clear g6
  have O6 := Lib.hid o6
  clear o6
  clear hh
  gi_wp2
  refine ⟨HB6.out, ?_⟩
  refine Seq3.c3_one (by kernel_rfl) rfl ?_
  gi_wp2_with fail
  refine ⟨trivial, rfl, (callsIn_wide.2 (eqDr_same _ _ D0 _ (DO.view (O4.out.below HB6.out)) (DO.view O6.out))).mono ?_⟩
  rintro e w7 ⟨rfl, g7⟩
  have HB7 := Lib.hid (HB6.out.trans (g7.mono HB6.out.size))
  replace O6 := Lib.hid (O6.out.below g7)
  clear g7
  gi_wp2
  refine ⟨HB7.out, ?_⟩
  refine Seq3.mid 4 ?_
  simp only [List.drop_succ_cons, List.drop_zero]
  repeat (first | (refine Seq2.fl_row (by decide) ?_) | (refine Seq2.fl_skip (by kernel_rfl) (by kernel_rfl) ?_ ?_; (focus (go_simp; (first | done | (simp [undef]; done)))); (try simp only [Act.put, List.setIfInBounds_toArray, List.set_cons_zero, List.set_cons_succ])) | (refine Seq2.fl_val (by kernel_rfl) (by kernel_rfl) ?_ ?_; (focus (go_simp; done)); apply Exists.intro; refine ⟨fun w2 hw2 => ?_, ?_⟩; (focus (obtain ⟨hc, hf⟩ := bcell hw2; clear hw2; go_simp; (first | done | with_reducible rfl | (with_reducible exact eql2 _ _ _) | (with_reducible exact neq2 _ _ _)))); (try simp only [Act.put, List.setIfInBounds_toArray, List.set_cons_zero, List.set_cons_succ])))
  refine Seq2.fl_nil ?_
  refine Seq3.c3_nil (by kernel_rfl) ?_
  clear hb1
  have g0 := HB7.out
  clear hza0 a0_0 a0_1 a0_2 a0_3 hzHX0 hx0_0 hx0_1 hx0_2 hx0_3
  replace HA0 := Lib.hid ((g0.block _ (blk_lt HA0.out)).trans HA0.out)
  replace HX0 := Lib.hid ((g0.block _ (blk_lt HX0.out)).trans HX0.out)
  replace O4 := Lib.hid (O4.out.below g0)
  replace HW := Lib.hid (bseq HW.out g0)
  clear g0
  have hza0 := blk_lt HA0.out
  have a0_0 := (cell_of_arr HA0.out (j := 0) rfl).1
  have a0_1 := (cell_of_arr HA0.out (j := 1) rfl).1
  have a0_2 := (cell_of_arr HA0.out (j := 2) rfl).1
  have a0_3 := (cell_of_arr HA0.out (j := 3) rfl).1
  have hzHX0 := blk_lt HX0.out
  have hx0_0 := (cell_of_arr HX0.out (j := 0) rfl).1
  have hx0_1 := (cell_of_arr HX0.out (j := 1) rfl).1
  have hx0_2 := (cell_of_arr HX0.out (j := 2) rfl).1
  have hx0_3 := (cell_of_arr HX0.out (j := 3) rfl).1
  clear O6
  clear hza0 a0_0 a0_1 a0_2 a0_3 hzHX0 hx0_0 hx0_1 hx0_2 hx0_3
  clear HX0
  have hza0 := blk_lt HA0.out
  have a0_0 := (cell_of_arr HA0.out (j := 0) rfl).1
  have a0_1 := (cell_of_arr HA0.out (j := 1) rfl).1
  have a0_2 := (cell_of_arr HA0.out (j := 2) rfl).1
  have a0_3 := (cell_of_arr HA0.out (j := 3) rfl).1
  clear O4
  go_wp2
  go_ret
  exact ⟨rfl, HW.out⟩
set_option maxRecDepth 100000 in
set_option maxHeartbeats 4000000 in
theorem walk (v0 : Value) (D0 : Drw) (w : World) (hv0 : DL w v0 D0) :
    Calls Try.prog 3 #[v0] w fun e w' => e = .returned (.bool true) ∧ Below w.heap.size w w' := by
  by_cases hz0 : dSz D0 ≤ 1048576
  rotate_left
  · have HV0 := Lib.hid hv0
    obtain ⟨ao0, n0, c0, bo0, m0, d0, rfl, _, _, _, _, _, _⟩ := hv0.out
    clear hv0
    go_enter Try.func3, Try.ntmps3
    have HW := Lib.hid (show Below w.heap.size w (w.alloc (.cells #[.int .i64 D0.wd, .int .i64 D0.hg, .slice ao0 n0 c0, .slice bo0 m0 d0] 25)) from one_alloc _)
    have ha := World.alloc_heap_new w (.cells #[.int .i64 D0.wd, .int .i64 D0.hg, .slice ao0 n0 c0, .slice bo0 m0 d0] 25)
    have HA0 := Lib.hid ha
    clear ha
    have HL0 := Lib.hid (lft_no (l := (1048576 : Int)) (n := dSz D0) (by omega))
    go_wp2_with fail
    refine (szDr_any _ D0 ((1048576 : Int)) _ (by omega) (by omega) (HV0.out.below HW.out)).mono ?_
    rintro e w1 ⟨rfl, g1⟩
    replace HA0 := Lib.hid ((g1.block _ (blk_lt HA0.out)).trans HA0.out)
    replace HW := Lib.hid (bseq HW.out g1)
    clear g1
    have hza0 := blk_lt HA0.out
    have a0_0 := (cell_of_arr HA0.out (j := 0) rfl).1
    have a0_1 := (cell_of_arr HA0.out (j := 1) rfl).1
    have a0_2 := (cell_of_arr HA0.out (j := 2) rfl).1
    have a0_3 := (cell_of_arr HA0.out (j := 3) rfl).1
    rw [HL0.out]
    go_wp2
    go_ret
    exact ⟨rfl, HW.out⟩
  exact walk_in v0 D0 w (by omega) hv0

set_option maxRecDepth 100000 in
theorem lifted (os : Os) (started : os.Started) (H : Type) (enc : TypeId × Value → H) :
    ReturnsInHanded {} Try.checked os 3 .any (Rows.fnExactUncoveredAreaSpec.pre6 enc Try.prog Try.f3 Rows.fnExactUncoveredAreaRow.domain false) (Rows.fnExactUncoveredAreaSpec.post enc Try.prog Try.f3 false true false false) := by
  refine returnsInHanded_of_change (C := Try.checked) own started (by kernel_rfl) Try.func3
    (ChangeSpec.witness6 (enc := enc) (C := Try.checked) false ⟨#[], #[.agg #[.int .i64 0, .int .i64 0, .slice none 0 0, .slice none 0 0]], []⟩ 8 (by kernel_rfl) (by kernel_rfl) (by kernel_rfl) (by kernel_rfl)) ?_
  intro W base args ds gs before hval0 hW hcnd _
  have hval : ∀ (j : Nat) t v, Try.f3.params[j]? = some t → args[j]? = some v → Value.okWide Try.prog W .any base t v := hval0
  have hW' := hW
  obtain ⟨p, q, hA0, hV, rfl, hfz, hnd⟩ := hW
  have hA : DataW.TrodAll enc Try.prog W 0 (fun _ => true) true Try.f3.params.toList args.toList ds p := hA0
  rw [Try.params3] at hA hval
  obtain ⟨v0, vs0, d0, ds0, p0, q0, hargs, rfl, rfl, h0, r0⟩ := trodAll_cons hA
  obtain ⟨rfl, rfl, rfl⟩ := trodAll_nil r0
  obtain rfl : args = #[v0] := by cases args; simp_all
  obtain ⟨rfl, rfl⟩ := trodVars_none hV
  clear hA0 hval0
  have l0 : ∀ x ∈ p0, x.block < W.heap.size := fun x hx => hW'.lt x (by simp [hx])
  have e0 := hval 0 25 v0 rfl rfl
  obtain ⟨D0, lv0⟩ := open_draw e0 h0
  have hc := walk v0 D0 W lv0
  refine hc.mono fun e W' ⟨he, hg⟩ => ?_
  subst he
  exact ⟨_, rfl, post_below (pa := (p0 ++ [])) (pv := []) hW' (fun _ _ _ => (trodAll_cons_mk (shut_bool Try.underlying4 _) trodAll_mk0)) (fun sp hsp => (trodAll_cons_mk (trod_again (by decide) h0 l0 hg sp (fun x hx => hsp x (by simp [hx]))) trodAll_mk0)) (fun _ _ => rfl) (by simp)
    hg (ok_one (by kernel_rfl) rfl (okWide_bool_mk Try.underlying4 _))⟩

set_option maxHeartbeats 8000000 in
theorem joined : joinedFacts Try.pinned.checked.prog 3 Try.f3 Rows.fnExactUncoveredAreaSpec Rows.fnExactUncoveredAreaRow = true := by
  unfold joinedFacts
  repeat' (with_reducible refine andI ?_ ?_)
  rotate_left 1
  · exact jLaid
  · exact jRowed
  rotate_left 21
  · exact jHeard
  · exact jEnter
  · exact jLifts
  · exact jMake
  all_goals as_aux_lemma => kernel_rfl

theorem over : Rows.fnExactUncoveredAreaRow.holds Try.pinned (OpenSpec.ofChange Rows.fnExactUncoveredAreaSpec) :=
  OpenClaim.holds_of_wide 3 Try.f3 rfl rfl rfl rfl rfl rfl rfl ⟨rfl, rfl, rfl, rfl, rfl⟩ rfl rfl rfl rfl rfl (by kernel_rfl) Try.func3 joined
    (of_decide_eq_true (by kernel_rfl)) (by unfold Func.isWrapper; first | (rw [if_pos (by decide +kernel)]; kernel_rfl) | (rw [if_neg (by decide +kernel)]; exact ⟨rfl, rfl⟩))
    (fun os started H enc _ => lifted os started H enc)

theorem proved : Rows.FnExactUncoveredAreaSaid :=
  over
#print axioms proved
end Go.Proofs.Ythflkkkpggaalaa.fnExactUncoveredArea
