/- FnExactFaceAt returns true at every drawing and every point, and leaves them as they were. Condition: none. -/
import Derived.Test.YthflkkkpggaalaaRows
import Derived.Test.YthflkkkpggaalaaDrw6
import Derived.Test.YthflkkkpggaalaaDrw20
import Derived.Test.YthflkkkpggaalaaSeq3
import Derived.Test.YthflkkkpggaalaaK5
import Derived.Test.YthflkkkpggaalaaPost
import Derived.Test.YthflkkkpggaalaaJoin
import Derived.WalkKit
import Derived.ProofKit
import Derived.OpenShut
import Derived.ChangeMaps5
namespace Go.Proofs.Ythflkkkpggaalaa.fnExactFaceAt
open Go.ChangeShapes Go.WideShapes Go.ChangeAt Go.RowKit Go.ChangeMaps
set_option linter.unusedVariables false

theorem own : ownKnob Try.prog.godebug = none := by kernel_rfl

set_option maxRecDepth 100000 in
set_option maxHeartbeats 8000000 in
theorem walk_in (v0 : Value) (D0 : Drw) (x1 y1 : Int) (w : World) (hsum : dSz D0 ≤ 1048576) (hv0 : DL w v0 D0) (hx1 : (Lit.int .i64 x1).wf = true) (hy1 : (Lit.int .i64 y1).wf = true) :
    Calls Try.prog 4 #[v0, .agg #[.int .i64 x1, .int .i64 y1]] w fun e w' => e = .returned (.bool true) ∧ Below w.heap.size w w' := by
  have HS0 := Lib.hid (show dSz D0 ≤ 1048576 by omega)
  have HV0 := Lib.hid hv0
  obtain ⟨ao0, n0, c0, bo0, m0, d0, rfl, _, _, _, _, _, _⟩ := hv0.out
  clear hv0
  go_enter Try.func4, Try.ntmps4
  have HW := Lib.hid (show Below w.heap.size w ((w.alloc (.cells #[.int .i64 D0.wd, .int .i64 D0.hg, .slice ao0 n0 c0, .slice bo0 m0 d0] 25)).alloc (.cells #[.int .i64 x1, .int .i64 y1] 37)) from two_allocs _ _)
  have ha := World.alloc_heap_new w (.cells #[.int .i64 D0.wd, .int .i64 D0.hg, .slice ao0 n0 c0, .slice bo0 m0 d0] 25)
  replace ha := (Below.heap_alloc (w.alloc (.cells #[.int .i64 D0.wd, .int .i64 D0.hg, .slice ao0 n0 c0, .slice bo0 m0 d0] 25)) (.cells #[.int .i64 x1, .int .i64 y1] 37) (w.heap.size) (by simp; try omega)).trans ha
  have HA0 := Lib.hid ha
  clear ha
  have ha := World.alloc_heap_new (w.alloc (.cells #[.int .i64 D0.wd, .int .i64 D0.hg, .slice ao0 n0 c0, .slice bo0 m0 d0] 25)) (.cells #[.int .i64 x1, .int .i64 y1] 37)
  rw [show (w.alloc (.cells #[.int .i64 D0.wd, .int .i64 D0.hg, .slice ao0 n0 c0, .slice bo0 m0 d0] 25)).heap.size = w.heap.size + 1 by simp] at ha
  have HA1 := Lib.hid ha
  clear ha
  have HL0 := Lib.hid (lft_ok (l := (1048576 : Int)) (n := dSz D0) (by omega))
  have hd0 : decide ((1048576 : Int) - (dSz D0 : Int) < 0) = false := by simp; omega
  go_wp2_with fail
  refine (szDr_any _ D0 ((1048576 : Int)) _ (by omega) (by omega) (HV0.out.below HW.out)).mono ?_
  rintro e w1 ⟨rfl, g1⟩
  replace HA0 := Lib.hid ((g1.block _ (blk_lt HA0.out)).trans HA0.out)
  replace HA1 := Lib.hid ((g1.block _ (blk_lt HA1.out)).trans HA1.out)
  replace HW := Lib.hid (bseq HW.out g1)
  clear g1
  have hza0 := blk_lt HA0.out
  have a0_0 := (cell_of_arr HA0.out (j := 0) rfl).1
  have a0_1 := (cell_of_arr HA0.out (j := 1) rfl).1
  have a0_2 := (cell_of_arr HA0.out (j := 2) rfl).1
  have a0_3 := (cell_of_arr HA0.out (j := 3) rfl).1
  have hza1 := blk_lt HA1.out
  have a1_0 := (cell_of_arr HA1.out (j := 0) rfl).1
  have a1_1 := (cell_of_arr HA1.out (j := 1) rfl).1
  rw [HL0.out]
  go_wp2
  refine Seq3.wp_region w1 [0, 2] [(1, []), (3, []), (4, [5, 6, 7, 8, 9])] (by kernel_rfl) (by kernel_rfl) rfl (Below.refl _ _) (fun w1 hh hb1 => ?_)
  repeat (first | (refine Seq2.fl_row (by decide) ?_) | (refine Seq2.fl_skip (by kernel_rfl) (by kernel_rfl) ?_ ?_; (focus (go_simp; (first | done | (simp [undef]; done)))); (try simp only [Act.put, List.setIfInBounds_toArray, List.set_cons_zero, List.set_cons_succ])) | (refine Seq2.fl_val (by kernel_rfl) (by kernel_rfl) ?_ ?_; (focus (go_simp; done)); apply Exists.intro; refine ⟨fun w2 hw2 => ?_, ?_⟩; (focus (obtain ⟨hc, hf⟩ := bcell hw2; clear hw2; go_simp; (first | done | with_reducible rfl | (with_reducible exact eql2 _ _ _) | (with_reducible exact neq2 _ _ _)))); (try simp only [Act.put, List.setIfInBounds_toArray, List.set_cons_zero, List.set_cons_succ])))
  refine Seq2.fl_nil ?_
  refine Seq3.c3_one (by kernel_rfl) rfl ?_
  gi_wp2_with fail
  refine ⟨trivial, rfl, (callsIn_wide.2 (toDr_own _ D0 _ HS0.out (HV0.out.below (HW.out.trans (hb1.mono HW.out.size))))).mono ?_⟩
  rintro e w2 ⟨v2, rfl, o2, g2⟩
  have HB2 := Lib.hid (hb1.trans (g2.mono hb1.size))
  clear g2
  have O2 := Lib.hid o2
  clear o2
  clear hh
  gi_wp2
  refine ⟨HB2.out, ?_⟩
  refine Seq3.c3_one (by kernel_rfl) rfl ?_
  gi_wp2_with fail
  refine ⟨trivial, rfl, (callsIn_wide.2 (toPoint_any x1 y1 _)).mono ?_⟩
  rintro e w3 ⟨rfl, g3⟩
  have HB3 := Lib.hid (HB2.out.trans (g3.mono HB2.out.size))
  replace O2 := Lib.hid (O2.out.below g3)
  clear g3
  gi_wp2
  refine ⟨HB3.out, ?_⟩
  refine Seq3.c3_one (by kernel_rfl) rfl ?_
  gi_wp2_with fail
  refine ⟨trivial, rfl, (callsIn_wide.2 (fat_spec _ D0 x1 y1 _ (DO.view O2.out))).mono ?_⟩
  rintro e w4 ⟨rfl, g4⟩
  have HB4 := Lib.hid (HB3.out.trans (g4.mono HB3.out.size))
  replace O2 := Lib.hid (O2.out.below g4)
  clear g4
  gi_wp2
  refine ⟨HB4.out, ?_⟩
  refine Seq3.mid 5 ?_
  simp only [List.drop_succ_cons, List.drop_zero]
  repeat (first | (refine Seq2.fl_row (by decide) ?_) | (refine Seq2.fl_skip (by kernel_rfl) (by kernel_rfl) ?_ ?_; (focus (go_simp; (first | done | (simp [undef]; done)))); (try simp only [Act.put, List.setIfInBounds_toArray, List.set_cons_zero, List.set_cons_succ])) | (refine Seq2.fl_val (by kernel_rfl) (by kernel_rfl) ?_ ?_; (focus (go_simp; done)); apply Exists.intro; refine ⟨fun w2 hw2 => ?_, ?_⟩; (focus (obtain ⟨hc, hf⟩ := bcell hw2; clear hw2; go_simp; (first | done | with_reducible rfl | (with_reducible exact eql2 _ _ _) | (with_reducible exact neq2 _ _ _)))); (try simp only [Act.put, List.setIfInBounds_toArray, List.set_cons_zero, List.set_cons_succ])))
  refine Seq2.fl_nil ?_
  refine Seq3.c3_nil (by kernel_rfl) ?_
  clear hb1
  have g0 := HB4.out
  clear hza0 a0_0 a0_1 a0_2 a0_3 hza1 a1_0 a1_1
  replace HA0 := Lib.hid ((g0.block _ (blk_lt HA0.out)).trans HA0.out)
  replace HA1 := Lib.hid ((g0.block _ (blk_lt HA1.out)).trans HA1.out)
  replace HW := Lib.hid (bseq HW.out g0)
  clear g0
  have hza0 := blk_lt HA0.out
  have a0_0 := (cell_of_arr HA0.out (j := 0) rfl).1
  have a0_1 := (cell_of_arr HA0.out (j := 1) rfl).1
  have a0_2 := (cell_of_arr HA0.out (j := 2) rfl).1
  have a0_3 := (cell_of_arr HA0.out (j := 3) rfl).1
  have hza1 := blk_lt HA1.out
  have a1_0 := (cell_of_arr HA1.out (j := 0) rfl).1
  have a1_1 := (cell_of_arr HA1.out (j := 1) rfl).1
  clear O2
  have HLO0 := Lib.hid HW.out.size
  have HZL0_0 := Lib.hid (blk_lt HA0.out)
  have HZL0_1 := Lib.hid (blk_lt HA1.out)
  go_wp2_with fail
  refine (toDr_own _ D0 _ HS0.out (HV0.out.below HW.out)).mono ?_
  rintro e w5 ⟨v5, rfl, o5, g5⟩
  clear hza0 a0_0 a0_1 a0_2 a0_3 hza1 a1_0 a1_1
  replace HA0 := Lib.hid ((g5.block _ (blk_lt HA0.out)).trans HA0.out)
  replace HA1 := Lib.hid ((g5.block _ (blk_lt HA1.out)).trans HA1.out)
  replace HW := Lib.hid (bseq HW.out g5)
  clear g5
  have hza0 := blk_lt HA0.out
  have a0_0 := (cell_of_arr HA0.out (j := 0) rfl).1
  have a0_1 := (cell_of_arr HA0.out (j := 1) rfl).1
  have a0_2 := (cell_of_arr HA0.out (j := 2) rfl).1
  have a0_3 := (cell_of_arr HA0.out (j := 3) rfl).1
  have hza1 := blk_lt HA1.out
  have a1_0 := (cell_of_arr HA1.out (j := 0) rfl).1
  have a1_1 := (cell_of_arr HA1.out (j := 1) rfl).1
  have O5 := Lib.hid o5
  clear o5
  obtain ⟨p5, b5, rfl, _, _, _, _, _⟩ := O5.out.out
  go_wp2
  clear hza0 a0_0 a0_1 a0_2 a0_3 hza1 a1_0 a1_1
  have gq := one_alloc (w := w5) (.cells #[.int .i64 D0.wd, .int .i64 D0.hg, .slice (some ⟨p5, 0, none⟩) D0.ps.length D0.ps.length, .slice (some ⟨b5, 0, none⟩) D0.fs.length D0.fs.length] 32)
  have HX0 := Lib.hid (World.alloc_heap_new w5 (.cells #[.int .i64 D0.wd, .int .i64 D0.hg, .slice (some ⟨p5, 0, none⟩) D0.ps.length D0.ps.length, .slice (some ⟨b5, 0, none⟩) D0.fs.length D0.fs.length] 32))
  replace HA0 := Lib.hid ((gq.block _ (blk_lt HA0.out)).trans HA0.out)
  replace HA1 := Lib.hid ((gq.block _ (blk_lt HA1.out)).trans HA1.out)
  replace O5 := Lib.hid (O5.out.below gq)
  replace HW := Lib.hid (bseq HW.out gq)
  clear gq
  generalize hwq : w5.alloc (.cells #[.int .i64 D0.wd, .int .i64 D0.hg, .slice (some ⟨p5, 0, none⟩) D0.ps.length D0.ps.length, .slice (some ⟨b5, 0, none⟩) D0.fs.length D0.fs.length] 32) = w6 at *
  clear hwq
  have hza0 := blk_lt HA0.out
  have a0_0 := (cell_of_arr HA0.out (j := 0) rfl).1
  have a0_1 := (cell_of_arr HA0.out (j := 1) rfl).1
  have a0_2 := (cell_of_arr HA0.out (j := 2) rfl).1
  have a0_3 := (cell_of_arr HA0.out (j := 3) rfl).1
  have hza1 := blk_lt HA1.out
  have a1_0 := (cell_of_arr HA1.out (j := 0) rfl).1
  have a1_1 := (cell_of_arr HA1.out (j := 1) rfl).1
  have hzHX0 := blk_lt HX0.out
  have hx0_0 := (cell_of_arr HX0.out (j := 0) rfl).1
  have hx0_1 := (cell_of_arr HX0.out (j := 1) rfl).1
  have hx0_2 := (cell_of_arr HX0.out (j := 2) rfl).1
  have hx0_3 := (cell_of_arr HX0.out (j := 3) rfl).1
  refine Seq3.wp_region w6 [0, 1] [(2, []), (3, [4, 5, 6, 7, 8])] (by kernel_rfl) (by kernel_rfl) rfl (Below.refl _ _) (fun w1 hh hb1 => ?_)
  repeat (first | (refine Seq2.fl_row (by decide) ?_) | (refine Seq2.fl_skip (by kernel_rfl) (by kernel_rfl) ?_ ?_; (focus (go_simp; (first | done | (simp [undef]; done)))); (try simp only [Act.put, List.setIfInBounds_toArray, List.set_cons_zero, List.set_cons_succ])) | (refine Seq2.fl_val (by kernel_rfl) (by kernel_rfl) ?_ ?_; (focus (go_simp; done)); apply Exists.intro; refine ⟨fun w2 hw2 => ?_, ?_⟩; (focus (obtain ⟨hc, hf⟩ := bcell hw2; clear hw2; go_simp; (first | done | with_reducible rfl | (with_reducible exact eql2 _ _ _) | (with_reducible exact neq2 _ _ _)))); (try simp only [Act.put, List.setIfInBounds_toArray, List.set_cons_zero, List.set_cons_succ])))
  refine Seq2.fl_nil ?_
  refine Seq3.c3_one (by kernel_rfl) rfl ?_
  gi_wp2_with fail
  refine ⟨trivial, rfl, (callsIn_wide.2 (toPoint_any x1 y1 _)).mono ?_⟩
  rintro e w7 ⟨rfl, g7⟩
  have HB7 := Lib.hid (hb1.trans (g7.mono hb1.size))
  clear g7
  clear hh
  gi_wp2
  refine ⟨HB7.out, ?_⟩
  refine Seq3.c3_one (by kernel_rfl) rfl ?_
  gi_wp2_with fail
  refine ⟨trivial, rfl, (callsIn_wide.2 (fat_impl _ D0 x1 y1 _ (DO.view (O5.out.below HB7.out)))).mono ?_⟩
  rintro e w8 ⟨rfl, g8⟩
  have HB8 := Lib.hid (HB7.out.trans (g8.mono HB7.out.size))
  clear g8
  gi_wp2
  refine ⟨HB8.out, ?_⟩
  refine Seq3.mid 4 ?_
  simp only [List.drop_succ_cons, List.drop_zero]
  repeat (first | (refine Seq2.fl_row (by decide) ?_) | (refine Seq2.fl_skip (by kernel_rfl) (by kernel_rfl) ?_ ?_; (focus (go_simp; (first | done | (simp [undef]; done)))); (try simp only [Act.put, List.setIfInBounds_toArray, List.set_cons_zero, List.set_cons_succ])) | (refine Seq2.fl_val (by kernel_rfl) (by kernel_rfl) ?_ ?_; (focus (go_simp; done)); apply Exists.intro; refine ⟨fun w2 hw2 => ?_, ?_⟩; (focus (obtain ⟨hc, hf⟩ := bcell hw2; clear hw2; go_simp; (first | done | with_reducible rfl | (with_reducible exact eql2 _ _ _) | (with_reducible exact neq2 _ _ _)))); (try simp only [Act.put, List.setIfInBounds_toArray, List.set_cons_zero, List.set_cons_succ])))
  refine Seq2.fl_nil ?_
  refine Seq3.c3_nil (by kernel_rfl) ?_
  clear hb1
  have g0 := HB8.out
  clear hza0 a0_0 a0_1 a0_2 a0_3 hza1 a1_0 a1_1 hzHX0 hx0_0 hx0_1 hx0_2 hx0_3
  replace HA0 := Lib.hid ((g0.block _ (blk_lt HA0.out)).trans HA0.out)
  replace HA1 := Lib.hid ((g0.block _ (blk_lt HA1.out)).trans HA1.out)
  replace HX0 := Lib.hid ((g0.block _ (blk_lt HX0.out)).trans HX0.out)
  replace O5 := Lib.hid (O5.out.below g0)
  replace HW := Lib.hid (bseq HW.out g0)
  clear g0
  have hza0 := blk_lt HA0.out
  have a0_0 := (cell_of_arr HA0.out (j := 0) rfl).1
  have a0_1 := (cell_of_arr HA0.out (j := 1) rfl).1
  have a0_2 := (cell_of_arr HA0.out (j := 2) rfl).1
  have a0_3 := (cell_of_arr HA0.out (j := 3) rfl).1
  have hza1 := blk_lt HA1.out
  have a1_0 := (cell_of_arr HA1.out (j := 0) rfl).1
  have a1_1 := (cell_of_arr HA1.out (j := 1) rfl).1
  have hzHX0 := blk_lt HX0.out
  have hx0_0 := (cell_of_arr HX0.out (j := 0) rfl).1
  have hx0_1 := (cell_of_arr HX0.out (j := 1) rfl).1
  have hx0_2 := (cell_of_arr HX0.out (j := 2) rfl).1
  have hx0_3 := (cell_of_arr HX0.out (j := 3) rfl).1
  go_wp2
  refine Seq3.wp_region w8 [0, 1] [(2, []), (3, [4])] (by kernel_rfl) (by kernel_rfl) rfl (Below.refl _ _) (fun w1 hh hb1 => ?_)
  repeat (first | (refine Seq2.fl_row (by decide) ?_) | (refine Seq2.fl_skip (by kernel_rfl) (by kernel_rfl) ?_ ?_; (focus (go_simp; (first | done | (simp [undef]; done)))); (try simp only [Act.put, List.setIfInBounds_toArray, List.set_cons_zero, List.set_cons_succ])) | (refine Seq2.fl_val (by kernel_rfl) (by kernel_rfl) ?_ ?_; (focus (go_simp; done)); apply Exists.intro; refine ⟨fun w2 hw2 => ?_, ?_⟩; (focus (obtain ⟨hc, hf⟩ := bcell hw2; clear hw2; go_simp; (first | done | with_reducible rfl | (with_reducible exact eql2 _ _ _) | (with_reducible exact neq2 _ _ _)))); (try simp only [Act.put, List.setIfInBounds_toArray, List.set_cons_zero, List.set_cons_succ])))
  refine Seq2.fl_nil ?_
  refine Seq3.c3_one (by kernel_rfl) rfl ?_
  gi_wp2_with fail
  refine ⟨trivial, rfl, (callsIn_wide.2 (toDr_own _ D0 _ HS0.out (HV0.out.below (HW.out.trans (hb1.mono HW.out.size))))).mono ?_⟩
  rintro e w9 ⟨v9, rfl, o9, g9⟩
  have HB9 := Lib.hid (hb1.trans (g9.mono hb1.size))
  clear g9
  have O9 := Lib.hid o9
  clear o9
  clear hh
  gi_wp2
  refine ⟨HB9.out, ?_⟩
  refine Seq3.c3_one (by kernel_rfl) rfl ?_
  gi_wp2_with fail
  refine ⟨trivial, rfl, (callsIn_wide.2 (eqDr_same _ _ D0 _ (DO.view (O5.out.below HB9.out)) (DO.view O9.out))).mono ?_⟩
  rintro e w10 ⟨rfl, g10⟩
  have HB10 := Lib.hid (HB9.out.trans (g10.mono HB9.out.size))
  replace O9 := Lib.hid (O9.out.below g10)
  clear g10
  gi_wp2
  refine ⟨HB10.out, ?_⟩
  refine Seq3.mid 4 ?_
  simp only [List.drop_succ_cons, List.drop_zero]
  repeat (first | (refine Seq2.fl_row (by decide) ?_) | (refine Seq2.fl_skip (by kernel_rfl) (by kernel_rfl) ?_ ?_; (focus (go_simp; (first | done | (simp [undef]; done)))); (try simp only [Act.put, List.setIfInBounds_toArray, List.set_cons_zero, List.set_cons_succ])) | (refine Seq2.fl_val (by kernel_rfl) (by kernel_rfl) ?_ ?_; (focus (go_simp; done)); apply Exists.intro; refine ⟨fun w2 hw2 => ?_, ?_⟩; (focus (obtain ⟨hc, hf⟩ := bcell hw2; clear hw2; go_simp; (first | done | with_reducible rfl | (with_reducible exact eql2 _ _ _) | (with_reducible exact neq2 _ _ _)))); (try simp only [Act.put, List.setIfInBounds_toArray, List.set_cons_zero, List.set_cons_succ])))
  refine Seq2.fl_nil ?_
  refine Seq3.c3_nil (by kernel_rfl) ?_
  clear hb1
  have g0 := HB10.out
  clear hza0 a0_0 a0_1 a0_2 a0_3 hza1 a1_0 a1_1 hzHX0 hx0_0 hx0_1 hx0_2 hx0_3
  replace HA0 := Lib.hid ((g0.block _ (blk_lt HA0.out)).trans HA0.out)
  replace HA1 := Lib.hid ((g0.block _ (blk_lt HA1.out)).trans HA1.out)
  replace HX0 := Lib.hid ((g0.block _ (blk_lt HX0.out)).trans HX0.out)
  replace O5 := Lib.hid (O5.out.below g0)
  replace HW := Lib.hid (bseq HW.out g0)
  clear g0
  have hza0 := blk_lt HA0.out
  have a0_0 := (cell_of_arr HA0.out (j := 0) rfl).1
  have a0_1 := (cell_of_arr HA0.out (j := 1) rfl).1
  have a0_2 := (cell_of_arr HA0.out (j := 2) rfl).1
  have a0_3 := (cell_of_arr HA0.out (j := 3) rfl).1
  have hza1 := blk_lt HA1.out
  have a1_0 := (cell_of_arr HA1.out (j := 0) rfl).1
  have a1_1 := (cell_of_arr HA1.out (j := 1) rfl).1
  have hzHX0 := blk_lt HX0.out
  have hx0_0 := (cell_of_arr HX0.out (j := 0) rfl).1
  have hx0_1 := (cell_of_arr HX0.out (j := 1) rfl).1
  have hx0_2 := (cell_of_arr HX0.out (j := 2) rfl).1
  have hx0_3 := (cell_of_arr HX0.out (j := 3) rfl).1
  clear O9
  clear hza0 a0_0 a0_1 a0_2 a0_3 hza1 a1_0 a1_1 hzHX0 hx0_0 hx0_1 hx0_2 hx0_3
  clear HX0
  have hza0 := blk_lt HA0.out
  have a0_0 := (cell_of_arr HA0.out (j := 0) rfl).1
  have a0_1 := (cell_of_arr HA0.out (j := 1) rfl).1
  have a0_2 := (cell_of_arr HA0.out (j := 2) rfl).1
  have a0_3 := (cell_of_arr HA0.out (j := 3) rfl).1
  have hza1 := blk_lt HA1.out
  have a1_0 := (cell_of_arr HA1.out (j := 0) rfl).1
  have a1_1 := (cell_of_arr HA1.out (j := 1) rfl).1
  clear O5
  go_wp2
  go_ret
  exact ⟨rfl, HW.out⟩
set_option maxRecDepth 100000 in
set_option maxHeartbeats 4000000 in
theorem walk (v0 : Value) (D0 : Drw) (x1 y1 : Int) (w : World) (hv0 : DL w v0 D0) (hx1 : (Lit.int .i64 x1).wf = true) (hy1 : (Lit.int .i64 y1).wf = true) :
    Calls Try.prog 4 #[v0, .agg #[.int .i64 x1, .int .i64 y1]] w fun e w' => e = .returned (.bool true) ∧ Below w.heap.size w w' := by
  by_cases hz0 : dSz D0 ≤ 1048576
  rotate_left
  · have HV0 := Lib.hid hv0
    obtain ⟨ao0, n0, c0, bo0, m0, d0, rfl, _, _, _, _, _, _⟩ := hv0.out
    clear hv0
    go_enter Try.func4, Try.ntmps4
    have HW := Lib.hid (show Below w.heap.size w ((w.alloc (.cells #[.int .i64 D0.wd, .int .i64 D0.hg, .slice ao0 n0 c0, .slice bo0 m0 d0] 25)).alloc (.cells #[.int .i64 x1, .int .i64 y1] 37)) from two_allocs _ _)
    have ha := World.alloc_heap_new w (.cells #[.int .i64 D0.wd, .int .i64 D0.hg, .slice ao0 n0 c0, .slice bo0 m0 d0] 25)
    replace ha := (Below.heap_alloc (w.alloc (.cells #[.int .i64 D0.wd, .int .i64 D0.hg, .slice ao0 n0 c0, .slice bo0 m0 d0] 25)) (.cells #[.int .i64 x1, .int .i64 y1] 37) (w.heap.size) (by simp; try omega)).trans ha
    have HA0 := Lib.hid ha
    clear ha
    have ha := World.alloc_heap_new (w.alloc (.cells #[.int .i64 D0.wd, .int .i64 D0.hg, .slice ao0 n0 c0, .slice bo0 m0 d0] 25)) (.cells #[.int .i64 x1, .int .i64 y1] 37)
    rw [show (w.alloc (.cells #[.int .i64 D0.wd, .int .i64 D0.hg, .slice ao0 n0 c0, .slice bo0 m0 d0] 25)).heap.size = w.heap.size + 1 by simp] at ha
    have HA1 := Lib.hid ha
    clear ha
    have HL0 := Lib.hid (lft_no (l := (1048576 : Int)) (n := dSz D0) (by omega))
    go_wp2_with fail
    refine (szDr_any _ D0 ((1048576 : Int)) _ (by omega) (by omega) (HV0.out.below HW.out)).mono ?_
    rintro e w1 ⟨rfl, g1⟩
    replace HA0 := Lib.hid ((g1.block _ (blk_lt HA0.out)).trans HA0.out)
    replace HA1 := Lib.hid ((g1.block _ (blk_lt HA1.out)).trans HA1.out)
    replace HW := Lib.hid (bseq HW.out g1)
    clear g1
    have hza0 := blk_lt HA0.out
    have a0_0 := (cell_of_arr HA0.out (j := 0) rfl).1
    have a0_1 := (cell_of_arr HA0.out (j := 1) rfl).1
    have a0_2 := (cell_of_arr HA0.out (j := 2) rfl).1
    have a0_3 := (cell_of_arr HA0.out (j := 3) rfl).1
    have hza1 := blk_lt HA1.out
    have a1_0 := (cell_of_arr HA1.out (j := 0) rfl).1
    have a1_1 := (cell_of_arr HA1.out (j := 1) rfl).1
    rw [HL0.out]
    go_wp2
    go_ret
    exact ⟨rfl, HW.out⟩
  exact walk_in v0 D0 x1 y1 w (by omega) hv0 hx1 hy1

set_option maxRecDepth 100000 in
theorem lifted (os : Os) (started : os.Started) (H : Type) (enc : TypeId × Value → H) :
    ReturnsInHanded {} Try.checked os 4 .any (Rows.fnExactFaceAtSpec.pre6 enc Try.prog Try.f4 Rows.fnExactFaceAtRow.domain false) (Rows.fnExactFaceAtSpec.post enc Try.prog Try.f4 false true false false) := by
  refine returnsInHanded_of_change (C := Try.checked) own started (by kernel_rfl) Try.func4
    (ChangeSpec.witness6 (enc := enc) (C := Try.checked) false ⟨#[], #[.agg #[.int .i64 0, .int .i64 0, .slice none 0 0, .slice none 0 0], .agg #[.int .i64 0, .int .i64 0]], []⟩ 8 (by kernel_rfl) (by kernel_rfl) (by kernel_rfl) (by kernel_rfl)) ?_
  intro W base args ds gs before hval0 hW hcnd _
  have hval : ∀ (j : Nat) t v, Try.f4.params[j]? = some t → args[j]? = some v → Value.okWide Try.prog W .any base t v := hval0
  have hW' := hW
  obtain ⟨p, q, hA0, hV, rfl, hfz, hnd⟩ := hW
  have hA : DataW.TrodAll enc Try.prog W 0 (fun _ => true) true Try.f4.params.toList args.toList ds p := hA0
  rw [Try.params4] at hA hval
  obtain ⟨v0, vs0, d0, ds0, p0, q0, hargs, rfl, rfl, h0, r0⟩ := trodAll_cons hA
  obtain ⟨v1, vs1, d1, ds1, p1, q1, rfl, rfl, rfl, h1, r1⟩ := trodAll_cons r0
  obtain ⟨rfl, rfl, rfl⟩ := trodAll_nil r1
  obtain rfl : args = #[v0, v1] := by cases args; simp_all
  obtain ⟨rfl, rfl⟩ := trodVars_none hV
  clear hA0 hval0
  have l0 : ∀ x ∈ p0, x.block < W.heap.size := fun x hx => hW'.lt x (by simp [hx])
  have l1 : ∀ x ∈ p1, x.block < W.heap.size := fun x hx => hW'.lt x (by simp [hx])
  have e0 := hval 0 25 v0 rfl rfl
  obtain ⟨D0, lv0⟩ := open_draw e0 h0
  have e1 := hval 1 37 v1 rfl rfl
  obtain ⟨x1, y1, e1v, _, _, wx1, wy1⟩ := open_pt e1 h1
  have hc := walk v0 D0 x1 y1 W lv0 wx1 wy1
  simp only [← e1v] at hc
  refine hc.mono fun e W' ⟨he, hg⟩ => ?_
  subst he
  exact ⟨_, rfl, post_below (pa := (p0 ++ (p1 ++ []))) (pv := []) hW' (fun _ _ _ => (trodAll_cons_mk (shut_bool Try.underlying4 _) trodAll_mk0)) (fun sp hsp => (trodAll_cons_mk (trod_again (by decide) h0 l0 hg sp (fun x hx => hsp x (by simp [hx]))) (trodAll_cons_mk (trod_again (by decide) h1 l1 hg sp (fun x hx => hsp x (by simp [hx]))) trodAll_mk0))) (fun _ _ => rfl) (by simp)
    hg (ok_one (by kernel_rfl) rfl (okWide_bool_mk Try.underlying4 _))⟩

set_option maxHeartbeats 8000000 in
theorem joined : joinedFacts Try.pinned.checked.prog 4 Try.f4 Rows.fnExactFaceAtSpec Rows.fnExactFaceAtRow = true := by
  unfold joinedFacts
  repeat' (with_reducible refine andI ?_ ?_)
  rotate_left 1
  · exact jLaid
  · exact jRowed
  rotate_left 21
  · exact jHeard
  · exact jEnter
  · exact jLifts
  · exact jMake
  all_goals as_aux_lemma => kernel_rfl

theorem over : Rows.fnExactFaceAtRow.holds Try.pinned (OpenSpec.ofChange Rows.fnExactFaceAtSpec) :=
  OpenClaim.holds_of_wide 4 Try.f4 rfl rfl rfl rfl rfl rfl rfl ⟨rfl, rfl, rfl, rfl, rfl⟩ rfl rfl rfl rfl rfl (by kernel_rfl) Try.func4 joined
    (of_decide_eq_true (by kernel_rfl)) (by unfold Func.isWrapper; first | (rw [if_pos (by decide +kernel)]; kernel_rfl) | (rw [if_neg (by decide +kernel)]; exact ⟨rfl, rfl⟩))
    (fun os started H enc _ => lifted os started H enc)

theorem proved : Rows.FnExactFaceAtSaid :=
  over
#print axioms proved
end Go.Proofs.Ythflkkkpggaalaa.fnExactFaceAt
