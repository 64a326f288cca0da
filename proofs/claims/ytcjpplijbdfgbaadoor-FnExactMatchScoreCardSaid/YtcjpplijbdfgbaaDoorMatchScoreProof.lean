/- FnExactMatchScore returns true at every two leaves and both ways. Condition: the table of species is as the program text lays it (tied). -/
import Derived.Test.YtcjpplijbdfgbaaDoorCards
import Derived.Test.YtcjpplijbdfgbaaDoorTie
import Derived.Test.YtcjpplijbdfgbaaDoorVenLaid
import Derived.Test.YtcjpplijbdfgbaaDoorMat5
import Derived.Test.YtcjpplijbdfgbaaDoorK20
import Derived.Test.YtcjpplijbdfgbaaDoorSeq3
import Derived.Test.YtcjpplijbdfgbaaDoorPost
import Derived.Test.YtcjpplijbdfgbaaDoorK5
import Derived.WalkKit
import Derived.ProofKit
import Derived.OpenShut
import Derived.ChangeMaps5
import Derived.ChangeVars
import Derived.Deep.DeepHandedRow
import Derived.Lib.LaidTab
import Derived.Lib.LaidU8
import Derived.Lay
import Derived.LaidMore
import Derived.LaidSub
import Derived.MakeChecks
import Derived.SevenTiedAt
namespace Go.Proofs.YtcjpplijbdfgbaaDoor.fnExactMatchScore
open Seq2 Go.ChangeShapes Go.WideShapes Go.ChangeAt Go.RowKit Go.WideElems Go.ChangeMaps
set_option linter.unusedVariables false
set_option linter.unusedSimpArgs false

theorem own : ownKnob Tryd.prog.godebug = none := by kernel_rfl

set_option maxRecDepth 100000 in
set_option maxHeartbeats 8000000 in
theorem walk_in (v0 : Value) (z0 : Lf) (v1 : Value) (z1 : Lf) (x2 : Bool) (w : World) (ht : TabAt w) (hsum : (LfSz z0) + (LfSz z1) ≤ 1048576) (hv0 : LfL w v0 z0) (hv1 : LfL w v1 z1) :
    Calls Tryd.prog 5 #[v0, v1, .bool x2] w fun e w' => e = .returned (.bool true) ∧ Below w.heap.size w w' := by
  have HS0 := Lib.hid (show (LfSz z0) ≤ 1048576 by omega)
  have HS1 := Lib.hid (show (LfSz z1) ≤ 1048576 by omega)
  have HT := Lib.hid ht
  clear ht
  have HV0 := Lib.hid hv0
  obtain ⟨ao6_0, n6_0, c6_0, rfl, _, _, _, _, _, _, _, _⟩ := hv0.out
  clear hv0
  have HV1 := Lib.hid hv1
  obtain ⟨ao6_1, n6_1, c6_1, rfl, _, _, _, _, _, _, _, _⟩ := hv1.out
  clear hv1
  go_enter Tryd.func5, Tryd.ntmps5
  have HW := Lib.hid (show Below w.heap.size w ((w.alloc (.cells #[.string z0.id, .string z0.fl, .int .i64 z0.nu, .string z0.ve.1, .int .i64 z0.ve.2.1, .int .i64 z0.ve.2.2, .int .i64 z0.wd, .int .i64 z0.ln, .slice ao6_0 n6_0 c6_0] 26)).alloc (.cells #[.string z1.id, .string z1.fl, .int .i64 z1.nu, .string z1.ve.1, .int .i64 z1.ve.2.1, .int .i64 z1.ve.2.2, .int .i64 z1.wd, .int .i64 z1.ln, .slice ao6_1 n6_1 c6_1] 26)) from two_allocs _ _)
  have ha := World.alloc_heap_new w (.cells #[.string z0.id, .string z0.fl, .int .i64 z0.nu, .string z0.ve.1, .int .i64 z0.ve.2.1, .int .i64 z0.ve.2.2, .int .i64 z0.wd, .int .i64 z0.ln, .slice ao6_0 n6_0 c6_0] 26)
  replace ha := (Below.heap_alloc (w.alloc (.cells #[.string z0.id, .string z0.fl, .int .i64 z0.nu, .string z0.ve.1, .int .i64 z0.ve.2.1, .int .i64 z0.ve.2.2, .int .i64 z0.wd, .int .i64 z0.ln, .slice ao6_0 n6_0 c6_0] 26)) (.cells #[.string z1.id, .string z1.fl, .int .i64 z1.nu, .string z1.ve.1, .int .i64 z1.ve.2.1, .int .i64 z1.ve.2.2, .int .i64 z1.wd, .int .i64 z1.ln, .slice ao6_1 n6_1 c6_1] 26) (w.heap.size) (by simp; try omega)).trans ha
  have HA0 := Lib.hid ha
  clear ha
  have ha := World.alloc_heap_new (w.alloc (.cells #[.string z0.id, .string z0.fl, .int .i64 z0.nu, .string z0.ve.1, .int .i64 z0.ve.2.1, .int .i64 z0.ve.2.2, .int .i64 z0.wd, .int .i64 z0.ln, .slice ao6_0 n6_0 c6_0] 26)) (.cells #[.string z1.id, .string z1.fl, .int .i64 z1.nu, .string z1.ve.1, .int .i64 z1.ve.2.1, .int .i64 z1.ve.2.2, .int .i64 z1.wd, .int .i64 z1.ln, .slice ao6_1 n6_1 c6_1] 26)
  rw [show (w.alloc (.cells #[.string z0.id, .string z0.fl, .int .i64 z0.nu, .string z0.ve.1, .int .i64 z0.ve.2.1, .int .i64 z0.ve.2.2, .int .i64 z0.wd, .int .i64 z0.ln, .slice ao6_0 n6_0 c6_0] 26)).heap.size = w.heap.size + 1 by simp] at ha
  have HA1 := Lib.hid ha
  clear ha
  have hne : (msR z0 z1 x2 != msR z0 z1 x2) = false := by simp
  have HL0 := Lib.hid (lft_ok (l := (1048576 : Int)) (n := (LfSz z0)) (by omega))
  have hd0 : decide ((1048576 : Int) - ((LfSz z0) : Int) < 0) = false := by simp; omega
  go_wp2_with fail
  refine (szLf_any _ z0 ((1048576 : Int)) _ (by omega) (by omega) (HV0.out.below HW.out)).mono ?_
  rintro e w1 ⟨rfl, g1⟩
  replace HA0 := Lib.hid ((g1.block _ (blk_lt HA0.out)).trans HA0.out)
  replace HA1 := Lib.hid ((g1.block _ (blk_lt HA1.out)).trans HA1.out)
  replace HW := Lib.hid (bseq HW.out g1)
  clear g1
  have hza0 := blk_lt HA0.out
  have a0_0 := (cell_of_arr HA0.out (j := 0) rfl).1
  have a0_1 := (cell_of_arr HA0.out (j := 1) rfl).1
  have a0_2 := (cell_of_arr HA0.out (j := 2) rfl).1
  have a0_3 := (cell_of_arr HA0.out (j := 3) rfl).1
  have a0_4 := (cell_of_arr HA0.out (j := 4) rfl).1
  have a0_5 := (cell_of_arr HA0.out (j := 5) rfl).1
  have a0_6 := (cell_of_arr HA0.out (j := 6) rfl).1
  have a0_7 := (cell_of_arr HA0.out (j := 7) rfl).1
  have a0_8 := (cell_of_arr HA0.out (j := 8) rfl).1
  have hza1 := blk_lt HA1.out
  have a1_0 := (cell_of_arr HA1.out (j := 0) rfl).1
  have a1_1 := (cell_of_arr HA1.out (j := 1) rfl).1
  have a1_2 := (cell_of_arr HA1.out (j := 2) rfl).1
  have a1_3 := (cell_of_arr HA1.out (j := 3) rfl).1
  have a1_4 := (cell_of_arr HA1.out (j := 4) rfl).1
  have a1_5 := (cell_of_arr HA1.out (j := 5) rfl).1
  have a1_6 := (cell_of_arr HA1.out (j := 6) rfl).1
  have a1_7 := (cell_of_arr HA1.out (j := 7) rfl).1
  have a1_8 := (cell_of_arr HA1.out (j := 8) rfl).1
  rw [HL0.out]
  have HL1 := Lib.hid (lft_ok (l := (1048576 : Int) - ((LfSz z0) : Int)) (n := (LfSz z1)) (by omega))
  have hd1 : decide ((1048576 : Int) - ((LfSz z0) : Int) - ((LfSz z1) : Int) < 0) = false := by simp; omega
  go_wp2_with fail
  refine (szLf_any _ z1 ((1048576 : Int) - ((LfSz z0) : Int)) _ (by omega) (by omega) (HV1.out.below HW.out)).mono ?_
  rintro e w2 ⟨rfl, g2⟩
  clear hza0 a0_0 a0_1 a0_2 a0_3 a0_4 a0_5 a0_6 a0_7 a0_8 hza1 a1_0 a1_1 a1_2 a1_3 a1_4 a1_5 a1_6 a1_7 a1_8
  replace HA0 := Lib.hid ((g2.block _ (blk_lt HA0.out)).trans HA0.out)
  replace HA1 := Lib.hid ((g2.block _ (blk_lt HA1.out)).trans HA1.out)
  replace HW := Lib.hid (bseq HW.out g2)
  clear g2
  have hza0 := blk_lt HA0.out
  have a0_0 := (cell_of_arr HA0.out (j := 0) rfl).1
  have a0_1 := (cell_of_arr HA0.out (j := 1) rfl).1
  have a0_2 := (cell_of_arr HA0.out (j := 2) rfl).1
  have a0_3 := (cell_of_arr HA0.out (j := 3) rfl).1
  have a0_4 := (cell_of_arr HA0.out (j := 4) rfl).1
  have a0_5 := (cell_of_arr HA0.out (j := 5) rfl).1
  have a0_6 := (cell_of_arr HA0.out (j := 6) rfl).1
  have a0_7 := (cell_of_arr HA0.out (j := 7) rfl).1
  have a0_8 := (cell_of_arr HA0.out (j := 8) rfl).1
  have hza1 := blk_lt HA1.out
  have a1_0 := (cell_of_arr HA1.out (j := 0) rfl).1
  have a1_1 := (cell_of_arr HA1.out (j := 1) rfl).1
  have a1_2 := (cell_of_arr HA1.out (j := 2) rfl).1
  have a1_3 := (cell_of_arr HA1.out (j := 3) rfl).1
  have a1_4 := (cell_of_arr HA1.out (j := 4) rfl).1
  have a1_5 := (cell_of_arr HA1.out (j := 5) rfl).1
  have a1_6 := (cell_of_arr HA1.out (j := 6) rfl).1
  have a1_7 := (cell_of_arr HA1.out (j := 7) rfl).1
  have a1_8 := (cell_of_arr HA1.out (j := 8) rfl).1
  rw [HL1.out]
  go_wp2
  refine Seq3.wp_region w2 [0, 2, 4] [(1, []), (3, []), (5, [6, 7, 8, 9, 10])] (by kernel_rfl) (by kernel_rfl) rfl (Below.refl _ _) (fun w1 hh hb1 => ?_)
  repeat (first | (refine Seq2.fl_row (by decide) ?_) | (refine Seq2.fl_skip (by kernel_rfl) (by kernel_rfl) ?_ ?_; (focus (go_simp; (first | done | (simp [undef]; done)))); (try simp only [Act.put, List.setIfInBounds_toArray, List.set_cons_zero, List.set_cons_succ])) | (refine Seq2.fl_val (by kernel_rfl) (by kernel_rfl) ?_ ?_; (focus (go_simp; done)); apply Exists.intro; refine ⟨fun w2 hw2 => ?_, ?_⟩; (focus (obtain ⟨hc, hf⟩ := bcell hw2; clear hw2; go_simp; (first | done | with_reducible rfl | (with_reducible exact eql2 _ _ _) | (with_reducible exact neq2 _ _ _)))); (try simp only [Act.put, List.setIfInBounds_toArray, List.set_cons_zero, List.set_cons_succ])))
  refine Seq2.fl_nil ?_
  refine Seq3.c3_one (by kernel_rfl) rfl ?_
  gi_wp2_with fail
  refine ⟨trivial, rfl, (callsIn_wide.2 (toLf_own _ z0 _ HS0.out (HV0.out.below (HW.out.trans (hb1.mono HW.out.size))))).mono ?_⟩
  rintro e w3 ⟨v3, rfl, o3, g3⟩
  have HB3 := Lib.hid (hb1.trans (g3.mono hb1.size))
  clear g3
  have O3 := Lib.hid o3
  clear o3
  clear hh
  gi_wp2
  refine ⟨HB3.out, ?_⟩
  refine Seq3.c3_one (by kernel_rfl) rfl ?_
  gi_wp2_with fail
  refine ⟨trivial, rfl, (callsIn_wide.2 (toLf_own _ z1 _ HS1.out (HV1.out.below (HW.out.trans (HB3.out.mono HW.out.size))))).mono ?_⟩
  rintro e w4 ⟨v4, rfl, o4, g4⟩
  have HB4 := Lib.hid (HB3.out.trans (g4.mono HB3.out.size))
  replace O3 := Lib.hid (O3.out.below g4)
  clear g4
  have O4 := Lib.hid o4
  clear o4
  gi_wp2
  refine ⟨HB4.out, ?_⟩
  refine Seq3.c3_one (by kernel_rfl) rfl ?_
  gi_wp2_with fail
  refine ⟨trivial, rfl, (callsIn_wide.2 (ms_spec _ _ z0 z1 x2 _ (LfO.view O3.out) (LfO.view O4.out))).mono ?_⟩
  rintro e w5 ⟨rfl, g5⟩
  have HB5 := Lib.hid (HB4.out.trans (g5.mono HB4.out.size))
  replace O3 := Lib.hid (O3.out.below g5)
  replace O4 := Lib.hid (O4.out.below g5)
  clear g5
  gi_wp2
  refine ⟨HB5.out, ?_⟩
  refine Seq3.mid 6 ?_
  simp only [List.drop_succ_cons, List.drop_zero]
  repeat (first | (refine Seq2.fl_row (by decide) ?_) | (refine Seq2.fl_skip (by kernel_rfl) (by kernel_rfl) ?_ ?_; (focus (go_simp; (first | done | (simp [undef]; done)))); (try simp only [Act.put, List.setIfInBounds_toArray, List.set_cons_zero, List.set_cons_succ])) | (refine Seq2.fl_val (by kernel_rfl) (by kernel_rfl) ?_ ?_; (focus (go_simp; done)); apply Exists.intro; refine ⟨fun w2 hw2 => ?_, ?_⟩; (focus (obtain ⟨hc, hf⟩ := bcell hw2; clear hw2; go_simp; (first | done | with_reducible rfl | (with_reducible exact eql2 _ _ _) | (with_reducible exact neq2 _ _ _)))); (try simp only [Act.put, List.setIfInBounds_toArray, List.set_cons_zero, List.set_cons_succ])))
  refine Seq2.fl_nil ?_
  refine Seq3.c3_nil (by kernel_rfl) ?_
  clear hb1
  have g0 := HB5.out
  clear hza0 a0_0 a0_1 a0_2 a0_3 a0_4 a0_5 a0_6 a0_7 a0_8 hza1 a1_0 a1_1 a1_2 a1_3 a1_4 a1_5 a1_6 a1_7 a1_8
  replace HA0 := Lib.hid ((g0.block _ (blk_lt HA0.out)).trans HA0.out)
  replace HA1 := Lib.hid ((g0.block _ (blk_lt HA1.out)).trans HA1.out)
  replace HW := Lib.hid (bseq HW.out g0)
  clear g0
  have hza0 := blk_lt HA0.out
  have a0_0 := (cell_of_arr HA0.out (j := 0) rfl).1
  have a0_1 := (cell_of_arr HA0.out (j := 1) rfl).1
  have a0_2 := (cell_of_arr HA0.out (j := 2) rfl).1
  have a0_3 := (cell_of_arr HA0.out (j := 3) rfl).1
  have a0_4 := (cell_of_arr HA0.out (j := 4) rfl).1
  have a0_5 := (cell_of_arr HA0.out (j := 5) rfl).1
  have a0_6 := (cell_of_arr HA0.out (j := 6) rfl).1
  have a0_7 := (cell_of_arr HA0.out (j := 7) rfl).1
  have a0_8 := (cell_of_arr HA0.out (j := 8) rfl).1
  have hza1 := blk_lt HA1.out
  have a1_0 := (cell_of_arr HA1.out (j := 0) rfl).1
  have a1_1 := (cell_of_arr HA1.out (j := 1) rfl).1
  have a1_2 := (cell_of_arr HA1.out (j := 2) rfl).1
  have a1_3 := (cell_of_arr HA1.out (j := 3) rfl).1
  have a1_4 := (cell_of_arr HA1.out (j := 4) rfl).1
  have a1_5 := (cell_of_arr HA1.out (j := 5) rfl).1
  have a1_6 := (cell_of_arr HA1.out (j := 6) rfl).1
  have a1_7 := (cell_of_arr HA1.out (j := 7) rfl).1
  have a1_8 := (cell_of_arr HA1.out (j := 8) rfl).1
  clear O3
  clear O4
  have HLO0 := Lib.hid HW.out.size
  have HZL0_0 := Lib.hid (blk_lt HA0.out)
  have HZL0_1 := Lib.hid (blk_lt HA1.out)
  go_wp2_with fail
  refine (toLf_own _ z0 _ HS0.out (HV0.out.below HW.out)).mono ?_
  rintro e w6 ⟨v6, rfl, o6, g6⟩
  clear hza0 a0_0 a0_1 a0_2 a0_3 a0_4 a0_5 a0_6 a0_7 a0_8 hza1 a1_0 a1_1 a1_2 a1_3 a1_4 a1_5 a1_6 a1_7 a1_8
  replace HA0 := Lib.hid ((g6.block _ (blk_lt HA0.out)).trans HA0.out)
  replace HA1 := Lib.hid ((g6.block _ (blk_lt HA1.out)).trans HA1.out)
  replace HW := Lib.hid (bseq HW.out g6)
  clear g6
  have hza0 := blk_lt HA0.out
  have a0_0 := (cell_of_arr HA0.out (j := 0) rfl).1
  have a0_1 := (cell_of_arr HA0.out (j := 1) rfl).1
  have a0_2 := (cell_of_arr HA0.out (j := 2) rfl).1
  have a0_3 := (cell_of_arr HA0.out (j := 3) rfl).1
  have a0_4 := (cell_of_arr HA0.out (j := 4) rfl).1
  have a0_5 := (cell_of_arr HA0.out (j := 5) rfl).1
  have a0_6 := (cell_of_arr HA0.out (j := 6) rfl).1
  have a0_7 := (cell_of_arr HA0.out (j := 7) rfl).1
  have a0_8 := (cell_of_arr HA0.out (j := 8) rfl).1
  have hza1 := blk_lt HA1.out
  have a1_0 := (cell_of_arr HA1.out (j := 0) rfl).1
  have a1_1 := (cell_of_arr HA1.out (j := 1) rfl).1
  have a1_2 := (cell_of_arr HA1.out (j := 2) rfl).1
  have a1_3 := (cell_of_arr HA1.out (j := 3) rfl).1
  have a1_4 := (cell_of_arr HA1.out (j := 4) rfl).1
  have a1_5 := (cell_of_arr HA1.out (j := 5) rfl).1
  have a1_6 := (cell_of_arr HA1.out (j := 6) rfl).1
  have a1_7 := (cell_of_arr HA1.out (j := 7) rfl).1
  have a1_8 := (cell_of_arr HA1.out (j := 8) rfl).1
  have O6 := Lib.hid o6
  clear o6
  obtain ⟨og6_x6, oh6_x6, rfl, _, _, _, _, _, _, _, _, _, _, _⟩ := O6.out.out
  have HLO1 := Lib.hid HW.out.size
  have HZL1_0 := Lib.hid (blk_lt HA0.out)
  have HZL1_1 := Lib.hid (blk_lt HA1.out)
  go_wp2_with fail
  refine (toLf_own _ z1 _ HS1.out (HV1.out.below (HW.out.alloc HW.out.size _))).mono ?_
  rintro e w7 ⟨v7, rfl, o7, g7⟩
  clear hza0 a0_0 a0_1 a0_2 a0_3 a0_4 a0_5 a0_6 a0_7 a0_8 hza1 a1_0 a1_1 a1_2 a1_3 a1_4 a1_5 a1_6 a1_7 a1_8
  have HX0 := Lib.hid ((g7.block _ (by simp)).trans (World.alloc_heap_new w6 (.cells #[.string z0.id, .string z0.fl, .int .i64 z0.nu, .string z0.ve.1, .int .i64 z0.ve.2.1, .int .i64 z0.ve.2.2, .int .i64 z0.wd, .int .i64 z0.ln, .slice (some ⟨og6_x6, 0, none⟩) z0.df.length z0.df.length] 33)))
  replace g7 := bseq (one_alloc _) g7
  replace HA0 := Lib.hid ((g7.block _ (blk_lt HA0.out)).trans HA0.out)
  replace HA1 := Lib.hid ((g7.block _ (blk_lt HA1.out)).trans HA1.out)
  replace O6 := Lib.hid (O6.out.below g7)
  replace HW := Lib.hid (bseq HW.out g7)
  clear g7
  have hza0 := blk_lt HA0.out
  have a0_0 := (cell_of_arr HA0.out (j := 0) rfl).1
  have a0_1 := (cell_of_arr HA0.out (j := 1) rfl).1
  have a0_2 := (cell_of_arr HA0.out (j := 2) rfl).1
  have a0_3 := (cell_of_arr HA0.out (j := 3) rfl).1
  have a0_4 := (cell_of_arr HA0.out (j := 4) rfl).1
  have a0_5 := (cell_of_arr HA0.out (j := 5) rfl).1
  have a0_6 := (cell_of_arr HA0.out (j := 6) rfl).1
  have a0_7 := (cell_of_arr HA0.out (j := 7) rfl).1
  have a0_8 := (cell_of_arr HA0.out (j := 8) rfl).1
  have hza1 := blk_lt HA1.out
  have a1_0 := (cell_of_arr HA1.out (j := 0) rfl).1
  have a1_1 := (cell_of_arr HA1.out (j := 1) rfl).1
  have a1_2 := (cell_of_arr HA1.out (j := 2) rfl).1
  have a1_3 := (cell_of_arr HA1.out (j := 3) rfl).1
  have a1_4 := (cell_of_arr HA1.out (j := 4) rfl).1
  have a1_5 := (cell_of_arr HA1.out (j := 5) rfl).1
  have a1_6 := (cell_of_arr HA1.out (j := 6) rfl).1
  have a1_7 := (cell_of_arr HA1.out (j := 7) rfl).1
  have a1_8 := (cell_of_arr HA1.out (j := 8) rfl).1
  have hzHX0 := blk_lt HX0.out
  have hx0_0 := (cell_of_arr HX0.out (j := 0) rfl).1
  have hx0_1 := (cell_of_arr HX0.out (j := 1) rfl).1
  have hx0_2 := (cell_of_arr HX0.out (j := 2) rfl).1
  have hx0_3 := (cell_of_arr HX0.out (j := 3) rfl).1
  have hx0_4 := (cell_of_arr HX0.out (j := 4) rfl).1
  have hx0_5 := (cell_of_arr HX0.out (j := 5) rfl).1
  have hx0_6 := (cell_of_arr HX0.out (j := 6) rfl).1
  have hx0_7 := (cell_of_arr HX0.out (j := 7) rfl).1
  have hx0_8 := (cell_of_arr HX0.out (j := 8) rfl).1
  have O7 := Lib.hid o7
  clear o7
  obtain ⟨og6_x7, oh6_x7, rfl, _, _, _, _, _, _, _, _, _, _, _⟩ := O7.out.out
  go_wp2_with fail
  refine (ms_impl _ _ z0 z1 x2 _ (LfO.view (O6.out.below (one_alloc _))) (LfO.view (O7.out.below (one_alloc _))) (HT.out.below (HW.out.alloc HW.out.size _))).mono ?_
  rintro e w8 ⟨rfl, g8⟩
  clear hza0 a0_0 a0_1 a0_2 a0_3 a0_4 a0_5 a0_6 a0_7 a0_8 hza1 a1_0 a1_1 a1_2 a1_3 a1_4 a1_5 a1_6 a1_7 a1_8 hzHX0 hx0_0 hx0_1 hx0_2 hx0_3 hx0_4 hx0_5 hx0_6 hx0_7 hx0_8
  have HX1 := Lib.hid ((g8.block _ (by simp)).trans (World.alloc_heap_new w7 (.cells #[.string z1.id, .string z1.fl, .int .i64 z1.nu, .string z1.ve.1, .int .i64 z1.ve.2.1, .int .i64 z1.ve.2.2, .int .i64 z1.wd, .int .i64 z1.ln, .slice (some ⟨og6_x7, 0, none⟩) z1.df.length z1.df.length] 33)))
  replace g8 := bseq (one_alloc _) g8
  replace HA0 := Lib.hid ((g8.block _ (blk_lt HA0.out)).trans HA0.out)
  replace HA1 := Lib.hid ((g8.block _ (blk_lt HA1.out)).trans HA1.out)
  replace HX0 := Lib.hid ((g8.block _ (blk_lt HX0.out)).trans HX0.out)
  replace O6 := Lib.hid (O6.out.below g8)
  replace O7 := Lib.hid (O7.out.below g8)
  replace HW := Lib.hid (bseq HW.out g8)
  clear g8
  have hza0 := blk_lt HA0.out
  have a0_0 := (cell_of_arr HA0.out (j := 0) rfl).1
  have a0_1 := (cell_of_arr HA0.out (j := 1) rfl).1
  have a0_2 := (cell_of_arr HA0.out (j := 2) rfl).1
  have a0_3 := (cell_of_arr HA0.out (j := 3) rfl).1
  have a0_4 := (cell_of_arr HA0.out (j := 4) rfl).1
  have a0_5 := (cell_of_arr HA0.out (j := 5) rfl).1
  have a0_6 := (cell_of_arr HA0.out (j := 6) rfl).1
  have a0_7 := (cell_of_arr HA0.out (j := 7) rfl).1
  have a0_8 := (cell_of_arr HA0.out (j := 8) rfl).1
  have hza1 := blk_lt HA1.out
  have a1_0 := (cell_of_arr HA1.out (j := 0) rfl).1
  have a1_1 := (cell_of_arr HA1.out (j := 1) rfl).1
  have a1_2 := (cell_of_arr HA1.out (j := 2) rfl).1
  have a1_3 := (cell_of_arr HA1.out (j := 3) rfl).1
  have a1_4 := (cell_of_arr HA1.out (j := 4) rfl).1
  have a1_5 := (cell_of_arr HA1.out (j := 5) rfl).1
  have a1_6 := (cell_of_arr HA1.out (j := 6) rfl).1
  have a1_7 := (cell_of_arr HA1.out (j := 7) rfl).1
  have a1_8 := (cell_of_arr HA1.out (j := 8) rfl).1
  have hzHX0 := blk_lt HX0.out
  have hx0_0 := (cell_of_arr HX0.out (j := 0) rfl).1
  have hx0_1 := (cell_of_arr HX0.out (j := 1) rfl).1
  have hx0_2 := (cell_of_arr HX0.out (j := 2) rfl).1
  have hx0_3 := (cell_of_arr HX0.out (j := 3) rfl).1
  have hx0_4 := (cell_of_arr HX0.out (j := 4) rfl).1
  have hx0_5 := (cell_of_arr HX0.out (j := 5) rfl).1
  have hx0_6 := (cell_of_arr HX0.out (j := 6) rfl).1
  have hx0_7 := (cell_of_arr HX0.out (j := 7) rfl).1
  have hx0_8 := (cell_of_arr HX0.out (j := 8) rfl).1
  have hzHX1 := blk_lt HX1.out
  have hx1_0 := (cell_of_arr HX1.out (j := 0) rfl).1
  have hx1_1 := (cell_of_arr HX1.out (j := 1) rfl).1
  have hx1_2 := (cell_of_arr HX1.out (j := 2) rfl).1
  have hx1_3 := (cell_of_arr HX1.out (j := 3) rfl).1
  have hx1_4 := (cell_of_arr HX1.out (j := 4) rfl).1
  have hx1_5 := (cell_of_arr HX1.out (j := 5) rfl).1
  have hx1_6 := (cell_of_arr HX1.out (j := 6) rfl).1
  have hx1_7 := (cell_of_arr HX1.out (j := 7) rfl).1
  have hx1_8 := (cell_of_arr HX1.out (j := 8) rfl).1
  go_wp2
  refine Seq3.wp_region w8 [0, 1] [(2, []), (3, [4])] (by kernel_rfl) (by kernel_rfl) rfl (Below.refl _ _) (fun w1 hh hb1 => ?_)
  repeat (first | (refine Seq2.fl_row (by decide) ?_) | (refine Seq2.fl_skip (by kernel_rfl) (by kernel_rfl) ?_ ?_; (focus (go_simp; (first | done | (simp [undef]; done)))); (try simp only [Act.put, List.setIfInBounds_toArray, List.set_cons_zero, List.set_cons_succ])) | (refine Seq2.fl_val (by kernel_rfl) (by kernel_rfl) ?_ ?_; (focus (go_simp; done)); apply Exists.intro; refine ⟨fun w2 hw2 => ?_, ?_⟩; (focus (obtain ⟨hc, hf⟩ := bcell hw2; clear hw2; go_simp; (first | done | with_reducible rfl | (with_reducible exact eql2 _ _ _) | (with_reducible exact neq2 _ _ _)))); (try simp only [Act.put, List.setIfInBounds_toArray, List.set_cons_zero, List.set_cons_succ])))
  refine Seq2.fl_nil ?_
  refine Seq3.c3_one (by kernel_rfl) rfl ?_
  gi_wp2_with fail
  refine ⟨trivial, rfl, (callsIn_wide.2 (toLf_own _ z0 _ HS0.out (HV0.out.below (HW.out.trans (hb1.mono HW.out.size))))).mono ?_⟩
  rintro e w9 ⟨v9, rfl, o9, g9⟩
  have HB9 := Lib.hid (hb1.trans (g9.mono hb1.size))
  clear g9
  have O9 := Lib.hid o9
  clear o9
  clear hh
  gi_wp2
  refine ⟨HB9.out, ?_⟩
  refine Seq3.c3_one (by kernel_rfl) rfl ?_
  gi_wp2_with fail
  refine ⟨trivial, rfl, (callsIn_wide.2 (eqLf_same _ _ z0 _ (LfO.view (O6.out.below HB9.out)) (LfO.view O9.out))).mono ?_⟩
  rintro e w10 ⟨rfl, g10⟩
  have HB10 := Lib.hid (HB9.out.trans (g10.mono HB9.out.size))
  replace O9 := Lib.hid (O9.out.below g10)
  clear g10
  gi_wp2
  refine ⟨HB10.out, ?_⟩
  refine Seq3.mid 4 ?_
  simp only [List.drop_succ_cons, List.drop_zero]
  repeat (first | (refine Seq2.fl_row (by decide) ?_) | (refine Seq2.fl_skip (by kernel_rfl) (by kernel_rfl) ?_ ?_; (focus (go_simp; (first | done | (simp [undef]; done)))); (try simp only [Act.put, List.setIfInBounds_toArray, List.set_cons_zero, List.set_cons_succ])) | (refine Seq2.fl_val (by kernel_rfl) (by kernel_rfl) ?_ ?_; (focus (go_simp; done)); apply Exists.intro; refine ⟨fun w2 hw2 => ?_, ?_⟩; (focus (obtain ⟨hc, hf⟩ := bcell hw2; clear hw2; go_simp; (first | done | with_reducible rfl | (with_reducible exact eql2 _ _ _) | (with_reducible exact neq2 _ _ _)))); (try simp only [Act.put, List.setIfInBounds_toArray, List.set_cons_zero, List.set_cons_succ])))
  refine Seq2.fl_nil ?_
  refine Seq3.c3_nil (by kernel_rfl) ?_
  clear hb1
  have g0 := HB10.out
  clear hza0 a0_0 a0_1 a0_2 a0_3 a0_4 a0_5 a0_6 a0_7 a0_8 hza1 a1_0 a1_1 a1_2 a1_3 a1_4 a1_5 a1_6 a1_7 a1_8 hzHX0 hx0_0 hx0_1 hx0_2 hx0_3 hx0_4 hx0_5 hx0_6 hx0_7 hx0_8 hzHX1 hx1_0 hx1_1 hx1_2 hx1_3 hx1_4 hx1_5 hx1_6 hx1_7 hx1_8
  replace HA0 := Lib.hid ((g0.block _ (blk_lt HA0.out)).trans HA0.out)
  replace HA1 := Lib.hid ((g0.block _ (blk_lt HA1.out)).trans HA1.out)
  replace HX0 := Lib.hid ((g0.block _ (blk_lt HX0.out)).trans HX0.out)
  replace HX1 := Lib.hid ((g0.block _ (blk_lt HX1.out)).trans HX1.out)
  replace O6 := Lib.hid (O6.out.below g0)
  replace O7 := Lib.hid (O7.out.below g0)
  replace HW := Lib.hid (bseq HW.out g0)
  clear g0
  have hza0 := blk_lt HA0.out
  have a0_0 := (cell_of_arr HA0.out (j := 0) rfl).1
  have a0_1 := (cell_of_arr HA0.out (j := 1) rfl).1
  have a0_2 := (cell_of_arr HA0.out (j := 2) rfl).1
  have a0_3 := (cell_of_arr HA0.out (j := 3) rfl).1
  have a0_4 := (cell_of_arr HA0.out (j := 4) rfl).1
  have a0_5 := (cell_of_arr HA0.out (j := 5) rfl).1
  have a0_6 := (cell_of_arr HA0.out (j := 6) rfl).1
  have a0_7 := (cell_of_arr HA0.out (j := 7) rfl).1
  have a0_8 := (cell_of_arr HA0.out (j := 8) rfl).1
  have hza1 := blk_lt HA1.out
  have a1_0 := (cell_of_arr HA1.out (j := 0) rfl).1
  have a1_1 := (cell_of_arr HA1.out (j := 1) rfl).1
  have a1_2 := (cell_of_arr HA1.out (j := 2) rfl).1
  have a1_3 := (cell_of_arr HA1.out (j := 3) rfl).1
  have a1_4 := (cell_of_arr HA1.out (j := 4) rfl).1
  have a1_5 := (cell_of_arr HA1.out (j := 5) rfl).1
  have a1_6 := (cell_of_arr HA1.out (j := 6) rfl).1
  have a1_7 := (cell_of_arr HA1.out (j := 7) rfl).1
  have a1_8 := (cell_of_arr HA1.out (j := 8) rfl).1
  have hzHX0 := blk_lt HX0.out
  have hx0_0 := (cell_of_arr HX0.out (j := 0) rfl).1
  have hx0_1 := (cell_of_arr HX0.out (j := 1) rfl).1
  have hx0_2 := (cell_of_arr HX0.out (j := 2) rfl).1
  have hx0_3 := (cell_of_arr HX0.out (j := 3) rfl).1
  have hx0_4 := (cell_of_arr HX0.out (j := 4) rfl).1
  have hx0_5 := (cell_of_arr HX0.out (j := 5) rfl).1
  have hx0_6 := (cell_of_arr HX0.out (j := 6) rfl).1
  have hx0_7 := (cell_of_arr HX0.out (j := 7) rfl).1
  have hx0_8 := (cell_of_arr HX0.out (j := 8) rfl).1
  have hzHX1 := blk_lt HX1.out
  have hx1_0 := (cell_of_arr HX1.out (j := 0) rfl).1
  have hx1_1 := (cell_of_arr HX1.out (j := 1) rfl).1
  have hx1_2 := (cell_of_arr HX1.out (j := 2) rfl).1
  have hx1_3 := (cell_of_arr HX1.out (j := 3) rfl).1
  have hx1_4 := (cell_of_arr HX1.out (j := 4) rfl).1
  have hx1_5 := (cell_of_arr HX1.out (j := 5) rfl).1
  have hx1_6 := (cell_of_arr HX1.out (j := 6) rfl).1
  have hx1_7 := (cell_of_arr HX1.out (j := 7) rfl).1
  have hx1_8 := (cell_of_arr HX1.out (j := 8) rfl).1
  clear O9
  clear hza0 a0_0 a0_1 a0_2 a0_3 a0_4 a0_5 a0_6 a0_7 a0_8 hza1 a1_0 a1_1 a1_2 a1_3 a1_4 a1_5 a1_6 a1_7 a1_8 hzHX0 hx0_0 hx0_1 hx0_2 hx0_3 hx0_4 hx0_5 hx0_6 hx0_7 hx0_8 hzHX1 hx1_0 hx1_1 hx1_2 hx1_3 hx1_4 hx1_5 hx1_6 hx1_7 hx1_8
  clear HX0
  have hza0 := blk_lt HA0.out
  have a0_0 := (cell_of_arr HA0.out (j := 0) rfl).1
  have a0_1 := (cell_of_arr HA0.out (j := 1) rfl).1
  have a0_2 := (cell_of_arr HA0.out (j := 2) rfl).1
  have a0_3 := (cell_of_arr HA0.out (j := 3) rfl).1
  have a0_4 := (cell_of_arr HA0.out (j := 4) rfl).1
  have a0_5 := (cell_of_arr HA0.out (j := 5) rfl).1
  have a0_6 := (cell_of_arr HA0.out (j := 6) rfl).1
  have a0_7 := (cell_of_arr HA0.out (j := 7) rfl).1
  have a0_8 := (cell_of_arr HA0.out (j := 8) rfl).1
  have hza1 := blk_lt HA1.out
  have a1_0 := (cell_of_arr HA1.out (j := 0) rfl).1
  have a1_1 := (cell_of_arr HA1.out (j := 1) rfl).1
  have a1_2 := (cell_of_arr HA1.out (j := 2) rfl).1
  have a1_3 := (cell_of_arr HA1.out (j := 3) rfl).1
  have a1_4 := (cell_of_arr HA1.out (j := 4) rfl).1
  have a1_5 := (cell_of_arr HA1.out (j := 5) rfl).1
  have a1_6 := (cell_of_arr HA1.out (j := 6) rfl).1
  have a1_7 := (cell_of_arr HA1.out (j := 7) rfl).1
  have a1_8 := (cell_of_arr HA1.out (j := 8) rfl).1
  have hzHX1 := blk_lt HX1.out
  have hx1_0 := (cell_of_arr HX1.out (j := 0) rfl).1
  have hx1_1 := (cell_of_arr HX1.out (j := 1) rfl).1
  have hx1_2 := (cell_of_arr HX1.out (j := 2) rfl).1
  have hx1_3 := (cell_of_arr HX1.out (j := 3) rfl).1
  have hx1_4 := (cell_of_arr HX1.out (j := 4) rfl).1
  have hx1_5 := (cell_of_arr HX1.out (j := 5) rfl).1
  have hx1_6 := (cell_of_arr HX1.out (j := 6) rfl).1
  have hx1_7 := (cell_of_arr HX1.out (j := 7) rfl).1
  have hx1_8 := (cell_of_arr HX1.out (j := 8) rfl).1
  clear O6
  go_wp2
  refine Seq3.wp_region w10 [0, 1] [(2, []), (3, [4])] (by kernel_rfl) (by kernel_rfl) rfl (Below.refl _ _) (fun w1 hh hb1 => ?_)
  repeat (first | (refine Seq2.fl_row (by decide) ?_) | (refine Seq2.fl_skip (by kernel_rfl) (by kernel_rfl) ?_ ?_; (focus (go_simp; (first | done | (simp [undef]; done)))); (try simp only [Act.put, List.setIfInBounds_toArray, List.set_cons_zero, List.set_cons_succ])) | (refine Seq2.fl_val (by kernel_rfl) (by kernel_rfl) ?_ ?_; (focus (go_simp; done)); apply Exists.intro; refine ⟨fun w2 hw2 => ?_, ?_⟩; (focus (obtain ⟨hc, hf⟩ := bcell hw2; clear hw2; go_simp; (first | done | with_reducible rfl | (with_reducible exact eql2 _ _ _) | (with_reducible exact neq2 _ _ _)))); (try simp only [Act.put, List.setIfInBounds_toArray, List.set_cons_zero, List.set_cons_succ])))
  refine Seq2.fl_nil ?_
  refine Seq3.c3_one (by kernel_rfl) rfl ?_
  gi_wp2_with fail
  refine ⟨trivial, rfl, (callsIn_wide.2 (toLf_own _ z1 _ HS1.out (HV1.out.below (HW.out.trans (hb1.mono HW.out.size))))).mono ?_⟩
  rintro e w11 ⟨v11, rfl, o11, g11⟩
  have HB11 := Lib.hid (hb1.trans (g11.mono hb1.size))
  clear g11
  have O11 := Lib.hid o11
  clear o11
  clear hh
  gi_wp2
  refine ⟨HB11.out, ?_⟩
  refine Seq3.c3_one (by kernel_rfl) rfl ?_
  gi_wp2_with fail
  refine ⟨trivial, rfl, (callsIn_wide.2 (eqLf_same _ _ z1 _ (LfO.view (O7.out.below HB11.out)) (LfO.view O11.out))).mono ?_⟩
  rintro e w12 ⟨rfl, g12⟩
  have HB12 := Lib.hid (HB11.out.trans (g12.mono HB11.out.size))
  replace O11 := Lib.hid (O11.out.below g12)
  clear g12
  gi_wp2
  refine ⟨HB12.out, ?_⟩
  refine Seq3.mid 4 ?_
  simp only [List.drop_succ_cons, List.drop_zero]
  repeat (first | (refine Seq2.fl_row (by decide) ?_) | (refine Seq2.fl_skip (by kernel_rfl) (by kernel_rfl) ?_ ?_; (focus (go_simp; (first | done | (simp [undef]; done)))); (try simp only [Act.put, List.setIfInBounds_toArray, List.set_cons_zero, List.set_cons_succ])) | (refine Seq2.fl_val (by kernel_rfl) (by kernel_rfl) ?_ ?_; (focus (go_simp; done)); apply Exists.intro; refine ⟨fun w2 hw2 => ?_, ?_⟩; (focus (obtain ⟨hc, hf⟩ := bcell hw2; clear hw2; go_simp; (first | done | with_reducible rfl | (with_reducible exact eql2 _ _ _) | (with_reducible exact neq2 _ _ _)))); (try simp only [Act.put, List.setIfInBounds_toArray, List.set_cons_zero, List.set_cons_succ])))
  refine Seq2.fl_nil ?_
  refine Seq3.c3_nil (by kernel_rfl) ?_
  clear hb1
  have g0 := HB12.out
  clear hza0 a0_0 a0_1 a0_2 a0_3 a0_4 a0_5 a0_6 a0_7 a0_8 hza1 a1_0 a1_1 a1_2 a1_3 a1_4 a1_5 a1_6 a1_7 a1_8 hzHX1 hx1_0 hx1_1 hx1_2 hx1_3 hx1_4 hx1_5 hx1_6 hx1_7 hx1_8
  replace HA0 := Lib.hid ((g0.block _ (blk_lt HA0.out)).trans HA0.out)
  replace HA1 := Lib.hid ((g0.block _ (blk_lt HA1.out)).trans HA1.out)
  replace HX1 := Lib.hid ((g0.block _ (blk_lt HX1.out)).trans HX1.out)
  replace O7 := Lib.hid (O7.out.below g0)
  replace HW := Lib.hid (bseq HW.out g0)
  clear g0
  have hza0 := blk_lt HA0.out
  have a0_0 := (cell_of_arr HA0.out (j := 0) rfl).1
  have a0_1 := (cell_of_arr HA0.out (j := 1) rfl).1
  have a0_2 := (cell_of_arr HA0.out (j := 2) rfl).1
  have a0_3 := (cell_of_arr HA0.out (j := 3) rfl).1
  have a0_4 := (cell_of_arr HA0.out (j := 4) rfl).1
  have a0_5 := (cell_of_arr HA0.out (j := 5) rfl).1
  have a0_6 := (cell_of_arr HA0.out (j := 6) rfl).1
  have a0_7 := (cell_of_arr HA0.out (j := 7) rfl).1
  have a0_8 := (cell_of_arr HA0.out (j := 8) rfl).1
  have hza1 := blk_lt HA1.out
  have a1_0 := (cell_of_arr HA1.out (j := 0) rfl).1
  have a1_1 := (cell_of_arr HA1.out (j := 1) rfl).1
  have a1_2 := (cell_of_arr HA1.out (j := 2) rfl).1
  have a1_3 := (cell_of_arr HA1.out (j := 3) rfl).1
  have a1_4 := (cell_of_arr HA1.out (j := 4) rfl).1
  have a1_5 := (cell_of_arr HA1.out (j := 5) rfl).1
  have a1_6 := (cell_of_arr HA1.out (j := 6) rfl).1
  have a1_7 := (cell_of_arr HA1.out (j := 7) rfl).1
  have a1_8 := (cell_of_arr HA1.out (j := 8) rfl).1
  have hzHX1 := blk_lt HX1.out
  have hx1_0 := (cell_of_arr HX1.out (j := 0) rfl).1
  have hx1_1 := (cell_of_arr HX1.out (j := 1) rfl).1
  have hx1_2 := (cell_of_arr HX1.out (j := 2) rfl).1
  have hx1_3 := (cell_of_arr HX1.out (j := 3) rfl).1
  have hx1_4 := (cell_of_arr HX1.out (j := 4) rfl).1
  have hx1_5 := (cell_of_arr HX1.out (j := 5) rfl).1
  have hx1_6 := (cell_of_arr HX1.out (j := 6) rfl).1
  have hx1_7 := (cell_of_arr HX1.out (j := 7) rfl).1
  have hx1_8 := (cell_of_arr HX1.out (j := 8) rfl).1
  clear O11
  clear hza0 a0_0 a0_1 a0_2 a0_3 a0_4 a0_5 a0_6 a0_7 a0_8 hza1 a1_0 a1_1 a1_2 a1_3 a1_4 a1_5 a1_6 a1_7 a1_8 hzHX1 hx1_0 hx1_1 hx1_2 hx1_3 hx1_4 hx1_5 hx1_6 hx1_7 hx1_8
  clear HX1
  have hza0 := blk_lt HA0.out
  have a0_0 := (cell_of_arr HA0.out (j := 0) rfl).1
  have a0_1 := (cell_of_arr HA0.out (j := 1) rfl).1
  have a0_2 := (cell_of_arr HA0.out (j := 2) rfl).1
  have a0_3 := (cell_of_arr HA0.out (j := 3) rfl).1
  have a0_4 := (cell_of_arr HA0.out (j := 4) rfl).1
  have a0_5 := (cell_of_arr HA0.out (j := 5) rfl).1
  have a0_6 := (cell_of_arr HA0.out (j := 6) rfl).1
  have a0_7 := (cell_of_arr HA0.out (j := 7) rfl).1
  have a0_8 := (cell_of_arr HA0.out (j := 8) rfl).1
  have hza1 := blk_lt HA1.out
  have a1_0 := (cell_of_arr HA1.out (j := 0) rfl).1
  have a1_1 := (cell_of_arr HA1.out (j := 1) rfl).1
  have a1_2 := (cell_of_arr HA1.out (j := 2) rfl).1
  have a1_3 := (cell_of_arr HA1.out (j := 3) rfl).1
  have a1_4 := (cell_of_arr HA1.out (j := 4) rfl).1
  have a1_5 := (cell_of_arr HA1.out (j := 5) rfl).1
  have a1_6 := (cell_of_arr HA1.out (j := 6) rfl).1
  have a1_7 := (cell_of_arr HA1.out (j := 7) rfl).1
  have a1_8 := (cell_of_arr HA1.out (j := 8) rfl).1
  clear O7
  go_wp2
  go_ret
  exact ⟨rfl, HW.out⟩
set_option maxRecDepth 100000 in
set_option maxHeartbeats 4000000 in
theorem walk (v0 : Value) (z0 : Lf) (v1 : Value) (z1 : Lf) (x2 : Bool) (w : World) (ht : TabAt w) (hv0 : LfL w v0 z0) (hv1 : LfL w v1 z1) :
    Calls Tryd.prog 5 #[v0, v1, .bool x2] w fun e w' => e = .returned (.bool true) ∧ Below w.heap.size w w' := by
  by_cases hz0 : (LfSz z0) ≤ 1048576
  rotate_left
  · have HT := Lib.hid ht
    clear ht
    have HV0 := Lib.hid hv0
    obtain ⟨ao6_0, n6_0, c6_0, rfl, _, _, _, _, _, _, _, _⟩ := hv0.out
    clear hv0
    have HV1 := Lib.hid hv1
    obtain ⟨ao6_1, n6_1, c6_1, rfl, _, _, _, _, _, _, _, _⟩ := hv1.out
    clear hv1
    go_enter Tryd.func5, Tryd.ntmps5
    have HW := Lib.hid (show Below w.heap.size w ((w.alloc (.cells #[.string z0.id, .string z0.fl, .int .i64 z0.nu, .string z0.ve.1, .int .i64 z0.ve.2.1, .int .i64 z0.ve.2.2, .int .i64 z0.wd, .int .i64 z0.ln, .slice ao6_0 n6_0 c6_0] 26)).alloc (.cells #[.string z1.id, .string z1.fl, .int .i64 z1.nu, .string z1.ve.1, .int .i64 z1.ve.2.1, .int .i64 z1.ve.2.2, .int .i64 z1.wd, .int .i64 z1.ln, .slice ao6_1 n6_1 c6_1] 26)) from two_allocs _ _)
    have ha := World.alloc_heap_new w (.cells #[.string z0.id, .string z0.fl, .int .i64 z0.nu, .string z0.ve.1, .int .i64 z0.ve.2.1, .int .i64 z0.ve.2.2, .int .i64 z0.wd, .int .i64 z0.ln, .slice ao6_0 n6_0 c6_0] 26)
    replace ha := (Below.heap_alloc (w.alloc (.cells #[.string z0.id, .string z0.fl, .int .i64 z0.nu, .string z0.ve.1, .int .i64 z0.ve.2.1, .int .i64 z0.ve.2.2, .int .i64 z0.wd, .int .i64 z0.ln, .slice ao6_0 n6_0 c6_0] 26)) (.cells #[.string z1.id, .string z1.fl, .int .i64 z1.nu, .string z1.ve.1, .int .i64 z1.ve.2.1, .int .i64 z1.ve.2.2, .int .i64 z1.wd, .int .i64 z1.ln, .slice ao6_1 n6_1 c6_1] 26) (w.heap.size) (by simp; try omega)).trans ha
    have HA0 := Lib.hid ha
    clear ha
    have ha := World.alloc_heap_new (w.alloc (.cells #[.string z0.id, .string z0.fl, .int .i64 z0.nu, .string z0.ve.1, .int .i64 z0.ve.2.1, .int .i64 z0.ve.2.2, .int .i64 z0.wd, .int .i64 z0.ln, .slice ao6_0 n6_0 c6_0] 26)) (.cells #[.string z1.id, .string z1.fl, .int .i64 z1.nu, .string z1.ve.1, .int .i64 z1.ve.2.1, .int .i64 z1.ve.2.2, .int .i64 z1.wd, .int .i64 z1.ln, .slice ao6_1 n6_1 c6_1] 26)
    rw [show (w.alloc (.cells #[.string z0.id, .string z0.fl, .int .i64 z0.nu, .string z0.ve.1, .int .i64 z0.ve.2.1, .int .i64 z0.ve.2.2, .int .i64 z0.wd, .int .i64 z0.ln, .slice ao6_0 n6_0 c6_0] 26)).heap.size = w.heap.size + 1 by simp] at ha
    have HA1 := Lib.hid ha
    clear ha
    have HL0 := Lib.hid (lft_no (l := (1048576 : Int)) (n := (LfSz z0)) (by omega))
    go_wp2_with fail
    refine (szLf_any _ z0 ((1048576 : Int)) _ (by omega) (by omega) (HV0.out.below HW.out)).mono ?_
    rintro e w1 ⟨rfl, g1⟩
    replace HA0 := Lib.hid ((g1.block _ (blk_lt HA0.out)).trans HA0.out)
    replace HA1 := Lib.hid ((g1.block _ (blk_lt HA1.out)).trans HA1.out)
    replace HW := Lib.hid (bseq HW.out g1)
    clear g1
    have hza0 := blk_lt HA0.out
    have a0_0 := (cell_of_arr HA0.out (j := 0) rfl).1
    have a0_1 := (cell_of_arr HA0.out (j := 1) rfl).1
    have a0_2 := (cell_of_arr HA0.out (j := 2) rfl).1
    have a0_3 := (cell_of_arr HA0.out (j := 3) rfl).1
    have a0_4 := (cell_of_arr HA0.out (j := 4) rfl).1
    have a0_5 := (cell_of_arr HA0.out (j := 5) rfl).1
    have a0_6 := (cell_of_arr HA0.out (j := 6) rfl).1
    have a0_7 := (cell_of_arr HA0.out (j := 7) rfl).1
    have a0_8 := (cell_of_arr HA0.out (j := 8) rfl).1
    have hza1 := blk_lt HA1.out
    have a1_0 := (cell_of_arr HA1.out (j := 0) rfl).1
    have a1_1 := (cell_of_arr HA1.out (j := 1) rfl).1
    have a1_2 := (cell_of_arr HA1.out (j := 2) rfl).1
    have a1_3 := (cell_of_arr HA1.out (j := 3) rfl).1
    have a1_4 := (cell_of_arr HA1.out (j := 4) rfl).1
    have a1_5 := (cell_of_arr HA1.out (j := 5) rfl).1
    have a1_6 := (cell_of_arr HA1.out (j := 6) rfl).1
    have a1_7 := (cell_of_arr HA1.out (j := 7) rfl).1
    have a1_8 := (cell_of_arr HA1.out (j := 8) rfl).1
    rw [HL0.out]
    go_wp2
    go_ret
    exact ⟨rfl, HW.out⟩
  by_cases hz1 : (LfSz z0) + (LfSz z1) ≤ 1048576
  rotate_left
  · have HT := Lib.hid ht
    clear ht
    have HV0 := Lib.hid hv0
    obtain ⟨ao6_0, n6_0, c6_0, rfl, _, _, _, _, _, _, _, _⟩ := hv0.out
    clear hv0
    have HV1 := Lib.hid hv1
    obtain ⟨ao6_1, n6_1, c6_1, rfl, _, _, _, _, _, _, _, _⟩ := hv1.out
    clear hv1
    go_enter Tryd.func5, Tryd.ntmps5
    have HW := Lib.hid (show Below w.heap.size w ((w.alloc (.cells #[.string z0.id, .string z0.fl, .int .i64 z0.nu, .string z0.ve.1, .int .i64 z0.ve.2.1, .int .i64 z0.ve.2.2, .int .i64 z0.wd, .int .i64 z0.ln, .slice ao6_0 n6_0 c6_0] 26)).alloc (.cells #[.string z1.id, .string z1.fl, .int .i64 z1.nu, .string z1.ve.1, .int .i64 z1.ve.2.1, .int .i64 z1.ve.2.2, .int .i64 z1.wd, .int .i64 z1.ln, .slice ao6_1 n6_1 c6_1] 26)) from two_allocs _ _)
    have ha := World.alloc_heap_new w (.cells #[.string z0.id, .string z0.fl, .int .i64 z0.nu, .string z0.ve.1, .int .i64 z0.ve.2.1, .int .i64 z0.ve.2.2, .int .i64 z0.wd, .int .i64 z0.ln, .slice ao6_0 n6_0 c6_0] 26)
    replace ha := (Below.heap_alloc (w.alloc (.cells #[.string z0.id, .string z0.fl, .int .i64 z0.nu, .string z0.ve.1, .int .i64 z0.ve.2.1, .int .i64 z0.ve.2.2, .int .i64 z0.wd, .int .i64 z0.ln, .slice ao6_0 n6_0 c6_0] 26)) (.cells #[.string z1.id, .string z1.fl, .int .i64 z1.nu, .string z1.ve.1, .int .i64 z1.ve.2.1, .int .i64 z1.ve.2.2, .int .i64 z1.wd, .int .i64 z1.ln, .slice ao6_1 n6_1 c6_1] 26) (w.heap.size) (by simp; try omega)).trans ha
    have HA0 := Lib.hid ha
    clear ha
    have ha := World.alloc_heap_new (w.alloc (.cells #[.string z0.id, .string z0.fl, .int .i64 z0.nu, .string z0.ve.1, .int .i64 z0.ve.2.1, .int .i64 z0.ve.2.2, .int .i64 z0.wd, .int .i64 z0.ln, .slice ao6_0 n6_0 c6_0] 26)) (.cells #[.string z1.id, .string z1.fl, .int .i64 z1.nu, .string z1.ve.1, .int .i64 z1.ve.2.1, .int .i64 z1.ve.2.2, .int .i64 z1.wd, .int .i64 z1.ln, .slice ao6_1 n6_1 c6_1] 26)
    rw [show (w.alloc (.cells #[.string z0.id, .string z0.fl, .int .i64 z0.nu, .string z0.ve.1, .int .i64 z0.ve.2.1, .int .i64 z0.ve.2.2, .int .i64 z0.wd, .int .i64 z0.ln, .slice ao6_0 n6_0 c6_0] 26)).heap.size = w.heap.size + 1 by simp] at ha
    have HA1 := Lib.hid ha
    clear ha
    have HL0 := Lib.hid (lft_ok (l := (1048576 : Int)) (n := (LfSz z0)) (by omega))
    have hd0 : decide ((1048576 : Int) - ((LfSz z0) : Int) < 0) = false := by simp; omega
    go_wp2_with fail
    refine (szLf_any _ z0 ((1048576 : Int)) _ (by omega) (by omega) (HV0.out.below HW.out)).mono ?_
    rintro e w1 ⟨rfl, g1⟩
    replace HA0 := Lib.hid ((g1.block _ (blk_lt HA0.out)).trans HA0.out)
    replace HA1 := Lib.hid ((g1.block _ (blk_lt HA1.out)).trans HA1.out)
    replace HW := Lib.hid (bseq HW.out g1)
    clear g1
    have hza0 := blk_lt HA0.out
    have a0_0 := (cell_of_arr HA0.out (j := 0) rfl).1
    have a0_1 := (cell_of_arr HA0.out (j := 1) rfl).1
    have a0_2 := (cell_of_arr HA0.out (j := 2) rfl).1
    have a0_3 := (cell_of_arr HA0.out (j := 3) rfl).1
    have a0_4 := (cell_of_arr HA0.out (j := 4) rfl).1
    have a0_5 := (cell_of_arr HA0.out (j := 5) rfl).1
    have a0_6 := (cell_of_arr HA0.out (j := 6) rfl).1
    have a0_7 := (cell_of_arr HA0.out (j := 7) rfl).1
    have a0_8 := (cell_of_arr HA0.out (j := 8) rfl).1
    have hza1 := blk_lt HA1.out
    have a1_0 := (cell_of_arr HA1.out (j := 0) rfl).1
    have a1_1 := (cell_of_arr HA1.out (j := 1) rfl).1
    have a1_2 := (cell_of_arr HA1.out (j := 2) rfl).1
    have a1_3 := (cell_of_arr HA1.out (j := 3) rfl).1
    have a1_4 := (cell_of_arr HA1.out (j := 4) rfl).1
    have a1_5 := (cell_of_arr HA1.out (j := 5) rfl).1
    have a1_6 := (cell_of_arr HA1.out (j := 6) rfl).1
    have a1_7 := (cell_of_arr HA1.out (j := 7) rfl).1
    have a1_8 := (cell_of_arr HA1.out (j := 8) rfl).1
    rw [HL0.out]
    have HL1 := Lib.hid (lft_no (l := (1048576 : Int) - ((LfSz z0) : Int)) (n := (LfSz z1)) (by omega))
    go_wp2_with fail
    refine (szLf_any _ z1 ((1048576 : Int) - ((LfSz z0) : Int)) _ (by omega) (by omega) (HV1.out.below HW.out)).mono ?_
    rintro e w2 ⟨rfl, g2⟩
    clear hza0 a0_0 a0_1 a0_2 a0_3 a0_4 a0_5 a0_6 a0_7 a0_8 hza1 a1_0 a1_1 a1_2 a1_3 a1_4 a1_5 a1_6 a1_7 a1_8
    replace HA0 := Lib.hid ((g2.block _ (blk_lt HA0.out)).trans HA0.out)
    replace HA1 := Lib.hid ((g2.block _ (blk_lt HA1.out)).trans HA1.out)
    replace HW := Lib.hid (bseq HW.out g2)
    clear g2
    have hza0 := blk_lt HA0.out
    have a0_0 := (cell_of_arr HA0.out (j := 0) rfl).1
    have a0_1 := (cell_of_arr HA0.out (j := 1) rfl).1
    have a0_2 := (cell_of_arr HA0.out (j := 2) rfl).1
    have a0_3 := (cell_of_arr HA0.out (j := 3) rfl).1
    have a0_4 := (cell_of_arr HA0.out (j := 4) rfl).1
    have a0_5 := (cell_of_arr HA0.out (j := 5) rfl).1
    have a0_6 := (cell_of_arr HA0.out (j := 6) rfl).1
    have a0_7 := (cell_of_arr HA0.out (j := 7) rfl).1
    have a0_8 := (cell_of_arr HA0.out (j := 8) rfl).1
    have hza1 := blk_lt HA1.out
    have a1_0 := (cell_of_arr HA1.out (j := 0) rfl).1
    have a1_1 := (cell_of_arr HA1.out (j := 1) rfl).1
    have a1_2 := (cell_of_arr HA1.out (j := 2) rfl).1
    have a1_3 := (cell_of_arr HA1.out (j := 3) rfl).1
    have a1_4 := (cell_of_arr HA1.out (j := 4) rfl).1
    have a1_5 := (cell_of_arr HA1.out (j := 5) rfl).1
    have a1_6 := (cell_of_arr HA1.out (j := 6) rfl).1
    have a1_7 := (cell_of_arr HA1.out (j := 7) rfl).1
    have a1_8 := (cell_of_arr HA1.out (j := 8) rfl).1
    rw [HL1.out]
    go_wp2
    go_ret
    exact ⟨rfl, HW.out⟩
  exact walk_in v0 z0 v1 z1 x2 w ht (by omega) hv0 hv1

set_option maxRecDepth 100000 in
theorem contract (H : Type) (enc : TypeId × Value → H) (W : World) (base : Nat) (args : Array Value) (ds gs : List (DataW H)) (before : List MemPlace)
    (hval : ∀ (j : Nat) t v, Tryd.f5.params[j]? = some t → args[j]? = some v → Value.okWide Tryd.prog W .any base t v)
    (hW : DataW.Whole enc Tryd.prog Tryd.f5.params.toList Rows.fnExactMatchScoreSpec.vars false W args.toList ds gs before) (hL : laidMetH Tryd.prog Rows.fnExactMatchScoreRow.laid W) (hsh : W.ShapedOpen Tryd.prog) :
    Calls Tryd.prog 5 args W fun e W' => ∃ v, e = .returned v ∧ Rows.fnExactMatchScoreSpec.post enc Tryd.prog Tryd.f5 false true false false W args v W' := by
  have hW' := hW
  obtain ⟨p, q, hA0, hV, rfl, hfz, hnd⟩ := hW
  have hV' : DataW.TrodVars enc Tryd.prog W (fun _ => true) ["loop.example/g00956/impl.speciesTable"] gs q := hV
  have hA : DataW.TrodAll enc Tryd.prog W 0 (fun _ => true) true Tryd.f5.params.toList args.toList ds p := hA0
  rw [Tryd.params5] at hA hval
  obtain ⟨v0, vs0, d0, ds0, p0, q0, hargs, rfl, rfl, h0, r0⟩ := trodAll_cons hA
  obtain ⟨v1, vs1, d1, ds1, p1, q1, rfl, rfl, rfl, h1, r1⟩ := trodAll_cons r0
  obtain ⟨v2, vs2, d2, ds2, p2, q2, rfl, rfl, rfl, h2, r2⟩ := trodAll_cons r1
  obtain ⟨rfl, rfl, rfl⟩ := trodAll_nil r2
  obtain rfl : args = #[v0, v1, v2] := by cases args; simp_all
  clear hA0
  have ht : TabAt W := by
    have hL1 := hL
    rw [MakeChecks.laidMetH_plain _ _ _ (by kernel_rfl)] at hL1
    exact tabAt_of hL1 (by unfold Rows.fnExactMatchScoreRow; simp)
  obtain ⟨gg, hgs⟩ : ∃ gg, gs = [gg] := by
    obtain ⟨_, _, _, _, d, _, hh, _⟩ := trodVars_one hV'
    exact ⟨d, hh⟩
  subst hgs
  have l0 : ∀ x ∈ p0, x.block < W.heap.size := fun x hx => hW'.lt x (by simp [hx])
  have l1 : ∀ x ∈ p1, x.block < W.heap.size := fun x hx => hW'.lt x (by simp [hx])
  have l2 : ∀ x ∈ p2, x.block < W.heap.size := fun x hx => hW'.lt x (by simp [hx])
  have e0 := hval 0 26 v0 rfl rfl
  obtain ⟨z0, lv0⟩ := open_Lf e0 h0
  have e1 := hval 1 26 v1 rfl rfl
  obtain ⟨z1, lv1⟩ := open_Lf e1 h1
  have e2 := hval 2 4 v2 rfl rfl
  obtain ⟨a2, e2v, _⟩ := open_bool Tryd.underlying4 e2 h2
  have hc := walk v0 z0 v1 z1 a2 W ht  lv0 lv1
  simp only [← e2v] at hc
  refine hc.mono fun e W' ⟨he, hg⟩ => ?_
  subst he
  exact ⟨_, rfl, post_below (pa := (p0 ++ (p1 ++ (p2 ++ [])))) (pv := q) hW' (fun _ _ _ => (trodAll_cons_mk (shut_bool Tryd.underlying4 _) trodAll_mk0)) (fun sp hsp => (trodAll_cons_mk (trod_again (by decide) h0 l0 hg sp (fun x hx => hsp x (by simp [hx]))) (trodAll_cons_mk (trod_again (by decide) h1 l1 hg sp (fun x hx => hsp x (by simp [hx]))) (trodAll_cons_mk (trod_again (by decide) h2 l2 hg sp (fun x hx => hsp x (by simp [hx]))) trodAll_mk0)))) (fun sp hsp => species_stay hg hV' (fun x hx => hsp x (by first | exact hx | simp [hx]))) (by simp)
    hg (ok_one (by kernel_rfl) rfl (okWide_bool_mk Tryd.underlying4 _))⟩

set_option maxRecDepth 100000 in
theorem lifted (os : Os) (started : os.Started) (H : Type) (enc : TypeId × Value → H) (F : Stop.Interp) :
    ReturnsInHanded {} Tryd.checked os 5 .any ((OpenSpec.ofChange Rows.fnExactMatchScoreSpec).preRow enc Tryd.prog Tryd.f5 Rows.fnExactMatchScoreRow.domain false Rows.fnExactMatchScoreRow.laid) (((OpenSpec.ofChange Rows.fnExactMatchScoreSpec).at F).post enc Tryd.prog Tryd.f5 false true false false) := by
  refine returnsInHanded_of_row (C := Tryd.checked) (s := OpenSpec.ofChange Rows.fnExactMatchScoreSpec) own started (by kernel_rfl) Tryd.func5
    (ChangeSpec.witness_shaped (enc := enc) (C := Tryd.checked) (os := os) (X := fun w _ => laidMetH Tryd.prog Rows.fnExactMatchScoreRow.laid w) false (World.laidAll Tryd.prog os Rows.fnExactMatchScoreRow.laid) #[.agg #[.string ByteArray.empty, .string ByteArray.empty, .int .i64 0, .string ByteArray.empty, .int .i64 0, .int .i64 0, .int .i64 0, .int .i64 0, .slice none 0 0], .agg #[.string ByteArray.empty, .string ByteArray.empty, .int .i64 0, .string ByteArray.empty, .int .i64 0, .int .i64 0, .int .i64 0, .int .i64 0, .slice none 0 0], .bool false] 8 (World.laidAll_os _ _ _)
      (World.shaped_of_ZipB (by kernel_rfl) (by kernel_rfl)) (by kernel_rfl) (by kernel_rfl) (by kernel_rfl)
      (by rw [MakeChecks.laidMetH_plain _ _ _ (by kernel_rfl)]; exact laidMet_laidAll _ (by kernel_rfl) (by kernel_rfl))) ?_
  intro W base args ds gs before hval hW _ _ _ hL hsh _
  exact contract H enc W base args ds gs before hval hW hL hsh

theorem said : Rows.FnExactMatchScoreSaid :=
  OpenClaim.holds_of_cond 5 Tryd.f5 rfl rfl rfl rfl rfl rfl rfl ⟨rfl, rfl, rfl, rfl, rfl⟩ rfl rfl rfl rfl rfl (by kernel_rfl) Tryd.func5 (by kernel_rfl)
    (of_decide_eq_true (by kernel_rfl)) (by unfold Func.isWrapper; first | (rw [if_pos (by decide +kernel)]; kernel_rfl) | (rw [if_neg (by decide +kernel)]; exact ⟨rfl, rfl⟩))
    (fun os started H enc _ F => by rw [OpenClaim.pre_eq_preRow]; exact lifted os started H enc F)

theorem plain (f : FuncId) (fn : Func) (hf : Tryd.pinned.checked.prog.funcNamed Rows.fnExactMatchScoreRow.func = some f) (hfn : Tryd.pinned.checked.prog.funcs[f]? = some fn) :
    Rows.fnExactMatchScoreCard.stood.looks = Tryd.pinned.checked.prog.looks [] ∧ ∀ (j : Nat) t, fn.params[j]? = some t → Tryd.pinned.checked.prog.wantsStandIn t = false := by
  obtain rfl : f = 5 := Option.some.inj ((show Tryd.prog.funcNamed Rows.fnExactMatchScoreRow.func = some 5 by kernel_rfl).symm.trans hf) |>.symm
  obtain rfl : fn = Tryd.f5 := (Option.some.inj (Tryd.func5.symm.trans hfn)).symm
  refine ⟨by kernel_rfl, fun j t ht => ?_⟩
  rw [Tryd.params5] at ht
  have hm : t ∈ [26, 26, 4] := by simpa using Array.mem_of_getElem? ht
  have hall : ([26, 26, 4].all fun u => !Tryd.prog.wantsStandIn u) = true := by kernel_rfl
  exact (show Tryd.prog.wantsStandIn t = false by simpa using List.all_eq_true.1 hall t hm)

theorem card : Rows.FnExactMatchScoreCardSaid :=
  Claim7.holds_tied_plain_at .later [] _ _ _ _ said (fun _ h => by cases h) (by kernel_rfl) (fun _ h => by cases h) fnExactMatchScore_row_tie rfl ⟨rfl, rfl⟩ (by kernel_rfl) rfl plain (by kernel_rfl)
#print axioms card
end Go.Proofs.YtcjpplijbdfgbaaDoor.fnExactMatchScore
