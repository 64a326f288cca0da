/- FnExactVeneerFault returns true at every veneer, leaf, number and rules. Condition: the table of species is as the program text lays it (tied). -/
import Derived.Test.YtmfchcaidfloaaaDoorCards
import Derived.Test.YtmfchcaidfloaaaDoorTie
import Derived.Test.YtmfchcaidfloaaaDoorVenLaid
import Derived.Test.YtmfchcaidfloaaaDoorNst4
import Derived.Test.YtmfchcaidfloaaaDoorK20
import Derived.Test.YtmfchcaidfloaaaDoorFlIn
import Derived.Test.YtmfchcaidfloaaaDoorVenArg
import Derived.Test.YtmfchcaidfloaaaDoorSeq3
import Derived.Test.YtmfchcaidfloaaaDoorPost
import Derived.Test.YtmfchcaidfloaaaDoorK5
import Derived.WalkKit
import Derived.ProofKit
import Derived.OpenShut
import Derived.ChangeMaps5
import Derived.ChangeVars
import Derived.Deep.DeepHandedRow
import Derived.Lib.LaidTab
import Derived.Lib.LaidU8
import Derived.Lay
import Derived.LaidMore
import Derived.LaidSub
import Derived.MakeChecks
import Derived.SevenTiedAt
namespace Go.Proofs.YtmfchcaidfloaaaDoor.fnExactVeneerFault
open Seq2 Go.ChangeShapes Go.WideShapes Go.ChangeAt Go.RowKit Go.WideElems Go.ChangeMaps
set_option linter.unusedVariables false
set_option linter.unusedSimpArgs false

theorem own : ownKnob Tryd.prog.godebug = none := by kernel_rfl

set_option maxRecDepth 100000 in
set_option maxHeartbeats 8000000 in
theorem walk_in (s0 : ByteArray) (x0 y0 : Int) (v1 : Value) (z1 : Lf) (x2 : Int) (x3 y3 a3 b3 : Int) (w : World) (ht : TabAt w) (he : ErrsAt w) (hsum : s0.size + (LfSz z1) ≤ 1048576) (hm0 : s0.size ≤ 9223372036854775807) (hx0 : (Lit.int .i64 x0).wf = true) (hy0 : (Lit.int .i64 y0).wf = true) (hv1 : LfL w v1 z1) (hx2 : (Lit.int .i64 x2).wf = true) :
    Calls Tryd.prog 5 #[.agg #[.string s0, .int .i64 x0, .int .i64 y0], v1, .int .i64 x2, .agg #[.int .i64 x3, .int .i64 y3, .int .i64 a3, .int .i64 b3]] w fun e w' => e = .returned (.bool true) ∧ Below w.heap.size w w' := by
  have HS0 := Lib.hid (show s0.size ≤ 1048576 by omega)
  have HS1 := Lib.hid (show (LfSz z1) ≤ 1048576 by omega)
  have HT := Lib.hid ht
  clear ht
  have HE := Lib.hid he
  clear he
  have HV1 := Lib.hid hv1
  obtain ⟨ao6_1, n6_1, c6_1, rfl, _, _, _, _, _, _, _, _⟩ := hv1.out
  clear hv1
  go_enter Tryd.func5, Tryd.ntmps5
  have HW := Lib.hid (show Below w.heap.size w (((w.alloc (.cells #[.string s0, .int .i64 x0, .int .i64 y0] 33)).alloc (.cells #[.string z1.id, .string z1.fl, .int .i64 z1.nu, .string z1.ve.1, .int .i64 z1.ve.2.1, .int .i64 z1.ve.2.2, .int .i64 z1.wd, .int .i64 z1.ln, .slice ao6_1 n6_1 c6_1] 36)).alloc (.cells #[.int .i64 x3, .int .i64 y3, .int .i64 a3, .int .i64 b3] 38)) from three_allocs _ _ _)
  have ha := World.alloc_heap_new w (.cells #[.string s0, .int .i64 x0, .int .i64 y0] 33)
  replace ha := (Below.heap_alloc (w.alloc (.cells #[.string s0, .int .i64 x0, .int .i64 y0] 33)) (.cells #[.string z1.id, .string z1.fl, .int .i64 z1.nu, .string z1.ve.1, .int .i64 z1.ve.2.1, .int .i64 z1.ve.2.2, .int .i64 z1.wd, .int .i64 z1.ln, .slice ao6_1 n6_1 c6_1] 36) (w.heap.size) (by simp; try omega)).trans ha
  replace ha := (Below.heap_alloc ((w.alloc (.cells #[.string s0, .int .i64 x0, .int .i64 y0] 33)).alloc (.cells #[.string z1.id, .string z1.fl, .int .i64 z1.nu, .string z1.ve.1, .int .i64 z1.ve.2.1, .int .i64 z1.ve.2.2, .int .i64 z1.wd, .int .i64 z1.ln, .slice ao6_1 n6_1 c6_1] 36)) (.cells #[.int .i64 x3, .int .i64 y3, .int .i64 a3, .int .i64 b3] 38) (w.heap.size) (by simp; try omega)).trans ha
  have HA0 := Lib.hid ha
  clear ha
  have ha := World.alloc_heap_new (w.alloc (.cells #[.string s0, .int .i64 x0, .int .i64 y0] 33)) (.cells #[.string z1.id, .string z1.fl, .int .i64 z1.nu, .string z1.ve.1, .int .i64 z1.ve.2.1, .int .i64 z1.ve.2.2, .int .i64 z1.wd, .int .i64 z1.ln, .slice ao6_1 n6_1 c6_1] 36)
  rw [show (w.alloc (.cells #[.string s0, .int .i64 x0, .int .i64 y0] 33)).heap.size = w.heap.size + 1 by simp] at ha
  replace ha := (Below.heap_alloc ((w.alloc (.cells #[.string s0, .int .i64 x0, .int .i64 y0] 33)).alloc (.cells #[.string z1.id, .string z1.fl, .int .i64 z1.nu, .string z1.ve.1, .int .i64 z1.ve.2.1, .int .i64 z1.ve.2.2, .int .i64 z1.wd, .int .i64 z1.ln, .slice ao6_1 n6_1 c6_1] 36)) (.cells #[.int .i64 x3, .int .i64 y3, .int .i64 a3, .int .i64 b3] 38) (w.heap.size + 1) (by simp; try omega)).trans ha
  have HA1 := Lib.hid ha
  clear ha
  have ha := World.alloc_heap_new ((w.alloc (.cells #[.string s0, .int .i64 x0, .int .i64 y0] 33)).alloc (.cells #[.string z1.id, .string z1.fl, .int .i64 z1.nu, .string z1.ve.1, .int .i64 z1.ve.2.1, .int .i64 z1.ve.2.2, .int .i64 z1.wd, .int .i64 z1.ln, .slice ao6_1 n6_1 c6_1] 36)) (.cells #[.int .i64 x3, .int .i64 y3, .int .i64 a3, .int .i64 b3] 38)
  rw [show ((w.alloc (.cells #[.string s0, .int .i64 x0, .int .i64 y0] 33)).alloc (.cells #[.string z1.id, .string z1.fl, .int .i64 z1.nu, .string z1.ve.1, .int .i64 z1.ve.2.1, .int .i64 z1.ve.2.2, .int .i64 z1.wd, .int .i64 z1.ln, .slice ao6_1 n6_1 c6_1] 36)).heap.size = w.heap.size + 1 + 1 by simp] at ha
  have HA2 := Lib.hid ha
  clear ha
  have hne : (vfR (s0, x0, y0) z1 x2 (x3, y3, a3, b3) != vfR (s0, x0, y0) z1 x2 (x3, y3, a3, b3)) = false := by simp
  have HL0 := Lib.hid (lft_ok (l := (1048576 : Int)) (n := s0.size) (by omega))
  have hd0 : decide ((1048576 : Int) - (s0.size : Int) < 0) = false := by simp; omega
  go_wp2_with fail
  refine (szVen_any s0 x0 y0 ((1048576 : Int)) _ (by omega) (by omega) hm0).mono ?_
  rintro e w1 ⟨rfl, g1⟩
  replace HA0 := Lib.hid ((g1.block _ (blk_lt HA0.out)).trans HA0.out)
  replace HA1 := Lib.hid ((g1.block _ (blk_lt HA1.out)).trans HA1.out)
  replace HA2 := Lib.hid ((g1.block _ (blk_lt HA2.out)).trans HA2.out)
  replace HW := Lib.hid (bseq HW.out g1)
  clear g1
  have hza0 := blk_lt HA0.out
  have a0_0 := (cell_of_arr HA0.out (j := 0) rfl).1
  have a0_1 := (cell_of_arr HA0.out (j := 1) rfl).1
  have a0_2 := (cell_of_arr HA0.out (j := 2) rfl).1
  have hza1 := blk_lt HA1.out
  have a1_0 := (cell_of_arr HA1.out (j := 0) rfl).1
  have a1_1 := (cell_of_arr HA1.out (j := 1) rfl).1
  have a1_2 := (cell_of_arr HA1.out (j := 2) rfl).1
  have a1_3 := (cell_of_arr HA1.out (j := 3) rfl).1
  have a1_4 := (cell_of_arr HA1.out (j := 4) rfl).1
  have a1_5 := (cell_of_arr HA1.out (j := 5) rfl).1
  have a1_6 := (cell_of_arr HA1.out (j := 6) rfl).1
  have a1_7 := (cell_of_arr HA1.out (j := 7) rfl).1
  have a1_8 := (cell_of_arr HA1.out (j := 8) rfl).1
  have hza2 := blk_lt HA2.out
  have a2_0 := (cell_of_arr HA2.out (j := 0) rfl).1
  have a2_1 := (cell_of_arr HA2.out (j := 1) rfl).1
  have a2_2 := (cell_of_arr HA2.out (j := 2) rfl).1
  have a2_3 := (cell_of_arr HA2.out (j := 3) rfl).1
  rw [HL0.out]
  have HL1 := Lib.hid (lft_ok (l := (1048576 : Int) - (s0.size : Int)) (n := (LfSz z1)) (by omega))
  have hd1 : decide ((1048576 : Int) - (s0.size : Int) - ((LfSz z1) : Int) < 0) = false := by simp; omega
  go_wp2_with fail
  refine (szLf_any _ z1 ((1048576 : Int) - (s0.size : Int)) _ (by omega) (by omega) (HV1.out.below HW.out)).mono ?_
  rintro e w2 ⟨rfl, g2⟩
  clear hza0 a0_0 a0_1 a0_2 hza1 a1_0 a1_1 a1_2 a1_3 a1_4 a1_5 a1_6 a1_7 a1_8 hza2 a2_0 a2_1 a2_2 a2_3
  replace HA0 := Lib.hid ((g2.block _ (blk_lt HA0.out)).trans HA0.out)
  replace HA1 := Lib.hid ((g2.block _ (blk_lt HA1.out)).trans HA1.out)
  replace HA2 := Lib.hid ((g2.block _ (blk_lt HA2.out)).trans HA2.out)
  replace HW := Lib.hid (bseq HW.out g2)
  clear g2
  have hza0 := blk_lt HA0.out
  have a0_0 := (cell_of_arr HA0.out (j := 0) rfl).1
  have a0_1 := (cell_of_arr HA0.out (j := 1) rfl).1
  have a0_2 := (cell_of_arr HA0.out (j := 2) rfl).1
  have hza1 := blk_lt HA1.out
  have a1_0 := (cell_of_arr HA1.out (j := 0) rfl).1
  have a1_1 := (cell_of_arr HA1.out (j := 1) rfl).1
  have a1_2 := (cell_of_arr HA1.out (j := 2) rfl).1
  have a1_3 := (cell_of_arr HA1.out (j := 3) rfl).1
  have a1_4 := (cell_of_arr HA1.out (j := 4) rfl).1
  have a1_5 := (cell_of_arr HA1.out (j := 5) rfl).1
  have a1_6 := (cell_of_arr HA1.out (j := 6) rfl).1
  have a1_7 := (cell_of_arr HA1.out (j := 7) rfl).1
  have a1_8 := (cell_of_arr HA1.out (j := 8) rfl).1
  have hza2 := blk_lt HA2.out
  have a2_0 := (cell_of_arr HA2.out (j := 0) rfl).1
  have a2_1 := (cell_of_arr HA2.out (j := 1) rfl).1
  have a2_2 := (cell_of_arr HA2.out (j := 2) rfl).1
  have a2_3 := (cell_of_arr HA2.out (j := 3) rfl).1
  rw [HL1.out]
  go_wp2
  refine Seq3.wp_region w2 [0, 2, 4, 5] [(1, []), (3, []), (6, []), (7, [8, 9, 10, 11, 12])] (by kernel_rfl) (by kernel_rfl) rfl (Below.refl _ _) (fun w1 hh hb1 => ?_)
  repeat (first | (refine Seq2.fl_row (by decide) ?_) | (refine Seq2.fl_skip (by kernel_rfl) (by kernel_rfl) ?_ ?_; (focus (go_simp; (first | done | (simp [undef]; done)))); (try simp only [Act.put, List.setIfInBounds_toArray, List.set_cons_zero, List.set_cons_succ])) | (refine Seq2.fl_val (by kernel_rfl) (by kernel_rfl) ?_ ?_; (focus (go_simp; done)); apply Exists.intro; refine ⟨fun w2 hw2 => ?_, ?_⟩; (focus (obtain ⟨hc, hf⟩ := bcell hw2; clear hw2; go_simp; (first | done | with_reducible rfl | (with_reducible exact eql2 _ _ _) | (with_reducible exact neq2 _ _ _)))); (try simp only [Act.put, List.setIfInBounds_toArray, List.set_cons_zero, List.set_cons_succ])))
  refine Seq2.fl_nil ?_
  refine Seq3.c3_one (by kernel_rfl) rfl ?_
  gi_wp2_with fail
  refine ⟨trivial, rfl, (callsIn_wide.2 (toVen_any s0 x0 y0 _)).mono ?_⟩
  rintro e w3 ⟨rfl, g3⟩
  have HB3 := Lib.hid (hb1.trans (g3.mono hb1.size))
  clear g3
  clear hh
  gi_wp2
  refine ⟨HB3.out, ?_⟩
  refine Seq3.c3_one (by kernel_rfl) rfl ?_
  gi_wp2_with fail
  refine ⟨trivial, rfl, (callsIn_wide.2 (toLf_own _ z1 _ HS1.out (HV1.out.below (HW.out.trans (HB3.out.mono HW.out.size))))).mono ?_⟩
  rintro e w4 ⟨v4, rfl, o4, g4⟩
  have HB4 := Lib.hid (HB3.out.trans (g4.mono HB3.out.size))
  clear g4
  have O4 := Lib.hid o4
  clear o4
  gi_wp2
  refine ⟨HB4.out, ?_⟩
  refine Seq3.c3_one (by kernel_rfl) rfl ?_
  gi_wp2_with fail
  refine ⟨trivial, rfl, (callsIn_wide.2 (toRu_any x3 y3 a3 b3 _)).mono ?_⟩
  rintro e w5 ⟨rfl, g5⟩
  have HB5 := Lib.hid (HB4.out.trans (g5.mono HB4.out.size))
  replace O4 := Lib.hid (O4.out.below g5)
  clear g5
  gi_wp2
  refine ⟨HB5.out, ?_⟩
  refine Seq3.c3_one (by kernel_rfl) rfl ?_
  gi_wp2_with fail
  refine ⟨trivial, rfl, (callsIn_wide.2 (vf_spec s0 x0 y0 _ z1 x2 x3 y3 a3 b3 _ (LfO.view O4.out))).mono ?_⟩
  rintro e w6 ⟨rfl, g6⟩
  have HB6 := Lib.hid (HB5.out.trans (g6.mono HB5.out.size))
  replace O4 := Lib.hid (O4.out.below g6)
  clear g6
  gi_wp2
  refine ⟨HB6.out, ?_⟩
  refine Seq3.mid 8 ?_
  simp only [List.drop_succ_cons, List.drop_zero]
  repeat (first | (refine Seq2.fl_row (by decide) ?_) | (refine Seq2.fl_skip (by kernel_rfl) (by kernel_rfl) ?_ ?_; (focus (go_simp; (first | done | (simp [undef]; done)))); (try simp only [Act.put, List.setIfInBounds_toArray, List.set_cons_zero, List.set_cons_succ])) | (refine Seq2.fl_val (by kernel_rfl) (by kernel_rfl) ?_ ?_; (focus (go_simp; done)); apply Exists.intro; refine ⟨fun w2 hw2 => ?_, ?_⟩; (focus (obtain ⟨hc, hf⟩ := bcell hw2; clear hw2; go_simp; (first | done | with_reducible rfl | (with_reducible exact eql2 _ _ _) | (with_reducible exact neq2 _ _ _)))); (try simp only [Act.put, List.setIfInBounds_toArray, List.set_cons_zero, List.set_cons_succ])))
  refine Seq2.fl_nil ?_
  refine Seq3.c3_nil (by kernel_rfl) ?_
  clear hb1
  have g0 := HB6.out
  clear hza0 a0_0 a0_1 a0_2 hza1 a1_0 a1_1 a1_2 a1_3 a1_4 a1_5 a1_6 a1_7 a1_8 hza2 a2_0 a2_1 a2_2 a2_3
  replace HA0 := Lib.hid ((g0.block _ (blk_lt HA0.out)).trans HA0.out)
  replace HA1 := Lib.hid ((g0.block _ (blk_lt HA1.out)).trans HA1.out)
  replace HA2 := Lib.hid ((g0.block _ (blk_lt HA2.out)).trans HA2.out)
  replace HW := Lib.hid (bseq HW.out g0)
  clear g0
  have hza0 := blk_lt HA0.out
  have a0_0 := (cell_of_arr HA0.out (j := 0) rfl).1
  have a0_1 := (cell_of_arr HA0.out (j := 1) rfl).1
  have a0_2 := (cell_of_arr HA0.out (j := 2) rfl).1
  have hza1 := blk_lt HA1.out
  have a1_0 := (cell_of_arr HA1.out (j := 0) rfl).1
  have a1_1 := (cell_of_arr HA1.out (j := 1) rfl).1
  have a1_2 := (cell_of_arr HA1.out (j := 2) rfl).1
  have a1_3 := (cell_of_arr HA1.out (j := 3) rfl).1
  have a1_4 := (cell_of_arr HA1.out (j := 4) rfl).1
  have a1_5 := (cell_of_arr HA1.out (j := 5) rfl).1
  have a1_6 := (cell_of_arr HA1.out (j := 6) rfl).1
  have a1_7 := (cell_of_arr HA1.out (j := 7) rfl).1
  have a1_8 := (cell_of_arr HA1.out (j := 8) rfl).1
  have hza2 := blk_lt HA2.out
  have a2_0 := (cell_of_arr HA2.out (j := 0) rfl).1
  have a2_1 := (cell_of_arr HA2.out (j := 1) rfl).1
  have a2_2 := (cell_of_arr HA2.out (j := 2) rfl).1
  have a2_3 := (cell_of_arr HA2.out (j := 3) rfl).1
  clear O4
  have HLO1 := Lib.hid HW.out.size
  have HZL1_0 := Lib.hid (blk_lt HA0.out)
  have HZL1_1 := Lib.hid (blk_lt HA1.out)
  have HZL1_2 := Lib.hid (blk_lt HA2.out)
  go_wp2_with fail
  refine (toLf_own _ z1 _ HS1.out (HV1.out.below HW.out)).mono ?_
  rintro e w7 ⟨v7, rfl, o7, g7⟩
  clear hza0 a0_0 a0_1 a0_2 hza1 a1_0 a1_1 a1_2 a1_3 a1_4 a1_5 a1_6 a1_7 a1_8 hza2 a2_0 a2_1 a2_2 a2_3
  replace HA0 := Lib.hid ((g7.block _ (blk_lt HA0.out)).trans HA0.out)
  replace HA1 := Lib.hid ((g7.block _ (blk_lt HA1.out)).trans HA1.out)
  replace HA2 := Lib.hid ((g7.block _ (blk_lt HA2.out)).trans HA2.out)
  replace HW := Lib.hid (bseq HW.out g7)
  clear g7
  have hza0 := blk_lt HA0.out
  have a0_0 := (cell_of_arr HA0.out (j := 0) rfl).1
  have a0_1 := (cell_of_arr HA0.out (j := 1) rfl).1
  have a0_2 := (cell_of_arr HA0.out (j := 2) rfl).1
  have hza1 := blk_lt HA1.out
  have a1_0 := (cell_of_arr HA1.out (j := 0) rfl).1
  have a1_1 := (cell_of_arr HA1.out (j := 1) rfl).1
  have a1_2 := (cell_of_arr HA1.out (j := 2) rfl).1
  have a1_3 := (cell_of_arr HA1.out (j := 3) rfl).1
  have a1_4 := (cell_of_arr HA1.out (j := 4) rfl).1
  have a1_5 := (cell_of_arr HA1.out (j := 5) rfl).1
  have a1_6 := (cell_of_arr HA1.out (j := 6) rfl).1
  have a1_7 := (cell_of_arr HA1.out (j := 7) rfl).1
  have a1_8 := (cell_of_arr HA1.out (j := 8) rfl).1
  have hza2 := blk_lt HA2.out
  have a2_0 := (cell_of_arr HA2.out (j := 0) rfl).1
  have a2_1 := (cell_of_arr HA2.out (j := 1) rfl).1
  have a2_2 := (cell_of_arr HA2.out (j := 2) rfl).1
  have a2_3 := (cell_of_arr HA2.out (j := 3) rfl).1
  have O7 := Lib.hid o7
  clear o7
  obtain ⟨og6_x7, oh6_x7, rfl, _, _, _, _, _, _, _, _, _, _, _⟩ := O7.out.out
  go_wp2
  clear hza0 a0_0 a0_1 a0_2 hza1 a1_0 a1_1 a1_2 a1_3 a1_4 a1_5 a1_6 a1_7 a1_8 hza2 a2_0 a2_1 a2_2 a2_3
  have gq := one_alloc (w := w7) (.cells #[.string z1.id, .string z1.fl, .int .i64 z1.nu, .string z1.ve.1, .int .i64 z1.ve.2.1, .int .i64 z1.ve.2.2, .int .i64 z1.wd, .int .i64 z1.ln, .slice (some ⟨og6_x7, 0, none⟩) z1.df.length z1.df.length] 47)
  have HX1 := Lib.hid (World.alloc_heap_new w7 (.cells #[.string z1.id, .string z1.fl, .int .i64 z1.nu, .string z1.ve.1, .int .i64 z1.ve.2.1, .int .i64 z1.ve.2.2, .int .i64 z1.wd, .int .i64 z1.ln, .slice (some ⟨og6_x7, 0, none⟩) z1.df.length z1.df.length] 47))
  replace HA0 := Lib.hid ((gq.block _ (blk_lt HA0.out)).trans HA0.out)
  replace HA1 := Lib.hid ((gq.block _ (blk_lt HA1.out)).trans HA1.out)
  replace HA2 := Lib.hid ((gq.block _ (blk_lt HA2.out)).trans HA2.out)
  replace O7 := Lib.hid (O7.out.below gq)
  replace HW := Lib.hid (bseq HW.out gq)
  clear gq
  generalize hwq : w7.alloc (.cells #[.string z1.id, .string z1.fl, .int .i64 z1.nu, .string z1.ve.1, .int .i64 z1.ve.2.1, .int .i64 z1.ve.2.2, .int .i64 z1.wd, .int .i64 z1.ln, .slice (some ⟨og6_x7, 0, none⟩) z1.df.length z1.df.length] 47) = w8 at *
  clear hwq
  have hza0 := blk_lt HA0.out
  have a0_0 := (cell_of_arr HA0.out (j := 0) rfl).1
  have a0_1 := (cell_of_arr HA0.out (j := 1) rfl).1
  have a0_2 := (cell_of_arr HA0.out (j := 2) rfl).1
  have hza1 := blk_lt HA1.out
  have a1_0 := (cell_of_arr HA1.out (j := 0) rfl).1
  have a1_1 := (cell_of_arr HA1.out (j := 1) rfl).1
  have a1_2 := (cell_of_arr HA1.out (j := 2) rfl).1
  have a1_3 := (cell_of_arr HA1.out (j := 3) rfl).1
  have a1_4 := (cell_of_arr HA1.out (j := 4) rfl).1
  have a1_5 := (cell_of_arr HA1.out (j := 5) rfl).1
  have a1_6 := (cell_of_arr HA1.out (j := 6) rfl).1
  have a1_7 := (cell_of_arr HA1.out (j := 7) rfl).1
  have a1_8 := (cell_of_arr HA1.out (j := 8) rfl).1
  have hza2 := blk_lt HA2.out
  have a2_0 := (cell_of_arr HA2.out (j := 0) rfl).1
  have a2_1 := (cell_of_arr HA2.out (j := 1) rfl).1
  have a2_2 := (cell_of_arr HA2.out (j := 2) rfl).1
  have a2_3 := (cell_of_arr HA2.out (j := 3) rfl).1
  have hzHX1 := blk_lt HX1.out
  have hx1_0 := (cell_of_arr HX1.out (j := 0) rfl).1
  have hx1_1 := (cell_of_arr HX1.out (j := 1) rfl).1
  have hx1_2 := (cell_of_arr HX1.out (j := 2) rfl).1
  have hx1_3 := (cell_of_arr HX1.out (j := 3) rfl).1
  have hx1_4 := (cell_of_arr HX1.out (j := 4) rfl).1
  have hx1_5 := (cell_of_arr HX1.out (j := 5) rfl).1
  have hx1_6 := (cell_of_arr HX1.out (j := 6) rfl).1
  have hx1_7 := (cell_of_arr HX1.out (j := 7) rfl).1
  have hx1_8 := (cell_of_arr HX1.out (j := 8) rfl).1
  refine Seq3.wp_region w8 [0, 2, 3, 4] [(1, []), (5, []), (6, [7, 8, 9, 10, 11])] (by kernel_rfl) (by kernel_rfl) rfl (Below.refl _ _) (fun w1 hh hb1 => ?_)
  repeat (first | (refine Seq2.fl_row (by decide) ?_) | (refine Seq2.fl_skip (by kernel_rfl) (by kernel_rfl) ?_ ?_; (focus (go_simp; (first | done | (simp [undef]; done)))); (try simp only [Act.put, List.setIfInBounds_toArray, List.set_cons_zero, List.set_cons_succ])) | (refine Seq2.fl_val (by kernel_rfl) (by kernel_rfl) ?_ ?_; (focus (go_simp; done)); apply Exists.intro; refine ⟨fun w2 hw2 => ?_, ?_⟩; (focus (obtain ⟨hc, hf⟩ := bcell hw2; clear hw2; go_simp; (first | done | with_reducible rfl | (with_reducible exact eql2 _ _ _) | (with_reducible exact neq2 _ _ _)))); (try simp only [Act.put, List.setIfInBounds_toArray, List.set_cons_zero, List.set_cons_succ])))
  refine Seq2.fl_nil ?_
  refine Seq3.c3_one (by kernel_rfl) rfl ?_
  gi_wp2_with fail
  refine ⟨trivial, rfl, (callsIn_wide.2 (toVen_any s0 x0 y0 _)).mono ?_⟩
  rintro e w9 ⟨rfl, g9⟩
  have HB9 := Lib.hid (hb1.trans (g9.mono hb1.size))
  clear g9
  clear hh
  gi_wp2
  refine ⟨HB9.out, ?_⟩
  refine Seq3.c3_one (by kernel_rfl) rfl ?_
  gi_wp2_with fail
  refine ⟨trivial, rfl, (callsIn_wide.2 (toRu_any x3 y3 a3 b3 _)).mono ?_⟩
  rintro e w10 ⟨rfl, g10⟩
  have HB10 := Lib.hid (HB9.out.trans (g10.mono HB9.out.size))
  clear g10
  gi_wp2
  refine ⟨HB10.out, ?_⟩
  refine Seq3.c3_one (by kernel_rfl) rfl ?_
  gi_wp2_with fail
  refine ⟨trivial, rfl, (callsIn_wide.2 (vf_impl s0 x0 y0 _ z1 x2 x3 y3 a3 b3 _ (LfO.view (O7.out.below HB10.out)) (HT.out.below (HW.out.trans (HB10.out.mono HW.out.size))) (HE.out.below (HW.out.trans (HB10.out.mono HW.out.size))))).mono ?_⟩
  rintro e w11 ⟨rfl, g11⟩
  have HB11 := Lib.hid (HB10.out.trans (g11.mono HB10.out.size))
  clear g11
  gi_wp2
  refine ⟨HB11.out, ?_⟩
  refine Seq3.mid 7 ?_
  simp only [List.drop_succ_cons, List.drop_zero]
  repeat (first | (refine Seq2.fl_row (by decide) ?_) | (refine Seq2.fl_skip (by kernel_rfl) (by kernel_rfl) ?_ ?_; (focus (go_simp; (first | done | (simp [undef]; done)))); (try simp only [Act.put, List.setIfInBounds_toArray, List.set_cons_zero, List.set_cons_succ])) | (refine Seq2.fl_val (by kernel_rfl) (by kernel_rfl) ?_ ?_; (focus (go_simp; done)); apply Exists.intro; refine ⟨fun w2 hw2 => ?_, ?_⟩; (focus (obtain ⟨hc, hf⟩ := bcell hw2; clear hw2; go_simp; (first | done | with_reducible rfl | (with_reducible exact eql2 _ _ _) | (with_reducible exact neq2 _ _ _)))); (try simp only [Act.put, List.setIfInBounds_toArray, List.set_cons_zero, List.set_cons_succ])))
  refine Seq2.fl_nil ?_
  refine Seq3.c3_nil (by kernel_rfl) ?_
  clear hb1
  have g0 := HB11.out
  clear hza0 a0_0 a0_1 a0_2 hza1 a1_0 a1_1 a1_2 a1_3 a1_4 a1_5 a1_6 a1_7 a1_8 hza2 a2_0 a2_1 a2_2 a2_3 hzHX1 hx1_0 hx1_1 hx1_2 hx1_3 hx1_4 hx1_5 hx1_6 hx1_7 hx1_8
  replace HA0 := Lib.hid ((g0.block _ (blk_lt HA0.out)).trans HA0.out)
  replace HA1 := Lib.hid ((g0.block _ (blk_lt HA1.out)).trans HA1.out)
  replace HA2 := Lib.hid ((g0.block _ (blk_lt HA2.out)).trans HA2.out)
  replace HX1 := Lib.hid ((g0.block _ (blk_lt HX1.out)).trans HX1.out)
  replace O7 := Lib.hid (O7.out.below g0)
  replace HW := Lib.hid (bseq HW.out g0)
  clear g0
  have hza0 := blk_lt HA0.out
  have a0_0 := (cell_of_arr HA0.out (j := 0) rfl).1
  have a0_1 := (cell_of_arr HA0.out (j := 1) rfl).1
  have a0_2 := (cell_of_arr HA0.out (j := 2) rfl).1
  have hza1 := blk_lt HA1.out
  have a1_0 := (cell_of_arr HA1.out (j := 0) rfl).1
  have a1_1 := (cell_of_arr HA1.out (j := 1) rfl).1
  have a1_2 := (cell_of_arr HA1.out (j := 2) rfl).1
  have a1_3 := (cell_of_arr HA1.out (j := 3) rfl).1
  have a1_4 := (cell_of_arr HA1.out (j := 4) rfl).1
  have a1_5 := (cell_of_arr HA1.out (j := 5) rfl).1
  have a1_6 := (cell_of_arr HA1.out (j := 6) rfl).1
  have a1_7 := (cell_of_arr HA1.out (j := 7) rfl).1
  have a1_8 := (cell_of_arr HA1.out (j := 8) rfl).1
  have hza2 := blk_lt HA2.out
  have a2_0 := (cell_of_arr HA2.out (j := 0) rfl).1
  have a2_1 := (cell_of_arr HA2.out (j := 1) rfl).1
  have a2_2 := (cell_of_arr HA2.out (j := 2) rfl).1
  have a2_3 := (cell_of_arr HA2.out (j := 3) rfl).1
  have hzHX1 := blk_lt HX1.out
  have hx1_0 := (cell_of_arr HX1.out (j := 0) rfl).1
  have hx1_1 := (cell_of_arr HX1.out (j := 1) rfl).1
  have hx1_2 := (cell_of_arr HX1.out (j := 2) rfl).1
  have hx1_3 := (cell_of_arr HX1.out (j := 3) rfl).1
  have hx1_4 := (cell_of_arr HX1.out (j := 4) rfl).1
  have hx1_5 := (cell_of_arr HX1.out (j := 5) rfl).1
  have hx1_6 := (cell_of_arr HX1.out (j := 6) rfl).1
  have hx1_7 := (cell_of_arr HX1.out (j := 7) rfl).1
  have hx1_8 := (cell_of_arr HX1.out (j := 8) rfl).1
  go_wp2
  refine Seq3.wp_region w11 [0, 1] [(2, []), (3, [4])] (by kernel_rfl) (by kernel_rfl) rfl (Below.refl _ _) (fun w1 hh hb1 => ?_)
  repeat (first | (refine Seq2.fl_row (by decide) ?_) | (refine Seq2.fl_skip (by kernel_rfl) (by kernel_rfl) ?_ ?_; (focus (go_simp; (first | done | (simp [undef]; done)))); (try simp only [Act.put, List.setIfInBounds_toArray, List.set_cons_zero, List.set_cons_succ])) | (refine Seq2.fl_val (by kernel_rfl) (by kernel_rfl) ?_ ?_; (focus (go_simp; done)); apply Exists.intro; refine ⟨fun w2 hw2 => ?_, ?_⟩; (focus (obtain ⟨hc, hf⟩ := bcell hw2; clear hw2; go_simp; (first | done | with_reducible rfl | (with_reducible exact eql2 _ _ _) | (with_reducible exact neq2 _ _ _)))); (try simp only [Act.put, List.setIfInBounds_toArray, List.set_cons_zero, List.set_cons_succ])))
  refine Seq2.fl_nil ?_
  refine Seq3.c3_one (by kernel_rfl) rfl ?_
  gi_wp2_with fail
  refine ⟨trivial, rfl, (callsIn_wide.2 (toLf_own _ z1 _ HS1.out (HV1.out.below (HW.out.trans (hb1.mono HW.out.size))))).mono ?_⟩
  rintro e w12 ⟨v12, rfl, o12, g12⟩
  have HB12 := Lib.hid (hb1.trans (g12.mono hb1.size))
  clear g12
  have O12 := Lib.hid o12
  clear o12
  clear hh
  gi_wp2
  refine ⟨HB12.out, ?_⟩
  refine Seq3.c3_one (by kernel_rfl) rfl ?_
  gi_wp2_with fail
  refine ⟨trivial, rfl, (callsIn_wide.2 (eqLf_same _ _ z1 _ (LfO.view (O7.out.below HB12.out)) (LfO.view O12.out))).mono ?_⟩
  rintro e w13 ⟨rfl, g13⟩
  have HB13 := Lib.hid (HB12.out.trans (g13.mono HB12.out.size))
  replace O12 := Lib.hid (O12.out.below g13)
  clear g13
  gi_wp2
  refine ⟨HB13.out, ?_⟩
  refine Seq3.mid 4 ?_
  simp only [List.drop_succ_cons, List.drop_zero]
  repeat (first | (refine Seq2.fl_row (by decide) ?_) | (refine Seq2.fl_skip (by kernel_rfl) (by kernel_rfl) ?_ ?_; (focus (go_simp; (first | done | (simp [undef]; done)))); (try simp only [Act.put, List.setIfInBounds_toArray, List.set_cons_zero, List.set_cons_succ])) | (refine Seq2.fl_val (by kernel_rfl) (by kernel_rfl) ?_ ?_; (focus (go_simp; done)); apply Exists.intro; refine ⟨fun w2 hw2 => ?_, ?_⟩; (focus (obtain ⟨hc, hf⟩ := bcell hw2; clear hw2; go_simp; (first | done | with_reducible rfl | (with_reducible exact eql2 _ _ _) | (with_reducible exact neq2 _ _ _)))); (try simp only [Act.put, List.setIfInBounds_toArray, List.set_cons_zero, List.set_cons_succ])))
  refine Seq2.fl_nil ?_
  refine Seq3.c3_nil (by kernel_rfl) ?_
  clear hb1
  have g0 := HB13.out
  clear hza0 a0_0 a0_1 a0_2 hza1 a1_0 a1_1 a1_2 a1_3 a1_4 a1_5 a1_6 a1_7 a1_8 hza2 a2_0 a2_1 a2_2 a2_3 hzHX1 hx1_0 hx1_1 hx1_2 hx1_3 hx1_4 hx1_5 hx1_6 hx1_7 hx1_8
  replace HA0 := Lib.hid ((g0.block _ (blk_lt HA0.out)).trans HA0.out)
  replace HA1 := Lib.hid ((g0.block _ (blk_lt HA1.out)).trans HA1.out)
  replace HA2 := Lib.hid ((g0.block _ (blk_lt HA2.out)).trans HA2.out)
  replace HX1 := Lib.hid ((g0.block _ (blk_lt HX1.out)).trans HX1.out)
  replace O7 := Lib.hid (O7.out.below g0)
  replace HW := Lib.hid (bseq HW.out g0)
  clear g0
  have hza0 := blk_lt HA0.out
  have a0_0 := (cell_of_arr HA0.out (j := 0) rfl).1
  have a0_1 := (cell_of_arr HA0.out (j := 1) rfl).1
  have a0_2 := (cell_of_arr HA0.out (j := 2) rfl).1
  have hza1 := blk_lt HA1.out
  have a1_0 := (cell_of_arr HA1.out (j := 0) rfl).1
  have a1_1 := (cell_of_arr HA1.out (j := 1) rfl).1
  have a1_2 := (cell_of_arr HA1.out (j := 2) rfl).1
  have a1_3 := (cell_of_arr HA1.out (j := 3) rfl).1
  have a1_4 := (cell_of_arr HA1.out (j := 4) rfl).1
  have a1_5 := (cell_of_arr HA1.out (j := 5) rfl).1
  have a1_6 := (cell_of_arr HA1.out (j := 6) rfl).1
  have a1_7 := (cell_of_arr HA1.out (j := 7) rfl).1
  have a1_8 := (cell_of_arr HA1.out (j := 8) rfl).1
  have hza2 := blk_lt HA2.out
  have a2_0 := (cell_of_arr HA2.out (j := 0) rfl).1
  have a2_1 := (cell_of_arr HA2.out (j := 1) rfl).1
  have a2_2 := (cell_of_arr HA2.out (j := 2) rfl).1
  have a2_3 := (cell_of_arr HA2.out (j := 3) rfl).1
  have hzHX1 := blk_lt HX1.out
  have hx1_0 := (cell_of_arr HX1.out (j := 0) rfl).1
  have hx1_1 := (cell_of_arr HX1.out (j := 1) rfl).1
  have hx1_2 := (cell_of_arr HX1.out (j := 2) rfl).1
  have hx1_3 := (cell_of_arr HX1.out (j := 3) rfl).1
  have hx1_4 := (cell_of_arr HX1.out (j := 4) rfl).1
  have hx1_5 := (cell_of_arr HX1.out (j := 5) rfl).1
  have hx1_6 := (cell_of_arr HX1.out (j := 6) rfl).1
  have hx1_7 := (cell_of_arr HX1.out (j := 7) rfl).1
  have hx1_8 := (cell_of_arr HX1.out (j := 8) rfl).1
  clear O12
  clear hza0 a0_0 a0_1 a0_2 hza1 a1_0 a1_1 a1_2 a1_3 a1_4 a1_5 a1_6 a1_7 a1_8 hza2 a2_0 a2_1 a2_2 a2_3 hzHX1 hx1_0 hx1_1 hx1_2 hx1_3 hx1_4 hx1_5 hx1_6 hx1_7 hx1_8
  clear HX1
  have hza0 := blk_lt HA0.out
  have a0_0 := (cell_of_arr HA0.out (j := 0) rfl).1
  have a0_1 := (cell_of_arr HA0.out (j := 1) rfl).1
  have a0_2 := (cell_of_arr HA0.out (j := 2) rfl).1
  have hza1 := blk_lt HA1.out
  have a1_0 := (cell_of_arr HA1.out (j := 0) rfl).1
  have a1_1 := (cell_of_arr HA1.out (j := 1) rfl).1
  have a1_2 := (cell_of_arr HA1.out (j := 2) rfl).1
  have a1_3 := (cell_of_arr HA1.out (j := 3) rfl).1
  have a1_4 := (cell_of_arr HA1.out (j := 4) rfl).1
  have a1_5 := (cell_of_arr HA1.out (j := 5) rfl).1
  have a1_6 := (cell_of_arr HA1.out (j := 6) rfl).1
  have a1_7 := (cell_of_arr HA1.out (j := 7) rfl).1
  have a1_8 := (cell_of_arr HA1.out (j := 8) rfl).1
  have hza2 := blk_lt HA2.out
  have a2_0 := (cell_of_arr HA2.out (j := 0) rfl).1
  have a2_1 := (cell_of_arr HA2.out (j := 1) rfl).1
  have a2_2 := (cell_of_arr HA2.out (j := 2) rfl).1
  have a2_3 := (cell_of_arr HA2.out (j := 3) rfl).1
  clear O7
  go_wp2
  go_ret
  exact ⟨rfl, HW.out⟩
set_option maxRecDepth 100000 in
set_option maxHeartbeats 4000000 in
theorem walk (s0 : ByteArray) (x0 y0 : Int) (v1 : Value) (z1 : Lf) (x2 : Int) (x3 y3 a3 b3 : Int) (w : World) (ht : TabAt w) (he : ErrsAt w) (hm0 : s0.size ≤ 9223372036854775807) (hx0 : (Lit.int .i64 x0).wf = true) (hy0 : (Lit.int .i64 y0).wf = true) (hv1 : LfL w v1 z1) (hx2 : (Lit.int .i64 x2).wf = true) :
    Calls Tryd.prog 5 #[.agg #[.string s0, .int .i64 x0, .int .i64 y0], v1, .int .i64 x2, .agg #[.int .i64 x3, .int .i64 y3, .int .i64 a3, .int .i64 b3]] w fun e w' => e = .returned (.bool true) ∧ Below w.heap.size w w' := by
  by_cases hz0 : s0.size ≤ 1048576
  rotate_left
  · have HT := Lib.hid ht
    clear ht
    have HE := Lib.hid he
    clear he
    have HV1 := Lib.hid hv1
    obtain ⟨ao6_1, n6_1, c6_1, rfl, _, _, _, _, _, _, _, _⟩ := hv1.out
    clear hv1
    go_enter Tryd.func5, Tryd.ntmps5
    have HW := Lib.hid (show Below w.heap.size w (((w.alloc (.cells #[.string s0, .int .i64 x0, .int .i64 y0] 33)).alloc (.cells #[.string z1.id, .string z1.fl, .int .i64 z1.nu, .string z1.ve.1, .int .i64 z1.ve.2.1, .int .i64 z1.ve.2.2, .int .i64 z1.wd, .int .i64 z1.ln, .slice ao6_1 n6_1 c6_1] 36)).alloc (.cells #[.int .i64 x3, .int .i64 y3, .int .i64 a3, .int .i64 b3] 38)) from three_allocs _ _ _)
    have ha := World.alloc_heap_new w (.cells #[.string s0, .int .i64 x0, .int .i64 y0] 33)
    replace ha := (Below.heap_alloc (w.alloc (.cells #[.string s0, .int .i64 x0, .int .i64 y0] 33)) (.cells #[.string z1.id, .string z1.fl, .int .i64 z1.nu, .string z1.ve.1, .int .i64 z1.ve.2.1, .int .i64 z1.ve.2.2, .int .i64 z1.wd, .int .i64 z1.ln, .slice ao6_1 n6_1 c6_1] 36) (w.heap.size) (by simp; try omega)).trans ha
    replace ha := (Below.heap_alloc ((w.alloc (.cells #[.string s0, .int .i64 x0, .int .i64 y0] 33)).alloc (.cells #[.string z1.id, .string z1.fl, .int .i64 z1.nu, .string z1.ve.1, .int .i64 z1.ve.2.1, .int .i64 z1.ve.2.2, .int .i64 z1.wd, .int .i64 z1.ln, .slice ao6_1 n6_1 c6_1] 36)) (.cells #[.int .i64 x3, .int .i64 y3, .int .i64 a3, .int .i64 b3] 38) (w.heap.size) (by simp; try omega)).trans ha
    have HA0 := Lib.hid ha
    clear ha
    have ha := World.alloc_heap_new (w.alloc (.cells #[.string s0, .int .i64 x0, .int .i64 y0] 33)) (.cells #[.string z1.id, .string z1.fl, .int .i64 z1.nu, .string z1.ve.1, .int .i64 z1.ve.2.1, .int .i64 z1.ve.2.2, .int .i64 z1.wd, .int .i64 z1.ln, .slice ao6_1 n6_1 c6_1] 36)
    rw [show (w.alloc (.cells #[.string s0, .int .i64 x0, .int .i64 y0] 33)).heap.size = w.heap.size + 1 by simp] at ha
    replace ha := (Below.heap_alloc ((w.alloc (.cells #[.string s0, .int .i64 x0, .int .i64 y0] 33)).alloc (.cells #[.string z1.id, .string z1.fl, .int .i64 z1.nu, .string z1.ve.1, .int .i64 z1.ve.2.1, .int .i64 z1.ve.2.2, .int .i64 z1.wd, .int .i64 z1.ln, .slice ao6_1 n6_1 c6_1] 36)) (.cells #[.int .i64 x3, .int .i64 y3, .int .i64 a3, .int .i64 b3] 38) (w.heap.size + 1) (by simp; try omega)).trans ha
    have HA1 := Lib.hid ha
    clear ha
    have ha := World.alloc_heap_new ((w.alloc (.cells #[.string s0, .int .i64 x0, .int .i64 y0] 33)).alloc (.cells #[.string z1.id, .string z1.fl, .int .i64 z1.nu, .string z1.ve.1, .int .i64 z1.ve.2.1, .int .i64 z1.ve.2.2, .int .i64 z1.wd, .int .i64 z1.ln, .slice ao6_1 n6_1 c6_1] 36)) (.cells #[.int .i64 x3, .int .i64 y3, .int .i64 a3, .int .i64 b3] 38)
    rw [show ((w.alloc (.cells #[.string s0, .int .i64 x0, .int .i64 y0] 33)).alloc (.cells #[.string z1.id, .string z1.fl, .int .i64 z1.nu, .string z1.ve.1, .int .i64 z1.ve.2.1, .int .i64 z1.ve.2.2, .int .i64 z1.wd, .int .i64 z1.ln, .slice ao6_1 n6_1 c6_1] 36)).heap.size = w.heap.size + 1 + 1 by simp] at ha
    have HA2 := Lib.hid ha
    clear ha
    have HL0 := Lib.hid (lft_no (l := (1048576 : Int)) (n := s0.size) (by omega))
    go_wp2_with fail
    refine (szVen_any s0 x0 y0 ((1048576 : Int)) _ (by omega) (by omega) hm0).mono ?_
    rintro e w1 ⟨rfl, g1⟩
    replace HA0 := Lib.hid ((g1.block _ (blk_lt HA0.out)).trans HA0.out)
    replace HA1 := Lib.hid ((g1.block _ (blk_lt HA1.out)).trans HA1.out)
    replace HA2 := Lib.hid ((g1.block _ (blk_lt HA2.out)).trans HA2.out)
    replace HW := Lib.hid (bseq HW.out g1)
    clear g1
    have hza0 := blk_lt HA0.out
    have a0_0 := (cell_of_arr HA0.out (j := 0) rfl).1
    have a0_1 := (cell_of_arr HA0.out (j := 1) rfl).1
    have a0_2 := (cell_of_arr HA0.out (j := 2) rfl).1
    have hza1 := blk_lt HA1.out
    have a1_0 := (cell_of_arr HA1.out (j := 0) rfl).1
    have a1_1 := (cell_of_arr HA1.out (j := 1) rfl).1
    have a1_2 := (cell_of_arr HA1.out (j := 2) rfl).1
    have a1_3 := (cell_of_arr HA1.out (j := 3) rfl).1
    have a1_4 := (cell_of_arr HA1.out (j := 4) rfl).1
    have a1_5 := (cell_of_arr HA1.out (j := 5) rfl).1
    have a1_6 := (cell_of_arr HA1.out (j := 6) rfl).1
    have a1_7 := (cell_of_arr HA1.out (j := 7) rfl).1
    have a1_8 := (cell_of_arr HA1.out (j := 8) rfl).1
    have hza2 := blk_lt HA2.out
    have a2_0 := (cell_of_arr HA2.out (j := 0) rfl).1
    have a2_1 := (cell_of_arr HA2.out (j := 1) rfl).1
    have a2_2 := (cell_of_arr HA2.out (j := 2) rfl).1
    have a2_3 := (cell_of_arr HA2.out (j := 3) rfl).1
    rw [HL0.out]
    go_wp2
    go_ret
    exact ⟨rfl, HW.out⟩
  by_cases hz1 : s0.size + (LfSz z1) ≤ 1048576
  rotate_left
  · have HT := Lib.hid ht
    clear ht
    have HE := Lib.hid he
    clear he
    have HV1 := Lib.hid hv1
    obtain ⟨ao6_1, n6_1, c6_1, rfl, _, _, _, _, _, _, _, _⟩ := hv1.out
    clear hv1
    go_enter Tryd.func5, Tryd.ntmps5
    have HW := Lib.hid (show Below w.heap.size w (((w.alloc (.cells #[.string s0, .int .i64 x0, .int .i64 y0] 33)).alloc (.cells #[.string z1.id, .string z1.fl, .int .i64 z1.nu, .string z1.ve.1, .int .i64 z1.ve.2.1, .int .i64 z1.ve.2.2, .int .i64 z1.wd, .int .i64 z1.ln, .slice ao6_1 n6_1 c6_1] 36)).alloc (.cells #[.int .i64 x3, .int .i64 y3, .int .i64 a3, .int .i64 b3] 38)) from three_allocs _ _ _)
    have ha := World.alloc_heap_new w (.cells #[.string s0, .int .i64 x0, .int .i64 y0] 33)
    replace ha := (Below.heap_alloc (w.alloc (.cells #[.string s0, .int .i64 x0, .int .i64 y0] 33)) (.cells #[.string z1.id, .string z1.fl, .int .i64 z1.nu, .string z1.ve.1, .int .i64 z1.ve.2.1, .int .i64 z1.ve.2.2, .int .i64 z1.wd, .int .i64 z1.ln, .slice ao6_1 n6_1 c6_1] 36) (w.heap.size) (by simp; try omega)).trans ha
    replace ha := (Below.heap_alloc ((w.alloc (.cells #[.string s0, .int .i64 x0, .int .i64 y0] 33)).alloc (.cells #[.string z1.id, .string z1.fl, .int .i64 z1.nu, .string z1.ve.1, .int .i64 z1.ve.2.1, .int .i64 z1.ve.2.2, .int .i64 z1.wd, .int .i64 z1.ln, .slice ao6_1 n6_1 c6_1] 36)) (.cells #[.int .i64 x3, .int .i64 y3, .int .i64 a3, .int .i64 b3] 38) (w.heap.size) (by simp; try omega)).trans ha
    have HA0 := Lib.hid ha
    clear ha
    have ha := World.alloc_heap_new (w.alloc (.cells #[.string s0, .int .i64 x0, .int .i64 y0] 33)) (.cells #[.string z1.id, .string z1.fl, .int .i64 z1.nu, .string z1.ve.1, .int .i64 z1.ve.2.1, .int .i64 z1.ve.2.2, .int .i64 z1.wd, .int .i64 z1.ln, .slice ao6_1 n6_1 c6_1] 36)
    rw [show (w.alloc (.cells #[.string s0, .int .i64 x0, .int .i64 y0] 33)).heap.size = w.heap.size + 1 by simp] at ha
    replace ha := (Below.heap_alloc ((w.alloc (.cells #[.string s0, .int .i64 x0, .int .i64 y0] 33)).alloc (.cells #[.string z1.id, .string z1.fl, .int .i64 z1.nu, .string z1.ve.1, .int .i64 z1.ve.2.1, .int .i64 z1.ve.2.2, .int .i64 z1.wd, .int .i64 z1.ln, .slice ao6_1 n6_1 c6_1] 36)) (.cells #[.int .i64 x3, .int .i64 y3, .int .i64 a3, .int .i64 b3] 38) (w.heap.size + 1) (by simp; try omega)).trans ha
    have HA1 := Lib.hid ha
    clear ha
    have ha := World.alloc_heap_new ((w.alloc (.cells #[.string s0, .int .i64 x0, .int .i64 y0] 33)).alloc (.cells #[.string z1.id, .string z1.fl, .int .i64 z1.nu, .string z1.ve.1, .int .i64 z1.ve.2.1, .int .i64 z1.ve.2.2, .int .i64 z1.wd, .int .i64 z1.ln, .slice ao6_1 n6_1 c6_1] 36)) (.cells #[.int .i64 x3, .int .i64 y3, .int .i64 a3, .int .i64 b3] 38)
    rw [show ((w.alloc (.cells #[.string s0, .int .i64 x0, .int .i64 y0] 33)).alloc (.cells #[.string z1.id, .string z1.fl, .int .i64 z1.nu, .string z1.ve.1, .int .i64 z1.ve.2.1, .int .i64 z1.ve.2.2, .int .i64 z1.wd, .int .i64 z1.ln, .slice ao6_1 n6_1 c6_1] 36)).heap.size = w.heap.size + 1 + 1 by simp] at ha
    have HA2 := Lib.hid ha
    clear ha
    have HL0 := Lib.hid (lft_ok (l := (1048576 : Int)) (n := s0.size) (by omega))
    have hd0 : decide ((1048576 : Int) - (s0.size : Int) < 0) = false := by simp; omega
    go_wp2_with fail
    refine (szVen_any s0 x0 y0 ((1048576 : Int)) _ (by omega) (by omega) hm0).mono ?_
    rintro e w1 ⟨rfl, g1⟩
    replace HA0 := Lib.hid ((g1.block _ (blk_lt HA0.out)).trans HA0.out)
    replace HA1 := Lib.hid ((g1.block _ (blk_lt HA1.out)).trans HA1.out)
    replace HA2 := Lib.hid ((g1.block _ (blk_lt HA2.out)).trans HA2.out)
    replace HW := Lib.hid (bseq HW.out g1)
    clear g1
    have hza0 := blk_lt HA0.out
    have a0_0 := (cell_of_arr HA0.out (j := 0) rfl).1
    have a0_1 := (cell_of_arr HA0.out (j := 1) rfl).1
    have a0_2 := (cell_of_arr HA0.out (j := 2) rfl).1
    have hza1 := blk_lt HA1.out
    have a1_0 := (cell_of_arr HA1.out (j := 0) rfl).1
    have a1_1 := (cell_of_arr HA1.out (j := 1) rfl).1
    have a1_2 := (cell_of_arr HA1.out (j := 2) rfl).1
    have a1_3 := (cell_of_arr HA1.out (j := 3) rfl).1
    have a1_4 := (cell_of_arr HA1.out (j := 4) rfl).1
    have a1_5 := (cell_of_arr HA1.out (j := 5) rfl).1
    have a1_6 := (cell_of_arr HA1.out (j := 6) rfl).1
    have a1_7 := (cell_of_arr HA1.out (j := 7) rfl).1
    have a1_8 := (cell_of_arr HA1.out (j := 8) rfl).1
    have hza2 := blk_lt HA2.out
    have a2_0 := (cell_of_arr HA2.out (j := 0) rfl).1
    have a2_1 := (cell_of_arr HA2.out (j := 1) rfl).1
    have a2_2 := (cell_of_arr HA2.out (j := 2) rfl).1
    have a2_3 := (cell_of_arr HA2.out (j := 3) rfl).1
    rw [HL0.out]
    have HL1 := Lib.hid (lft_no (l := (1048576 : Int) - (s0.size : Int)) (n := (LfSz z1)) (by omega))
    go_wp2_with fail
    refine (szLf_any _ z1 ((1048576 : Int) - (s0.size : Int)) _ (by omega) (by omega) (HV1.out.below HW.out)).mono ?_
    rintro e w2 ⟨rfl, g2⟩
    clear hza0 a0_0 a0_1 a0_2 hza1 a1_0 a1_1 a1_2 a1_3 a1_4 a1_5 a1_6 a1_7 a1_8 hza2 a2_0 a2_1 a2_2 a2_3
    replace HA0 := Lib.hid ((g2.block _ (blk_lt HA0.out)).trans HA0.out)
    replace HA1 := Lib.hid ((g2.block _ (blk_lt HA1.out)).trans HA1.out)
    replace HA2 := Lib.hid ((g2.block _ (blk_lt HA2.out)).trans HA2.out)
    replace HW := Lib.hid (bseq HW.out g2)
    clear g2
    have hza0 := blk_lt HA0.out
    have a0_0 := (cell_of_arr HA0.out (j := 0) rfl).1
    have a0_1 := (cell_of_arr HA0.out (j := 1) rfl).1
    have a0_2 := (cell_of_arr HA0.out (j := 2) rfl).1
    have hza1 := blk_lt HA1.out
    have a1_0 := (cell_of_arr HA1.out (j := 0) rfl).1
    have a1_1 := (cell_of_arr HA1.out (j := 1) rfl).1
    have a1_2 := (cell_of_arr HA1.out (j := 2) rfl).1
    have a1_3 := (cell_of_arr HA1.out (j := 3) rfl).1
    have a1_4 := (cell_of_arr HA1.out (j := 4) rfl).1
    have a1_5 := (cell_of_arr HA1.out (j := 5) rfl).1
    have a1_6 := (cell_of_arr HA1.out (j := 6) rfl).1
    have a1_7 := (cell_of_arr HA1.out (j := 7) rfl).1
    have a1_8 := (cell_of_arr HA1.out (j := 8) rfl).1
    have hza2 := blk_lt HA2.out
    have a2_0 := (cell_of_arr HA2.out (j := 0) rfl).1
    have a2_1 := (cell_of_arr HA2.out (j := 1) rfl).1
    have a2_2 := (cell_of_arr HA2.out (j := 2) rfl).1
    have a2_3 := (cell_of_arr HA2.out (j := 3) rfl).1
    rw [HL1.out]
    go_wp2
    go_ret
    exact ⟨rfl, HW.out⟩
  exact walk_in s0 x0 y0 v1 z1 x2 x3 y3 a3 b3 w ht he (by omega) hm0 hx0 hy0 hv1 hx2

set_option maxRecDepth 100000 in
theorem contract (H : Type) (enc : TypeId × Value → H) (W : World) (base : Nat) (args : Array Value) (ds gs : List (DataW H)) (before : List MemPlace)
    (hval : ∀ (j : Nat) t v, Tryd.f5.params[j]? = some t → args[j]? = some v → Value.okWide Tryd.prog W .any base t v)
    (hW : DataW.Whole enc Tryd.prog Tryd.f5.params.toList Rows.fnExactVeneerFaultSpec.vars false W args.toList ds gs before) (hL : laidMetH Tryd.prog Rows.fnExactVeneerFaultRow.laid W) (hsh : W.ShapedOpen Tryd.prog) :
    Calls Tryd.prog 5 args W fun e W' => ∃ v, e = .returned v ∧ Rows.fnExactVeneerFaultSpec.post enc Tryd.prog Tryd.f5 false true false false W args v W' := by
  have hW' := hW
  obtain ⟨p, q, hA0, hV, rfl, hfz, hnd⟩ := hW
  have hV' : DataW.TrodVars enc Tryd.prog W (fun _ => true) ["loop.example/g00956/impl.speciesTable", "loop.example/g00956/impl.errRange", "loop.example/g00956/impl.errNotFound", "loop.example/g00956/impl.errExists", "loop.example/g00956/impl.errFull", "loop.example/g00956/impl.errState"] gs q := hV
  have hA : DataW.TrodAll enc Tryd.prog W 0 (fun _ => true) true Tryd.f5.params.toList args.toList ds p := hA0
  rw [Tryd.params5] at hA hval
  obtain ⟨v0, vs0, d0, ds0, p0, q0, hargs, rfl, rfl, h0, r0⟩ := trodAll_cons hA
  obtain ⟨v1, vs1, d1, ds1, p1, q1, rfl, rfl, rfl, h1, r1⟩ := trodAll_cons r0
  obtain ⟨v2, vs2, d2, ds2, p2, q2, rfl, rfl, rfl, h2, r2⟩ := trodAll_cons r1
  obtain ⟨v3, vs3, d3, ds3, p3, q3, rfl, rfl, rfl, h3, r3⟩ := trodAll_cons r2
  obtain ⟨rfl, rfl, rfl⟩ := trodAll_nil r3
  obtain rfl : args = #[v0, v1, v2, v3] := by cases args; simp_all
  clear hA0
  have ht : TabAt W := by
    have hL1 := hL
    rw [MakeChecks.laidMetH_plain _ _ _ (by kernel_rfl)] at hL1
    exact tabAt_of hL1 (by unfold Rows.fnExactVeneerFaultRow; simp)
  have he := (show ErrsAt W by
    have hL1 := hL
    rw [MakeChecks.laidMetH_plain _ _ _ (by kernel_rfl)] at hL1
    exact errs_of hL1 (by unfold Rows.fnExactVeneerFaultRow; simp) (by unfold Rows.fnExactVeneerFaultRow; simp) (by unfold Rows.fnExactVeneerFaultRow; simp) (by unfold Rows.fnExactVeneerFaultRow; simp) (by unfold Rows.fnExactVeneerFaultRow; simp))
  obtain ⟨gg0, gr0, gq0, rfl, hg0⟩ := vars_uncons hV'
  obtain ⟨gg1, gr1, gq1, rfl, hg1⟩ := vars_uncons hg0
  obtain ⟨gg2, gr2, gq2, rfl, hg2⟩ := vars_uncons hg1
  obtain ⟨gg3, gr3, gq3, rfl, hg3⟩ := vars_uncons hg2
  obtain ⟨gg4, gr4, gq4, rfl, hg4⟩ := vars_uncons hg3
  obtain ⟨gg5, gr5, gq5, rfl, hg5⟩ := vars_uncons hg4
  obtain rfl := vars_end hg5
  have l0 : ∀ x ∈ p0, x.block < W.heap.size := fun x hx => hW'.lt x (by simp [hx])
  have l1 : ∀ x ∈ p1, x.block < W.heap.size := fun x hx => hW'.lt x (by simp [hx])
  have l2 : ∀ x ∈ p2, x.block < W.heap.size := fun x hx => hW'.lt x (by simp [hx])
  have l3 : ∀ x ∈ p3, x.block < W.heap.size := fun x hx => hW'.lt x (by simp [hx])
  have e0 := hval 0 33 v0 rfl rfl
  obtain ⟨s0, a0, b0, e0v, ms0, wa0, wb0⟩ := open_ven e0 h0
  have e1 := hval 1 36 v1 rfl rfl
  obtain ⟨z1, lv1⟩ := open_Lf e1 h1
  have e2 := hval 2 2 v2 rfl rfl
  obtain ⟨a2, e2v, _, _, w2⟩ := open_int Tryd.underlying2 e2 h2
  have e3 := hval 3 38 v3 rfl rfl
  obtain ⟨x3_0, x3_1, x3_2, x3_3, e3v⟩ := open_Ru e3 h3
  have hc := walk s0 a0 b0 v1 z1 a2 x3_0 x3_1 x3_2 x3_3 W ht he (by have := ms0; unfold maxLen at this; omega) wa0 wb0 lv1 w2
  simp only [← e0v, ← e2v, ← e3v] at hc
  refine hc.mono fun e W' ⟨he, hg⟩ => ?_
  subst he
  exact ⟨_, rfl, post_below (pa := (p0 ++ (p1 ++ (p2 ++ (p3 ++ []))))) (pv := q) hW' (fun _ _ _ => (trodAll_cons_mk (shut_bool Tryd.underlying4 _) trodAll_mk0)) (fun sp hsp => (trodAll_cons_mk (trod_again (by decide) h0 l0 hg sp (fun x hx => hsp x (by simp [hx]))) (trodAll_cons_mk (trod_again (by decide) h1 l1 hg sp (fun x hx => hsp x (by simp [hx]))) (trodAll_cons_mk (trod_again (by decide) h2 l2 hg sp (fun x hx => hsp x (by simp [hx]))) (trodAll_cons_mk (trod_again (by decide) h3 l3 hg sp (fun x hx => hsp x (by simp [hx]))) trodAll_mk0))))) (fun sp hsp => vars_stay hg hV' (by kernel_rfl) (fun x hx => hsp x (by first | exact hx | simp [hx]))) (by simp)
    hg (ok_one (by kernel_rfl) rfl (okWide_bool_mk Tryd.underlying4 _))⟩

set_option maxRecDepth 100000 in
theorem lifted (os : Os) (started : os.Started) (H : Type) (enc : TypeId × Value → H) (F : Stop.Interp) :
    ReturnsInHanded {} Tryd.checked os 5 .any ((OpenSpec.ofChange Rows.fnExactVeneerFaultSpec).preRow enc Tryd.prog Tryd.f5 Rows.fnExactVeneerFaultRow.domain false Rows.fnExactVeneerFaultRow.laid) (((OpenSpec.ofChange Rows.fnExactVeneerFaultSpec).at F).post enc Tryd.prog Tryd.f5 false true false false) := by
  refine returnsInHanded_of_row (C := Tryd.checked) (s := OpenSpec.ofChange Rows.fnExactVeneerFaultSpec) own started (by kernel_rfl) Tryd.func5
    (ChangeSpec.witness_shaped (enc := enc) (C := Tryd.checked) (os := os) (X := fun w _ => laidMetH Tryd.prog Rows.fnExactVeneerFaultRow.laid w) false (World.laidAll Tryd.prog os Rows.fnExactVeneerFaultRow.laid) #[.agg #[.string ByteArray.empty, .int .i64 0, .int .i64 0], .agg #[.string ByteArray.empty, .string ByteArray.empty, .int .i64 0, .string ByteArray.empty, .int .i64 0, .int .i64 0, .int .i64 0, .int .i64 0, .slice none 0 0], .int .i64 0, .agg #[.int .i64 0, .int .i64 0, .int .i64 0, .int .i64 0]] 8 (World.laidAll_os _ _ _)
      (World.shaped_of_ZipB (by kernel_rfl) (by kernel_rfl)) (by kernel_rfl) (by kernel_rfl) (by kernel_rfl)
      (by rw [MakeChecks.laidMetH_plain _ _ _ (by kernel_rfl)]; exact laidMet_laidAll _ (by kernel_rfl) (by kernel_rfl))) ?_
  intro W base args ds gs before hval hW _ _ _ hL hsh _
  exact contract H enc W base args ds gs before hval hW hL hsh

theorem said : Rows.FnExactVeneerFaultSaid :=
  OpenClaim.holds_of_cond 5 Tryd.f5 rfl rfl rfl rfl rfl rfl rfl ⟨rfl, rfl, rfl, rfl, rfl⟩ rfl rfl rfl rfl rfl (by kernel_rfl) Tryd.func5 (by kernel_rfl)
    (of_decide_eq_true (by kernel_rfl)) (by unfold Func.isWrapper; first | (rw [if_pos (by decide +kernel)]; kernel_rfl) | (rw [if_neg (by decide +kernel)]; exact ⟨rfl, rfl⟩))
    (fun os started H enc _ F => by rw [OpenClaim.pre_eq_preRow]; exact lifted os started H enc F)

theorem plain (f : FuncId) (fn : Func) (hf : Tryd.pinned.checked.prog.funcNamed Rows.fnExactVeneerFaultRow.func = some f) (hfn : Tryd.pinned.checked.prog.funcs[f]? = some fn) :
    Rows.fnExactVeneerFaultCard.stood.looks = Tryd.pinned.checked.prog.looks [] ∧ ∀ (j : Nat) t, fn.params[j]? = some t → Tryd.pinned.checked.prog.wantsStandIn t = false := by
  obtain rfl : f = 5 := Option.some.inj ((show Tryd.prog.funcNamed Rows.fnExactVeneerFaultRow.func = some 5 by kernel_rfl).symm.trans hf) |>.symm
  obtain rfl : fn = Tryd.f5 := (Option.some.inj (Tryd.func5.symm.trans hfn)).symm
  refine ⟨by kernel_rfl, fun j t ht => ?_⟩
  rw [Tryd.params5] at ht
  have hm : t ∈ [33, 36, 2, 38] := by simpa using Array.mem_of_getElem? ht
  have hall : ([33, 36, 2, 38].all fun u => !Tryd.prog.wantsStandIn u) = true := by kernel_rfl
  exact (show Tryd.prog.wantsStandIn t = false by simpa using List.all_eq_true.1 hall t hm)

theorem card : Rows.FnExactVeneerFaultCardSaid :=
  Claim7.holds_tied_plain_at .later [] _ _ _ _ said (fun _ h => by cases h) (by kernel_rfl) (fun _ h => by cases h) fnExactVeneerFault_row_tie rfl ⟨rfl, rfl⟩ (by kernel_rfl) rfl plain (by kernel_rfl)
#print axioms card
end Go.Proofs.YtmfchcaidfloaaaDoor.fnExactVeneerFault
