/- FnExactTrimLeaf returns true at every leaf and every box. Condition: the table of species is as the program text lays it (tied). -/
import Derived.Test.YtcjpplijbdfgbaaDoorCards
import Derived.Test.YtcjpplijbdfgbaaDoorTie
import Derived.Test.YtcjpplijbdfgbaaDoorVenLaid
import Derived.Test.YtcjpplijbdfgbaaDoorK24
import Derived.Test.YtcjpplijbdfgbaaDoorLfR
import Derived.Test.YtcjpplijbdfgbaaDoorLea5
import Derived.Test.YtcjpplijbdfgbaaDoorK20
import Derived.Test.YtcjpplijbdfgbaaDoorSeq3
import Derived.Test.YtcjpplijbdfgbaaDoorSeqL
import Derived.Test.YtcjpplijbdfgbaaDoorPost
import Derived.Test.YtcjpplijbdfgbaaDoorK5
import Derived.WalkKit
import Derived.ProofKit
import Derived.OpenShut
import Derived.ChangeMaps5
import Derived.ChangeVars
import Derived.Deep.DeepHandedRow
import Derived.Lib.LaidTab
import Derived.Lib.LaidU8
import Derived.Lay
import Derived.LaidMore
import Derived.LaidSub
import Derived.MakeChecks
import Derived.SevenTiedAt
namespace Go.Proofs.YtcjpplijbdfgbaaDoor.fnExactTrimLeaf
open Seq2 Go.ChangeShapes Go.WideShapes Go.ChangeAt Go.RowKit Go.WideElems Go.ChangeMaps
set_option linter.unusedVariables false
set_option linter.unusedSimpArgs false

theorem own : ownKnob Tryd.prog.godebug = none := by kernel_rfl

set_option maxRecDepth 100000 in
set_option maxHeartbeats 8000000 in
theorem walk_in (v0 : Value) (z0 : Lf) (x1 y1 a1 b1 : Int) (w : World) (ht : TabAt w) (he : ErrsAt w) (hsum : (LfSz z0) ≤ 1048576) (hv0 : LfL w v0 z0) :
    Calls Tryd.prog 3 #[v0, .agg #[.int .i64 x1, .int .i64 y1, .int .i64 a1, .int .i64 b1]] w fun e w' => e = .returned (.bool true) ∧ Below w.heap.size w w' := by
  have HS0 := Lib.hid (show (LfSz z0) ≤ 1048576 by omega)
  have HT := Lib.hid ht
  clear ht
  have HE := Lib.hid he
  clear he
  have HV0 := Lib.hid hv0
  obtain ⟨ao6_0, n6_0, c6_0, rfl, _, _, _, _, _, _, _, _⟩ := hv0.out
  clear hv0
  go_enter Tryd.func3, Tryd.ntmps3
  have HW := Lib.hid (show Below w.heap.size w ((w.alloc (.cells #[.string z0.id, .string z0.fl, .int .i64 z0.nu, .string z0.ve.1, .int .i64 z0.ve.2.1, .int .i64 z0.ve.2.2, .int .i64 z0.wd, .int .i64 z0.ln, .slice ao6_0 n6_0 c6_0] 26)).alloc (.cells #[.int .i64 x1, .int .i64 y1, .int .i64 a1, .int .i64 b1] 28)) from two_allocs _ _)
  have ha := World.alloc_heap_new w (.cells #[.string z0.id, .string z0.fl, .int .i64 z0.nu, .string z0.ve.1, .int .i64 z0.ve.2.1, .int .i64 z0.ve.2.2, .int .i64 z0.wd, .int .i64 z0.ln, .slice ao6_0 n6_0 c6_0] 26)
  replace ha := (Below.heap_alloc (w.alloc (.cells #[.string z0.id, .string z0.fl, .int .i64 z0.nu, .string z0.ve.1, .int .i64 z0.ve.2.1, .int .i64 z0.ve.2.2, .int .i64 z0.wd, .int .i64 z0.ln, .slice ao6_0 n6_0 c6_0] 26)) (.cells #[.int .i64 x1, .int .i64 y1, .int .i64 a1, .int .i64 b1] 28) (w.heap.size) (by simp; try omega)).trans ha
  have HA0 := Lib.hid ha
  clear ha
  have ha := World.alloc_heap_new (w.alloc (.cells #[.string z0.id, .string z0.fl, .int .i64 z0.nu, .string z0.ve.1, .int .i64 z0.ve.2.1, .int .i64 z0.ve.2.2, .int .i64 z0.wd, .int .i64 z0.ln, .slice ao6_0 n6_0 c6_0] 26)) (.cells #[.int .i64 x1, .int .i64 y1, .int .i64 a1, .int .i64 b1] 28)
  rw [show (w.alloc (.cells #[.string z0.id, .string z0.fl, .int .i64 z0.nu, .string z0.ve.1, .int .i64 z0.ve.2.1, .int .i64 z0.ve.2.2, .int .i64 z0.wd, .int .i64 z0.ln, .slice ao6_0 n6_0 c6_0] 26)).heap.size = w.heap.size + 1 by simp] at ha
  have HA1 := Lib.hid ha
  clear ha
  have hgd := tm_good (b := (x1, y1, a1, b1)) HV0.out HS0.out
  obtain ⟨R, hR⟩ : ∃ R, tmR z0 (x1, y1, a1, b1) = R := ⟨_, rfl⟩
  rw [hR] at hgd
  have HR := Lib.hid hR
  have HGD := Lib.hid hgd
  clear hR hgd
  obtain ⟨RZ, rc⟩ := R
  have HL0 := Lib.hid (lft_ok (l := (1048576 : Int)) (n := (LfSz z0)) (by omega))
  have hd0 : decide ((1048576 : Int) - ((LfSz z0) : Int) < 0) = false := by simp; omega
  go_wp2_with fail
  refine (szLf_any _ z0 ((1048576 : Int)) _ (by omega) (by omega) (HV0.out.below HW.out)).mono ?_
  rintro e w1 ⟨rfl, g1⟩
  replace HA0 := Lib.hid ((g1.block _ (blk_lt HA0.out)).trans HA0.out)
  replace HA1 := Lib.hid ((g1.block _ (blk_lt HA1.out)).trans HA1.out)
  replace HW := Lib.hid (bseq HW.out g1)
  clear g1
  have hza0 := blk_lt HA0.out
  have a0_0 := (cell_of_arr HA0.out (j := 0) rfl).1
  have a0_1 := (cell_of_arr HA0.out (j := 1) rfl).1
  have a0_2 := (cell_of_arr HA0.out (j := 2) rfl).1
  have a0_3 := (cell_of_arr HA0.out (j := 3) rfl).1
  have a0_4 := (cell_of_arr HA0.out (j := 4) rfl).1
  have a0_5 := (cell_of_arr HA0.out (j := 5) rfl).1
  have a0_6 := (cell_of_arr HA0.out (j := 6) rfl).1
  have a0_7 := (cell_of_arr HA0.out (j := 7) rfl).1
  have a0_8 := (cell_of_arr HA0.out (j := 8) rfl).1
  have hza1 := blk_lt HA1.out
  have a1_0 := (cell_of_arr HA1.out (j := 0) rfl).1
  have a1_1 := (cell_of_arr HA1.out (j := 1) rfl).1
  have a1_2 := (cell_of_arr HA1.out (j := 2) rfl).1
  have a1_3 := (cell_of_arr HA1.out (j := 3) rfl).1
  rw [HL0.out]
  go_wp2
  refine Seq4.wp_region w1 8 _ (.cells #[.string ⟨#[]⟩, .string ⟨#[]⟩, .int .i64 0, .string ⟨#[]⟩, .int .i64 0, .int .i64 0, .int .i64 0, .int .i64 0, .slice none 0 0] 33) [0, 2] [(1, []), (3, []), (4, [5, 6, 7])] [(9, [10])] (by kernel_rfl) (by kernel_rfl) rfl (fun a => ⟨rfl, fun w => by go_simp⟩) (by kernel_rfl) (by kernel_rfl) rfl rfl rfl (Below.refl _ _) (fun w1 hh hb1 => ?_)
  repeat (first | (refine Seq2.fl_row (by decide) ?_) | (refine Seq2.fl_skip (by kernel_rfl) (by kernel_rfl) ?_ ?_; (focus (go_simp; (first | done | (simp [undef]; done)))); (try simp only [Act.put, List.setIfInBounds_toArray, List.set_cons_zero, List.set_cons_succ])) | (refine Seq2.fl_val (by kernel_rfl) (by kernel_rfl) ?_ ?_; (focus (go_simp; done)); apply Exists.intro; refine ⟨fun w2 hw2 => ?_, ?_⟩; (focus (obtain ⟨hc, hf⟩ := bcell hw2; clear hw2; go_simp; (first | done | with_reducible rfl | (with_reducible exact eql2 _ _ _) | (with_reducible exact neq2 _ _ _)))); (try simp only [Act.put, List.setIfInBounds_toArray, List.set_cons_zero, List.set_cons_succ])))
  refine Seq2.fl_nil ?_
  refine Seq4.u_one (by kernel_rfl) rfl ?_
  intro wx2 hx2
  have HBX2 := Lib.hid (hb1.trans (hx2.mono hb1.size))
  clear hx2
  gi_wp2_with fail
  refine ⟨trivial, rfl, (callsIn_wide.2 (toLf_own _ z0 _ HS0.out (HV0.out.below (HW.out.trans (HBX2.out.mono HW.out.size))))).mono ?_⟩
  rintro e w2 ⟨v2, rfl, o2, g2⟩
  have HB2 := Lib.hid (HBX2.out.trans (g2.mono HBX2.out.size))
  have HGG2 := Lib.hid g2
  clear g2
  have O2 := Lib.hid o2
  clear o2
  clear hh
  gi_wp2
  refine ⟨HB2.out, HGG2.out, ?_⟩
  refine Seq3.none ?_
  refine Seq4.u_one (by kernel_rfl) rfl ?_
  intro wx3 hx3
  have HBX3 := Lib.hid (HB2.out.trans (hx3.mono HB2.out.size))
  have HB2 := HBX3
  replace O2 := Lib.hid (O2.out.below hx3)
  clear hx3
  gi_wp2_with fail
  refine ⟨trivial, rfl, (callsIn_wide.2 (toBx_any x1 y1 a1 b1 _)).mono ?_⟩
  rintro e w3 ⟨rfl, g3⟩
  have HB3 := Lib.hid (HBX3.out.trans (g3.mono HBX3.out.size))
  have HGG3 := Lib.hid g3
  replace O2 := Lib.hid (O2.out.below g3)
  clear g3
  gi_wp2
  refine ⟨HB3.out, HGG3.out, ?_⟩
  refine Seq3.none ?_
  refine Seq4.u_one (by kernel_rfl) rfl ?_
  intro wx4 hx4
  have HBX4 := Lib.hid (HB3.out.trans (hx4.mono HB3.out.size))
  have HB3 := HBX4
  replace O2 := Lib.hid (O2.out.below hx4)
  clear hx4
  gi_wp2_with fail
  refine ⟨trivial, rfl, (callsIn_wide.2 (tm_spec _ z0 x1 y1 a1 b1 _ (LfO.view O2.out))).mono ?_⟩
  rintro e w4 ⟨sv4, rfl, o4, g4⟩
  have HB4 := Lib.hid (HBX4.out.trans (g4.mono HBX4.out.size))
  have HGG4 := Lib.hid g4
  replace O2 := Lib.hid (O2.out.below g4)
  clear g4
  rw [HR.out] at o4
  rw [HR.out]
  obtain ⟨ao_4, cp_4, rfl, p4⟩ := OwnBx.view o4
  clear p4
  unfold lfW
  unfold OwnBx at o4
  have O4 := Lib.hid o4
  clear o4
  gi_wp2
  refine ⟨HB4.out, HGG4.out, ?_⟩
  refine Seq3.mid 5 ?_
  simp only [List.drop_succ_cons, List.drop_zero]
  repeat (first | (refine Seq2.fl_row (by decide) ?_) | (refine Seq2.fl_skip (by kernel_rfl) (by kernel_rfl) ?_ ?_; (focus (go_simp; (first | done | (simp [undef]; done)))); (try simp only [Act.put, List.setIfInBounds_toArray, List.set_cons_zero, List.set_cons_succ])) | (refine Seq2.fl_val (by kernel_rfl) (by kernel_rfl) ?_ ?_; (focus (go_simp; done)); apply Exists.intro; refine ⟨fun w2 hw2 => ?_, ?_⟩; (focus (obtain ⟨hc, hf⟩ := bcell hw2; clear hw2; go_simp; (first | done | with_reducible rfl | (with_reducible exact eql2 _ _ _) | (with_reducible exact neq2 _ _ _)))); (try simp only [Act.put, List.setIfInBounds_toArray, List.set_cons_zero, List.set_cons_succ])))
  refine Seq2.fl_nil ?_
  refine Seq4.u_nil (by kernel_rfl) ?_
  intro pz4 wz hz hpz hlo
  replace O4 := Lib.hid (own_below O4.out hz)
  have HAPHW0 := Lib.hid (own_apart O4.out hpz)
  have HBZ := Lib.hid (HB4.out.trans (hz.mono HB4.out.size))
  have HLPHW0 := Lib.hid hlo
  have hq := st9 (x0 := .string RZ.id) (x1 := .string RZ.fl) (x2 := .int .i64 RZ.nu) (x3 := .string RZ.ve.1) (x4 := .int .i64 RZ.ve.2.1) (x5 := .int .i64 RZ.ve.2.2) (x6 := .int .i64 RZ.wd) (x7 := .int .i64 RZ.ln) (x8 := .slice ao_4 RZ.df.length cp_4) hpz
  have gq := bel9 (x0 := .string RZ.id) (x1 := .string RZ.fl) (x2 := .int .i64 RZ.nu) (x3 := .string RZ.ve.1) (x4 := .int .i64 RZ.ve.2.1) (x5 := .int .i64 RZ.ve.2.2) (x6 := .int .i64 RZ.wd) (x7 := .int .i64 RZ.ln) (x8 := .slice ao_4 RZ.df.length cp_4) (p := pz4) HBZ.out hlo
  have oq := keep9_apart (x0 := .string RZ.id) (x1 := .string RZ.fl) (x2 := .int .i64 RZ.nu) (x3 := .string RZ.ve.1) (x4 := .int .i64 RZ.ve.2.1) (x5 := .int .i64 RZ.ve.2.2) (x6 := .int .i64 RZ.wd) (x7 := .int .i64 RZ.ln) (x8 := .slice ao_4 RZ.df.length cp_4) (p := pz4) O4.out HAPHW0.out
  obtain ⟨hzz, c0, f0, c1, f1, c2, f2, c3, f3, c4, f4, c5, f5, c6, f6, c7, f7, c8, f8⟩ := cells9_of hpz
  clear hz hlo
  refine Seq3.c3_one (by kernel_rfl) rfl ?_
  gi_wp2
  clear hzz c0 f0 c1 f1 c2 f2 c3 f3 c4 f4 c5 f5 c6 f6 c7 f7 c8 f8
  generalize hwf : (((((((((wz.setCell ⟨pz4, 0, none⟩ (.string RZ.id)).setCell ⟨pz4, 1, none⟩ (.string RZ.fl)).setCell ⟨pz4, 2, none⟩ (.int .i64 RZ.nu)).setCell ⟨pz4, 3, none⟩ (.string RZ.ve.1)).setCell ⟨pz4, 4, none⟩ (.int .i64 RZ.ve.2.1)).setCell ⟨pz4, 5, none⟩ (.int .i64 RZ.ve.2.2)).setCell ⟨pz4, 6, none⟩ (.int .i64 RZ.wd)).setCell ⟨pz4, 7, none⟩ (.int .i64 RZ.ln)).setCell ⟨pz4, 8, none⟩ (.slice ao_4 RZ.df.length cp_4)) = w5 at *
  clear hwf hpz
  refine ⟨gq, ?_⟩
  refine Seq3.mid 10 ?_
  simp only [List.drop_succ_cons, List.drop_zero]
  repeat (first | (refine Seq2.fl_row (by decide) ?_) | (refine Seq2.fl_skip (by kernel_rfl) (by kernel_rfl) ?_ ?_; (focus (go_simp; (first | done | (simp [undef]; done)))); (try simp only [Act.put, List.setIfInBounds_toArray, List.set_cons_zero, List.set_cons_succ])) | (refine Seq2.fl_val (by kernel_rfl) (by kernel_rfl) ?_ ?_; (focus (go_simp; done)); apply Exists.intro; refine ⟨fun w2 hw2 => ?_, ?_⟩; (focus (obtain ⟨hc, hf⟩ := bcell hw2; clear hw2; go_simp; (first | done | with_reducible rfl | (with_reducible exact eql2 _ _ _) | (with_reducible exact neq2 _ _ _)))); (try simp only [Act.put, List.setIfInBounds_toArray, List.set_cons_zero, List.set_cons_succ])))
  refine Seq2.fl_nil ?_
  refine Seq3.c3_nil (by kernel_rfl) ?_
  clear hb1
  replace O4 := Lib.hid oq
  have HW0 := Lib.hid hq
  have g0 := gq
  clear oq hq gq HBZ
  clear O2
  clear hza0 a0_0 a0_1 a0_2 a0_3 a0_4 a0_5 a0_6 a0_7 a0_8 hza1 a1_0 a1_1 a1_2 a1_3
  replace HA0 := Lib.hid ((g0.block _ (blk_lt HA0.out)).trans HA0.out)
  replace HA1 := Lib.hid ((g0.block _ (blk_lt HA1.out)).trans HA1.out)
  replace HW := Lib.hid (bseq HW.out g0)
  clear g0
  have hza0 := blk_lt HA0.out
  have a0_0 := (cell_of_arr HA0.out (j := 0) rfl).1
  have a0_1 := (cell_of_arr HA0.out (j := 1) rfl).1
  have a0_2 := (cell_of_arr HA0.out (j := 2) rfl).1
  have a0_3 := (cell_of_arr HA0.out (j := 3) rfl).1
  have a0_4 := (cell_of_arr HA0.out (j := 4) rfl).1
  have a0_5 := (cell_of_arr HA0.out (j := 5) rfl).1
  have a0_6 := (cell_of_arr HA0.out (j := 6) rfl).1
  have a0_7 := (cell_of_arr HA0.out (j := 7) rfl).1
  have a0_8 := (cell_of_arr HA0.out (j := 8) rfl).1
  have hza1 := blk_lt HA1.out
  have a1_0 := (cell_of_arr HA1.out (j := 0) rfl).1
  have a1_1 := (cell_of_arr HA1.out (j := 1) rfl).1
  have a1_2 := (cell_of_arr HA1.out (j := 2) rfl).1
  have a1_3 := (cell_of_arr HA1.out (j := 3) rfl).1
  clear hza0 a0_0 a0_1 a0_2 a0_3 a0_4 a0_5 a0_6 a0_7 a0_8 hza1 a1_0 a1_1 a1_2 a1_3
  have hza0 := blk_lt HA0.out
  have a0_0 := (cell_of_arr HA0.out (j := 0) rfl).1
  have a0_1 := (cell_of_arr HA0.out (j := 1) rfl).1
  have a0_2 := (cell_of_arr HA0.out (j := 2) rfl).1
  have a0_3 := (cell_of_arr HA0.out (j := 3) rfl).1
  have a0_4 := (cell_of_arr HA0.out (j := 4) rfl).1
  have a0_5 := (cell_of_arr HA0.out (j := 5) rfl).1
  have a0_6 := (cell_of_arr HA0.out (j := 6) rfl).1
  have a0_7 := (cell_of_arr HA0.out (j := 7) rfl).1
  have a0_8 := (cell_of_arr HA0.out (j := 8) rfl).1
  have hza1 := blk_lt HA1.out
  have a1_0 := (cell_of_arr HA1.out (j := 0) rfl).1
  have a1_1 := (cell_of_arr HA1.out (j := 1) rfl).1
  have a1_2 := (cell_of_arr HA1.out (j := 2) rfl).1
  have a1_3 := (cell_of_arr HA1.out (j := 3) rfl).1
  have hzHW0 := blk_lt HW0.out
  have hw0_0 := (cell_of_arr HW0.out (j := 0) rfl).1
  have hw0_1 := (cell_of_arr HW0.out (j := 1) rfl).1
  have hw0_2 := (cell_of_arr HW0.out (j := 2) rfl).1
  have hw0_3 := (cell_of_arr HW0.out (j := 3) rfl).1
  have hw0_4 := (cell_of_arr HW0.out (j := 4) rfl).1
  have hw0_5 := (cell_of_arr HW0.out (j := 5) rfl).1
  have hw0_6 := (cell_of_arr HW0.out (j := 6) rfl).1
  have hw0_7 := (cell_of_arr HW0.out (j := 7) rfl).1
  have hw0_8 := (cell_of_arr HW0.out (j := 8) rfl).1
  have HZLX := Lib.hid (blk_lt HW0.out)
  have HLO0 := Lib.hid HW.out.size
  have HZL0_0 := Lib.hid (blk_lt HA0.out)
  have HZL0_1 := Lib.hid (blk_lt HA1.out)
  have LT0_O4 := Lib.hid (fun k hk => (World.ownsRow.lt O4.out k hk).2)
  go_wp2_with fail
  refine (toLf_own _ z0 _ HS0.out (HV0.out.below HW.out)).mono ?_
  rintro e w6 ⟨v6, rfl, o6, g6⟩
  have HSZ := Lib.hid g6.size
  clear hza0 a0_0 a0_1 a0_2 a0_3 a0_4 a0_5 a0_6 a0_7 a0_8 hza1 a1_0 a1_1 a1_2 a1_3 hzHW0 hw0_0 hw0_1 hw0_2 hw0_3 hw0_4 hw0_5 hw0_6 hw0_7 hw0_8
  replace HA0 := Lib.hid ((g6.block _ (blk_lt HA0.out)).trans HA0.out)
  replace HA1 := Lib.hid ((g6.block _ (blk_lt HA1.out)).trans HA1.out)
  replace HW0 := Lib.hid ((g6.block _ (blk_lt HW0.out)).trans HW0.out)
  replace O4 := Lib.hid (own_below O4.out g6)
  replace HW := Lib.hid (bseq HW.out g6)
  clear g6
  have hza0 := blk_lt HA0.out
  have a0_0 := (cell_of_arr HA0.out (j := 0) rfl).1
  have a0_1 := (cell_of_arr HA0.out (j := 1) rfl).1
  have a0_2 := (cell_of_arr HA0.out (j := 2) rfl).1
  have a0_3 := (cell_of_arr HA0.out (j := 3) rfl).1
  have a0_4 := (cell_of_arr HA0.out (j := 4) rfl).1
  have a0_5 := (cell_of_arr HA0.out (j := 5) rfl).1
  have a0_6 := (cell_of_arr HA0.out (j := 6) rfl).1
  have a0_7 := (cell_of_arr HA0.out (j := 7) rfl).1
  have a0_8 := (cell_of_arr HA0.out (j := 8) rfl).1
  have hza1 := blk_lt HA1.out
  have a1_0 := (cell_of_arr HA1.out (j := 0) rfl).1
  have a1_1 := (cell_of_arr HA1.out (j := 1) rfl).1
  have a1_2 := (cell_of_arr HA1.out (j := 2) rfl).1
  have a1_3 := (cell_of_arr HA1.out (j := 3) rfl).1
  have hzHW0 := blk_lt HW0.out
  have hw0_0 := (cell_of_arr HW0.out (j := 0) rfl).1
  have hw0_1 := (cell_of_arr HW0.out (j := 1) rfl).1
  have hw0_2 := (cell_of_arr HW0.out (j := 2) rfl).1
  have hw0_3 := (cell_of_arr HW0.out (j := 3) rfl).1
  have hw0_4 := (cell_of_arr HW0.out (j := 4) rfl).1
  have hw0_5 := (cell_of_arr HW0.out (j := 5) rfl).1
  have hw0_6 := (cell_of_arr HW0.out (j := 6) rfl).1
  have hw0_7 := (cell_of_arr HW0.out (j := 7) rfl).1
  have hw0_8 := (cell_of_arr HW0.out (j := 8) rfl).1
  have O6 := Lib.hid o6
  clear o6
  obtain ⟨og6_x6, oh6_x6, rfl, _, _, _, _, _, _, _, _, _, _, _⟩ := O6.out.out
  have DX6 := Lib.hid (LfX.of O6.out)
  have HLW0 := Lib.hid (blk_lt HW0.out)
  have NEo := Lib.hid (fun (u : Value) (b2 m2 e2 s2 : Nat) (ys : List Value) (w2 : World) (hb : w6.heap.size ≤ b2) (h2 : w2.ownsRow b2 e2 s2 u m2 ys) => ne_block O4.out hb h2)
  go_wp2
  clear hza0 a0_0 a0_1 a0_2 a0_3 a0_4 a0_5 a0_6 a0_7 a0_8 hza1 a1_0 a1_1 a1_2 a1_3 hzHW0 hw0_0 hw0_1 hw0_2 hw0_3 hw0_4 hw0_5 hw0_6 hw0_7 hw0_8
  have gq := one_alloc (w := w6) (.cells #[.string z0.id, .string z0.fl, .int .i64 z0.nu, .string z0.ve.1, .int .i64 z0.ve.2.1, .int .i64 z0.ve.2.2, .int .i64 z0.wd, .int .i64 z0.ln, .slice (some ⟨og6_x6, 0, none⟩) z0.df.length z0.df.length] 33)
  have HX0 := Lib.hid (World.alloc_heap_new w6 (.cells #[.string z0.id, .string z0.fl, .int .i64 z0.nu, .string z0.ve.1, .int .i64 z0.ve.2.1, .int .i64 z0.ve.2.2, .int .i64 z0.wd, .int .i64 z0.ln, .slice (some ⟨og6_x6, 0, none⟩) z0.df.length z0.df.length] 33))
  replace HA0 := Lib.hid ((gq.block _ (blk_lt HA0.out)).trans HA0.out)
  replace HA1 := Lib.hid ((gq.block _ (blk_lt HA1.out)).trans HA1.out)
  replace HW0 := Lib.hid ((gq.block _ (blk_lt HW0.out)).trans HW0.out)
  replace O4 := Lib.hid (own_below O4.out gq)
  replace O6 := Lib.hid (O6.out.below gq)
  replace DX6 := Lib.hid (DX6.out.below gq)
  have HFLS := Lib.hid gq.size
  replace HW := Lib.hid (bseq HW.out gq)
  clear gq
  generalize hwq : w6.alloc (.cells #[.string z0.id, .string z0.fl, .int .i64 z0.nu, .string z0.ve.1, .int .i64 z0.ve.2.1, .int .i64 z0.ve.2.2, .int .i64 z0.wd, .int .i64 z0.ln, .slice (some ⟨og6_x6, 0, none⟩) z0.df.length z0.df.length] 33) = w7 at *
  clear hwq
  have hza0 := blk_lt HA0.out
  have a0_0 := (cell_of_arr HA0.out (j := 0) rfl).1
  have a0_1 := (cell_of_arr HA0.out (j := 1) rfl).1
  have a0_2 := (cell_of_arr HA0.out (j := 2) rfl).1
  have a0_3 := (cell_of_arr HA0.out (j := 3) rfl).1
  have a0_4 := (cell_of_arr HA0.out (j := 4) rfl).1
  have a0_5 := (cell_of_arr HA0.out (j := 5) rfl).1
  have a0_6 := (cell_of_arr HA0.out (j := 6) rfl).1
  have a0_7 := (cell_of_arr HA0.out (j := 7) rfl).1
  have a0_8 := (cell_of_arr HA0.out (j := 8) rfl).1
  have hza1 := blk_lt HA1.out
  have a1_0 := (cell_of_arr HA1.out (j := 0) rfl).1
  have a1_1 := (cell_of_arr HA1.out (j := 1) rfl).1
  have a1_2 := (cell_of_arr HA1.out (j := 2) rfl).1
  have a1_3 := (cell_of_arr HA1.out (j := 3) rfl).1
  have hzHW0 := blk_lt HW0.out
  have hw0_0 := (cell_of_arr HW0.out (j := 0) rfl).1
  have hw0_1 := (cell_of_arr HW0.out (j := 1) rfl).1
  have hw0_2 := (cell_of_arr HW0.out (j := 2) rfl).1
  have hw0_3 := (cell_of_arr HW0.out (j := 3) rfl).1
  have hw0_4 := (cell_of_arr HW0.out (j := 4) rfl).1
  have hw0_5 := (cell_of_arr HW0.out (j := 5) rfl).1
  have hw0_6 := (cell_of_arr HW0.out (j := 6) rfl).1
  have hw0_7 := (cell_of_arr HW0.out (j := 7) rfl).1
  have hw0_8 := (cell_of_arr HW0.out (j := 8) rfl).1
  have hzHX0 := blk_lt HX0.out
  have hx0_0 := (cell_of_arr HX0.out (j := 0) rfl).1
  have hx0_1 := (cell_of_arr HX0.out (j := 1) rfl).1
  have hx0_2 := (cell_of_arr HX0.out (j := 2) rfl).1
  have hx0_3 := (cell_of_arr HX0.out (j := 3) rfl).1
  have hx0_4 := (cell_of_arr HX0.out (j := 4) rfl).1
  have hx0_5 := (cell_of_arr HX0.out (j := 5) rfl).1
  have hx0_6 := (cell_of_arr HX0.out (j := 6) rfl).1
  have hx0_7 := (cell_of_arr HX0.out (j := 7) rfl).1
  have hx0_8 := (cell_of_arr HX0.out (j := 8) rfl).1
  have HXL := Lib.hid (Nat.le_of_lt (blk_lt HX0.out))
  refine Seq4.wp_region w7 7 _ (.cells #[.string ⟨#[]⟩, .string ⟨#[]⟩, .int .i64 0, .string ⟨#[]⟩, .int .i64 0, .int .i64 0, .int .i64 0, .int .i64 0, .slice none 0 0] 33) [0, 1] [(2, []), (3, [4, 5, 6])] [(8, [9])] (by kernel_rfl) (by kernel_rfl) rfl (fun a => ⟨rfl, fun w => by go_simp⟩) (by kernel_rfl) (by kernel_rfl) rfl rfl rfl (Below.refl _ _) (fun w1 hh hb1 => ?_)
  repeat (first | (refine Seq2.fl_row (by decide) ?_) | (refine Seq2.fl_skip (by kernel_rfl) (by kernel_rfl) ?_ ?_; (focus (go_simp; (first | done | (simp [undef]; done)))); (try simp only [Act.put, List.setIfInBounds_toArray, List.set_cons_zero, List.set_cons_succ])) | (refine Seq2.fl_val (by kernel_rfl) (by kernel_rfl) ?_ ?_; (focus (go_simp; done)); apply Exists.intro; refine ⟨fun w2 hw2 => ?_, ?_⟩; (focus (obtain ⟨hc, hf⟩ := bcell hw2; clear hw2; go_simp; (first | done | with_reducible rfl | (with_reducible exact eql2 _ _ _) | (with_reducible exact neq2 _ _ _)))); (try simp only [Act.put, List.setIfInBounds_toArray, List.set_cons_zero, List.set_cons_succ])))
  refine Seq2.fl_nil ?_
  refine Seq4.u_one (by kernel_rfl) rfl ?_
  intro wx8 hx8
  have HBX8 := Lib.hid (hb1.trans (hx8.mono hb1.size))
  clear hx8
  gi_wp2_with fail
  refine ⟨trivial, rfl, (callsIn_wide.2 (toBx_any x1 y1 a1 b1 _)).mono ?_⟩
  rintro e w8 ⟨rfl, g8⟩
  have HB8 := Lib.hid (HBX8.out.trans (g8.mono HBX8.out.size))
  have HGG8 := Lib.hid g8
  clear g8
  clear hh
  gi_wp2
  refine ⟨HB8.out, HGG8.out, ?_⟩
  refine Seq3.none ?_
  refine Seq4.u_one (by kernel_rfl) rfl ?_
  intro wx9 hx9
  have HBX9 := Lib.hid (HB8.out.trans (hx9.mono HB8.out.size))
  have HB8 := HBX9
  clear hx9
  gi_wp2_with fail
  refine ⟨trivial, rfl, (callsIn_wide.2 (tm_impl _ z0 x1 y1 a1 b1 _ (LfO.view (O6.out.below HBX9.out)) (HT.out.below (HW.out.trans (HBX9.out.mono HW.out.size))) (HE.out.below (HW.out.trans (HBX9.out.mono HW.out.size))))).mono ?_⟩
  rintro e w9 ⟨sv9, rfl, o9, g9⟩
  have HB9 := Lib.hid (HBX9.out.trans (g9.mono HBX9.out.size))
  have HGG9 := Lib.hid g9
  clear g9
  rw [HR.out] at o9
  rw [HR.out]
  obtain ⟨ao_9, cp_9, rfl, p9⟩ := OwnBx.view o9
  clear p9
  unfold lfW
  unfold OwnBx at o9
  have O9 := Lib.hid o9
  clear o9
  gi_wp2
  refine ⟨HB9.out, HGG9.out, ?_⟩
  refine Seq3.mid 4 ?_
  simp only [List.drop_succ_cons, List.drop_zero]
  repeat (first | (refine Seq2.fl_row (by decide) ?_) | (refine Seq2.fl_skip (by kernel_rfl) (by kernel_rfl) ?_ ?_; (focus (go_simp; (first | done | (simp [undef]; done)))); (try simp only [Act.put, List.setIfInBounds_toArray, List.set_cons_zero, List.set_cons_succ])) | (refine Seq2.fl_val (by kernel_rfl) (by kernel_rfl) ?_ ?_; (focus (go_simp; done)); apply Exists.intro; refine ⟨fun w2 hw2 => ?_, ?_⟩; (focus (obtain ⟨hc, hf⟩ := bcell hw2; clear hw2; go_simp; (first | done | with_reducible rfl | (with_reducible exact eql2 _ _ _) | (with_reducible exact neq2 _ _ _)))); (try simp only [Act.put, List.setIfInBounds_toArray, List.set_cons_zero, List.set_cons_succ])))
  refine Seq2.fl_nil ?_
  refine Seq4.u_nil (by kernel_rfl) ?_
  intro pz9 wz hz hpz hlo
  replace O9 := Lib.hid (own_below O9.out hz)
  have HAPHG0 := Lib.hid (own_apart O9.out hpz)
  have HBZ := Lib.hid (HB9.out.trans (hz.mono HB9.out.size))
  have HLPHG0 := Lib.hid hlo
  have hq := st9 (x0 := .string RZ.id) (x1 := .string RZ.fl) (x2 := .int .i64 RZ.nu) (x3 := .string RZ.ve.1) (x4 := .int .i64 RZ.ve.2.1) (x5 := .int .i64 RZ.ve.2.2) (x6 := .int .i64 RZ.wd) (x7 := .int .i64 RZ.ln) (x8 := .slice ao_9 RZ.df.length cp_9) hpz
  have gq := bel9 (x0 := .string RZ.id) (x1 := .string RZ.fl) (x2 := .int .i64 RZ.nu) (x3 := .string RZ.ve.1) (x4 := .int .i64 RZ.ve.2.1) (x5 := .int .i64 RZ.ve.2.2) (x6 := .int .i64 RZ.wd) (x7 := .int .i64 RZ.ln) (x8 := .slice ao_9 RZ.df.length cp_9) (p := pz9) HBZ.out hlo
  have oq := keep9_apart (x0 := .string RZ.id) (x1 := .string RZ.fl) (x2 := .int .i64 RZ.nu) (x3 := .string RZ.ve.1) (x4 := .int .i64 RZ.ve.2.1) (x5 := .int .i64 RZ.ve.2.2) (x6 := .int .i64 RZ.wd) (x7 := .int .i64 RZ.ln) (x8 := .slice ao_9 RZ.df.length cp_9) (p := pz9) O9.out HAPHG0.out
  obtain ⟨hzz, c0, f0, c1, f1, c2, f2, c3, f3, c4, f4, c5, f5, c6, f6, c7, f7, c8, f8⟩ := cells9_of hpz
  clear hz hlo
  refine Seq3.c3_one (by kernel_rfl) rfl ?_
  gi_wp2
  clear hzz c0 f0 c1 f1 c2 f2 c3 f3 c4 f4 c5 f5 c6 f6 c7 f7 c8 f8
  generalize hwf : (((((((((wz.setCell ⟨pz9, 0, none⟩ (.string RZ.id)).setCell ⟨pz9, 1, none⟩ (.string RZ.fl)).setCell ⟨pz9, 2, none⟩ (.int .i64 RZ.nu)).setCell ⟨pz9, 3, none⟩ (.string RZ.ve.1)).setCell ⟨pz9, 4, none⟩ (.int .i64 RZ.ve.2.1)).setCell ⟨pz9, 5, none⟩ (.int .i64 RZ.ve.2.2)).setCell ⟨pz9, 6, none⟩ (.int .i64 RZ.wd)).setCell ⟨pz9, 7, none⟩ (.int .i64 RZ.ln)).setCell ⟨pz9, 8, none⟩ (.slice ao_9 RZ.df.length cp_9)) = w10 at *
  clear hwf hpz
  refine ⟨gq, ?_⟩
  refine Seq3.mid 9 ?_
  simp only [List.drop_succ_cons, List.drop_zero]
  repeat (first | (refine Seq2.fl_row (by decide) ?_) | (refine Seq2.fl_skip (by kernel_rfl) (by kernel_rfl) ?_ ?_; (focus (go_simp; (first | done | (simp [undef]; done)))); (try simp only [Act.put, List.setIfInBounds_toArray, List.set_cons_zero, List.set_cons_succ])) | (refine Seq2.fl_val (by kernel_rfl) (by kernel_rfl) ?_ ?_; (focus (go_simp; done)); apply Exists.intro; refine ⟨fun w2 hw2 => ?_, ?_⟩; (focus (obtain ⟨hc, hf⟩ := bcell hw2; clear hw2; go_simp; (first | done | with_reducible rfl | (with_reducible exact eql2 _ _ _) | (with_reducible exact neq2 _ _ _)))); (try simp only [Act.put, List.setIfInBounds_toArray, List.set_cons_zero, List.set_cons_succ])))
  refine Seq2.fl_nil ?_
  refine Seq3.c3_nil (by kernel_rfl) ?_
  clear hb1
  replace O9 := Lib.hid oq
  have HG0 := Lib.hid hq
  have g0 := gq
  clear oq hq gq HBZ
  clear hza0 a0_0 a0_1 a0_2 a0_3 a0_4 a0_5 a0_6 a0_7 a0_8 hza1 a1_0 a1_1 a1_2 a1_3 hzHW0 hw0_0 hw0_1 hw0_2 hw0_3 hw0_4 hw0_5 hw0_6 hw0_7 hw0_8 hzHX0 hx0_0 hx0_1 hx0_2 hx0_3 hx0_4 hx0_5 hx0_6 hx0_7 hx0_8
  replace HA0 := Lib.hid ((g0.block _ (blk_lt HA0.out)).trans HA0.out)
  replace HA1 := Lib.hid ((g0.block _ (blk_lt HA1.out)).trans HA1.out)
  replace HW0 := Lib.hid ((g0.block _ (blk_lt HW0.out)).trans HW0.out)
  replace HX0 := Lib.hid ((g0.block _ (blk_lt HX0.out)).trans HX0.out)
  replace O4 := Lib.hid (own_below O4.out g0)
  replace O6 := Lib.hid (O6.out.below g0)
  replace DX6 := Lib.hid (DX6.out.below g0)
  replace HW := Lib.hid (bseq HW.out g0)
  clear g0
  have hza0 := blk_lt HA0.out
  have a0_0 := (cell_of_arr HA0.out (j := 0) rfl).1
  have a0_1 := (cell_of_arr HA0.out (j := 1) rfl).1
  have a0_2 := (cell_of_arr HA0.out (j := 2) rfl).1
  have a0_3 := (cell_of_arr HA0.out (j := 3) rfl).1
  have a0_4 := (cell_of_arr HA0.out (j := 4) rfl).1
  have a0_5 := (cell_of_arr HA0.out (j := 5) rfl).1
  have a0_6 := (cell_of_arr HA0.out (j := 6) rfl).1
  have a0_7 := (cell_of_arr HA0.out (j := 7) rfl).1
  have a0_8 := (cell_of_arr HA0.out (j := 8) rfl).1
  have hza1 := blk_lt HA1.out
  have a1_0 := (cell_of_arr HA1.out (j := 0) rfl).1
  have a1_1 := (cell_of_arr HA1.out (j := 1) rfl).1
  have a1_2 := (cell_of_arr HA1.out (j := 2) rfl).1
  have a1_3 := (cell_of_arr HA1.out (j := 3) rfl).1
  have hzHW0 := blk_lt HW0.out
  have hw0_0 := (cell_of_arr HW0.out (j := 0) rfl).1
  have hw0_1 := (cell_of_arr HW0.out (j := 1) rfl).1
  have hw0_2 := (cell_of_arr HW0.out (j := 2) rfl).1
  have hw0_3 := (cell_of_arr HW0.out (j := 3) rfl).1
  have hw0_4 := (cell_of_arr HW0.out (j := 4) rfl).1
  have hw0_5 := (cell_of_arr HW0.out (j := 5) rfl).1
  have hw0_6 := (cell_of_arr HW0.out (j := 6) rfl).1
  have hw0_7 := (cell_of_arr HW0.out (j := 7) rfl).1
  have hw0_8 := (cell_of_arr HW0.out (j := 8) rfl).1
  have hzHX0 := blk_lt HX0.out
  have hx0_0 := (cell_of_arr HX0.out (j := 0) rfl).1
  have hx0_1 := (cell_of_arr HX0.out (j := 1) rfl).1
  have hx0_2 := (cell_of_arr HX0.out (j := 2) rfl).1
  have hx0_3 := (cell_of_arr HX0.out (j := 3) rfl).1
  have hx0_4 := (cell_of_arr HX0.out (j := 4) rfl).1
  have hx0_5 := (cell_of_arr HX0.out (j := 5) rfl).1
  have hx0_6 := (cell_of_arr HX0.out (j := 6) rfl).1
  have hx0_7 := (cell_of_arr HX0.out (j := 7) rfl).1
  have hx0_8 := (cell_of_arr HX0.out (j := 8) rfl).1
  clear hza0 a0_0 a0_1 a0_2 a0_3 a0_4 a0_5 a0_6 a0_7 a0_8 hza1 a1_0 a1_1 a1_2 a1_3 hzHW0 hw0_0 hw0_1 hw0_2 hw0_3 hw0_4 hw0_5 hw0_6 hw0_7 hw0_8 hzHX0 hx0_0 hx0_1 hx0_2 hx0_3 hx0_4 hx0_5 hx0_6 hx0_7 hx0_8
  have hza0 := blk_lt HA0.out
  have a0_0 := (cell_of_arr HA0.out (j := 0) rfl).1
  have a0_1 := (cell_of_arr HA0.out (j := 1) rfl).1
  have a0_2 := (cell_of_arr HA0.out (j := 2) rfl).1
  have a0_3 := (cell_of_arr HA0.out (j := 3) rfl).1
  have a0_4 := (cell_of_arr HA0.out (j := 4) rfl).1
  have a0_5 := (cell_of_arr HA0.out (j := 5) rfl).1
  have a0_6 := (cell_of_arr HA0.out (j := 6) rfl).1
  have a0_7 := (cell_of_arr HA0.out (j := 7) rfl).1
  have a0_8 := (cell_of_arr HA0.out (j := 8) rfl).1
  have hza1 := blk_lt HA1.out
  have a1_0 := (cell_of_arr HA1.out (j := 0) rfl).1
  have a1_1 := (cell_of_arr HA1.out (j := 1) rfl).1
  have a1_2 := (cell_of_arr HA1.out (j := 2) rfl).1
  have a1_3 := (cell_of_arr HA1.out (j := 3) rfl).1
  have hzHW0 := blk_lt HW0.out
  have hw0_0 := (cell_of_arr HW0.out (j := 0) rfl).1
  have hw0_1 := (cell_of_arr HW0.out (j := 1) rfl).1
  have hw0_2 := (cell_of_arr HW0.out (j := 2) rfl).1
  have hw0_3 := (cell_of_arr HW0.out (j := 3) rfl).1
  have hw0_4 := (cell_of_arr HW0.out (j := 4) rfl).1
  have hw0_5 := (cell_of_arr HW0.out (j := 5) rfl).1
  have hw0_6 := (cell_of_arr HW0.out (j := 6) rfl).1
  have hw0_7 := (cell_of_arr HW0.out (j := 7) rfl).1
  have hw0_8 := (cell_of_arr HW0.out (j := 8) rfl).1
  have hzHX0 := blk_lt HX0.out
  have hx0_0 := (cell_of_arr HX0.out (j := 0) rfl).1
  have hx0_1 := (cell_of_arr HX0.out (j := 1) rfl).1
  have hx0_2 := (cell_of_arr HX0.out (j := 2) rfl).1
  have hx0_3 := (cell_of_arr HX0.out (j := 3) rfl).1
  have hx0_4 := (cell_of_arr HX0.out (j := 4) rfl).1
  have hx0_5 := (cell_of_arr HX0.out (j := 5) rfl).1
  have hx0_6 := (cell_of_arr HX0.out (j := 6) rfl).1
  have hx0_7 := (cell_of_arr HX0.out (j := 7) rfl).1
  have hx0_8 := (cell_of_arr HX0.out (j := 8) rfl).1
  have hzHG0 := blk_lt HG0.out
  have hg0_0 := (cell_of_arr HG0.out (j := 0) rfl).1
  have hg0_1 := (cell_of_arr HG0.out (j := 1) rfl).1
  have hg0_2 := (cell_of_arr HG0.out (j := 2) rfl).1
  have hg0_3 := (cell_of_arr HG0.out (j := 3) rfl).1
  have hg0_4 := (cell_of_arr HG0.out (j := 4) rfl).1
  have hg0_5 := (cell_of_arr HG0.out (j := 5) rfl).1
  have hg0_6 := (cell_of_arr HG0.out (j := 6) rfl).1
  have hg0_7 := (cell_of_arr HG0.out (j := 7) rfl).1
  have hg0_8 := (cell_of_arr HG0.out (j := 8) rfl).1
  have NE := Lib.hid (NEo.out _ _ _ _ _ _ _ (by first | (simp; done) | (have hs := HB8.out.size; have hf := HFLS.out; (try simp only [World.size_alloc] at hs); omega)) O9.out)
  clear NEo
  have LTG2 := Lib.hid (fun k hk => show w6.heap.size ≤ k from Nat.le_trans (by first | (simp; done) | (have hs := HB8.out.size; have hf := HFLS.out; (try simp only [World.size_alloc] at hs); omega)) (World.ownsRow.lt O9.out k hk).1)
  have LTG := Lib.hid (World.ownsRow.lt O9.out)
  have HLG := Lib.hid (Nat.le_trans HXL.out HLPHG0.out)
  go_wp2_with fail
  refine (eqLf_same _ _ RZ _ (lf_own HGD.out O9.out) (lf_own HGD.out O4.out)).mono ?_
  rintro e w11 ⟨rfl, g11⟩
  clear hza0 a0_0 a0_1 a0_2 a0_3 a0_4 a0_5 a0_6 a0_7 a0_8 hza1 a1_0 a1_1 a1_2 a1_3 hzHW0 hw0_0 hw0_1 hw0_2 hw0_3 hw0_4 hw0_5 hw0_6 hw0_7 hw0_8 hzHX0 hx0_0 hx0_1 hx0_2 hx0_3 hx0_4 hx0_5 hx0_6 hx0_7 hx0_8 hzHG0 hg0_0 hg0_1 hg0_2 hg0_3 hg0_4 hg0_5 hg0_6 hg0_7 hg0_8
  replace HA0 := Lib.hid ((g11.block _ (blk_lt HA0.out)).trans HA0.out)
  replace HA1 := Lib.hid ((g11.block _ (blk_lt HA1.out)).trans HA1.out)
  replace HW0 := Lib.hid ((g11.block _ (blk_lt HW0.out)).trans HW0.out)
  replace HX0 := Lib.hid ((g11.block _ (blk_lt HX0.out)).trans HX0.out)
  replace HG0 := Lib.hid ((g11.block _ (blk_lt HG0.out)).trans HG0.out)
  replace O4 := Lib.hid (own_below O4.out g11)
  replace O6 := Lib.hid (O6.out.below g11)
  replace DX6 := Lib.hid (DX6.out.below g11)
  replace O9 := Lib.hid (own_below O9.out g11)
  replace HW := Lib.hid (bseq HW.out g11)
  clear g11
  have hza0 := blk_lt HA0.out
  have a0_0 := (cell_of_arr HA0.out (j := 0) rfl).1
  have a0_1 := (cell_of_arr HA0.out (j := 1) rfl).1
  have a0_2 := (cell_of_arr HA0.out (j := 2) rfl).1
  have a0_3 := (cell_of_arr HA0.out (j := 3) rfl).1
  have a0_4 := (cell_of_arr HA0.out (j := 4) rfl).1
  have a0_5 := (cell_of_arr HA0.out (j := 5) rfl).1
  have a0_6 := (cell_of_arr HA0.out (j := 6) rfl).1
  have a0_7 := (cell_of_arr HA0.out (j := 7) rfl).1
  have a0_8 := (cell_of_arr HA0.out (j := 8) rfl).1
  have hza1 := blk_lt HA1.out
  have a1_0 := (cell_of_arr HA1.out (j := 0) rfl).1
  have a1_1 := (cell_of_arr HA1.out (j := 1) rfl).1
  have a1_2 := (cell_of_arr HA1.out (j := 2) rfl).1
  have a1_3 := (cell_of_arr HA1.out (j := 3) rfl).1
  have hzHW0 := blk_lt HW0.out
  have hw0_0 := (cell_of_arr HW0.out (j := 0) rfl).1
  have hw0_1 := (cell_of_arr HW0.out (j := 1) rfl).1
  have hw0_2 := (cell_of_arr HW0.out (j := 2) rfl).1
  have hw0_3 := (cell_of_arr HW0.out (j := 3) rfl).1
  have hw0_4 := (cell_of_arr HW0.out (j := 4) rfl).1
  have hw0_5 := (cell_of_arr HW0.out (j := 5) rfl).1
  have hw0_6 := (cell_of_arr HW0.out (j := 6) rfl).1
  have hw0_7 := (cell_of_arr HW0.out (j := 7) rfl).1
  have hw0_8 := (cell_of_arr HW0.out (j := 8) rfl).1
  have hzHX0 := blk_lt HX0.out
  have hx0_0 := (cell_of_arr HX0.out (j := 0) rfl).1
  have hx0_1 := (cell_of_arr HX0.out (j := 1) rfl).1
  have hx0_2 := (cell_of_arr HX0.out (j := 2) rfl).1
  have hx0_3 := (cell_of_arr HX0.out (j := 3) rfl).1
  have hx0_4 := (cell_of_arr HX0.out (j := 4) rfl).1
  have hx0_5 := (cell_of_arr HX0.out (j := 5) rfl).1
  have hx0_6 := (cell_of_arr HX0.out (j := 6) rfl).1
  have hx0_7 := (cell_of_arr HX0.out (j := 7) rfl).1
  have hx0_8 := (cell_of_arr HX0.out (j := 8) rfl).1
  have hzHG0 := blk_lt HG0.out
  have hg0_0 := (cell_of_arr HG0.out (j := 0) rfl).1
  have hg0_1 := (cell_of_arr HG0.out (j := 1) rfl).1
  have hg0_2 := (cell_of_arr HG0.out (j := 2) rfl).1
  have hg0_3 := (cell_of_arr HG0.out (j := 3) rfl).1
  have hg0_4 := (cell_of_arr HG0.out (j := 4) rfl).1
  have hg0_5 := (cell_of_arr HG0.out (j := 5) rfl).1
  have hg0_6 := (cell_of_arr HG0.out (j := 6) rfl).1
  have hg0_7 := (cell_of_arr HG0.out (j := 7) rfl).1
  have hg0_8 := (cell_of_arr HG0.out (j := 8) rfl).1
  go_wp2
  refine Seq3.wp_region w11 [0, 1] [(2, []), (3, [4])] (by kernel_rfl) (by kernel_rfl) rfl (Below.refl _ _) (fun w1 hh hb1 => ?_)
  repeat (first | (refine Seq2.fl_row (by decide) ?_) | (refine Seq2.fl_skip (by kernel_rfl) (by kernel_rfl) ?_ ?_; (focus (go_simp; (first | done | (simp [undef]; done)))); (try simp only [Act.put, List.setIfInBounds_toArray, List.set_cons_zero, List.set_cons_succ])) | (refine Seq2.fl_val (by kernel_rfl) (by kernel_rfl) ?_ ?_; (focus (go_simp; done)); apply Exists.intro; refine ⟨fun w2 hw2 => ?_, ?_⟩; (focus (obtain ⟨hc, hf⟩ := bcell hw2; clear hw2; go_simp; (first | done | with_reducible rfl | (with_reducible exact eql2 _ _ _) | (with_reducible exact neq2 _ _ _)))); (try simp only [Act.put, List.setIfInBounds_toArray, List.set_cons_zero, List.set_cons_succ])))
  refine Seq2.fl_nil ?_
  refine Seq3.c3_one (by kernel_rfl) rfl ?_
  gi_wp2_with fail
  refine ⟨trivial, rfl, (callsIn_wide.2 (toLf_own _ z0 _ HS0.out (HV0.out.below (HW.out.trans (hb1.mono HW.out.size))))).mono ?_⟩
  rintro e w12 ⟨v12, rfl, o12, g12⟩
  have HB12 := Lib.hid (hb1.trans (g12.mono hb1.size))
  clear g12
  have O12 := Lib.hid o12
  clear o12
  clear hh
  gi_wp2
  refine ⟨HB12.out, ?_⟩
  refine Seq3.c3_one (by kernel_rfl) rfl ?_
  gi_wp2_with fail
  refine ⟨trivial, rfl, (callsIn_wide.2 (eqLf_same _ _ z0 _ (LfO.view (O6.out.below HB12.out)) (LfO.view O12.out))).mono ?_⟩
  rintro e w13 ⟨rfl, g13⟩
  have HB13 := Lib.hid (HB12.out.trans (g13.mono HB12.out.size))
  replace O12 := Lib.hid (O12.out.below g13)
  clear g13
  gi_wp2
  refine ⟨HB13.out, ?_⟩
  refine Seq3.mid 4 ?_
  simp only [List.drop_succ_cons, List.drop_zero]
  repeat (first | (refine Seq2.fl_row (by decide) ?_) | (refine Seq2.fl_skip (by kernel_rfl) (by kernel_rfl) ?_ ?_; (focus (go_simp; (first | done | (simp [undef]; done)))); (try simp only [Act.put, List.setIfInBounds_toArray, List.set_cons_zero, List.set_cons_succ])) | (refine Seq2.fl_val (by kernel_rfl) (by kernel_rfl) ?_ ?_; (focus (go_simp; done)); apply Exists.intro; refine ⟨fun w2 hw2 => ?_, ?_⟩; (focus (obtain ⟨hc, hf⟩ := bcell hw2; clear hw2; go_simp; (first | done | with_reducible rfl | (with_reducible exact eql2 _ _ _) | (with_reducible exact neq2 _ _ _)))); (try simp only [Act.put, List.setIfInBounds_toArray, List.set_cons_zero, List.set_cons_succ])))
  refine Seq2.fl_nil ?_
  refine Seq3.c3_nil (by kernel_rfl) ?_
  clear hb1
  have g0 := HB13.out
  clear hza0 a0_0 a0_1 a0_2 a0_3 a0_4 a0_5 a0_6 a0_7 a0_8 hza1 a1_0 a1_1 a1_2 a1_3 hzHW0 hw0_0 hw0_1 hw0_2 hw0_3 hw0_4 hw0_5 hw0_6 hw0_7 hw0_8 hzHX0 hx0_0 hx0_1 hx0_2 hx0_3 hx0_4 hx0_5 hx0_6 hx0_7 hx0_8 hzHG0 hg0_0 hg0_1 hg0_2 hg0_3 hg0_4 hg0_5 hg0_6 hg0_7 hg0_8
  replace HA0 := Lib.hid ((g0.block _ (blk_lt HA0.out)).trans HA0.out)
  replace HA1 := Lib.hid ((g0.block _ (blk_lt HA1.out)).trans HA1.out)
  replace HW0 := Lib.hid ((g0.block _ (blk_lt HW0.out)).trans HW0.out)
  replace HX0 := Lib.hid ((g0.block _ (blk_lt HX0.out)).trans HX0.out)
  replace HG0 := Lib.hid ((g0.block _ (blk_lt HG0.out)).trans HG0.out)
  replace O4 := Lib.hid (own_below O4.out g0)
  replace O6 := Lib.hid (O6.out.below g0)
  replace DX6 := Lib.hid (DX6.out.below g0)
  replace O9 := Lib.hid (own_below O9.out g0)
  replace HW := Lib.hid (bseq HW.out g0)
  clear g0
  have hza0 := blk_lt HA0.out
  have a0_0 := (cell_of_arr HA0.out (j := 0) rfl).1
  have a0_1 := (cell_of_arr HA0.out (j := 1) rfl).1
  have a0_2 := (cell_of_arr HA0.out (j := 2) rfl).1
  have a0_3 := (cell_of_arr HA0.out (j := 3) rfl).1
  have a0_4 := (cell_of_arr HA0.out (j := 4) rfl).1
  have a0_5 := (cell_of_arr HA0.out (j := 5) rfl).1
  have a0_6 := (cell_of_arr HA0.out (j := 6) rfl).1
  have a0_7 := (cell_of_arr HA0.out (j := 7) rfl).1
  have a0_8 := (cell_of_arr HA0.out (j := 8) rfl).1
  have hza1 := blk_lt HA1.out
  have a1_0 := (cell_of_arr HA1.out (j := 0) rfl).1
  have a1_1 := (cell_of_arr HA1.out (j := 1) rfl).1
  have a1_2 := (cell_of_arr HA1.out (j := 2) rfl).1
  have a1_3 := (cell_of_arr HA1.out (j := 3) rfl).1
  have hzHW0 := blk_lt HW0.out
  have hw0_0 := (cell_of_arr HW0.out (j := 0) rfl).1
  have hw0_1 := (cell_of_arr HW0.out (j := 1) rfl).1
  have hw0_2 := (cell_of_arr HW0.out (j := 2) rfl).1
  have hw0_3 := (cell_of_arr HW0.out (j := 3) rfl).1
  have hw0_4 := (cell_of_arr HW0.out (j := 4) rfl).1
  have hw0_5 := (cell_of_arr HW0.out (j := 5) rfl).1
  have hw0_6 := (cell_of_arr HW0.out (j := 6) rfl).1
  have hw0_7 := (cell_of_arr HW0.out (j := 7) rfl).1
  have hw0_8 := (cell_of_arr HW0.out (j := 8) rfl).1
  have hzHX0 := blk_lt HX0.out
  have hx0_0 := (cell_of_arr HX0.out (j := 0) rfl).1
  have hx0_1 := (cell_of_arr HX0.out (j := 1) rfl).1
  have hx0_2 := (cell_of_arr HX0.out (j := 2) rfl).1
  have hx0_3 := (cell_of_arr HX0.out (j := 3) rfl).1
  have hx0_4 := (cell_of_arr HX0.out (j := 4) rfl).1
  have hx0_5 := (cell_of_arr HX0.out (j := 5) rfl).1
  have hx0_6 := (cell_of_arr HX0.out (j := 6) rfl).1
  have hx0_7 := (cell_of_arr HX0.out (j := 7) rfl).1
  have hx0_8 := (cell_of_arr HX0.out (j := 8) rfl).1
  have hzHG0 := blk_lt HG0.out
  have hg0_0 := (cell_of_arr HG0.out (j := 0) rfl).1
  have hg0_1 := (cell_of_arr HG0.out (j := 1) rfl).1
  have hg0_2 := (cell_of_arr HG0.out (j := 2) rfl).1
  have hg0_3 := (cell_of_arr HG0.out (j := 3) rfl).1
  have hg0_4 := (cell_of_arr HG0.out (j := 4) rfl).1
  have hg0_5 := (cell_of_arr HG0.out (j := 5) rfl).1
  have hg0_6 := (cell_of_arr HG0.out (j := 6) rfl).1
  have hg0_7 := (cell_of_arr HG0.out (j := 7) rfl).1
  have hg0_8 := (cell_of_arr HG0.out (j := 8) rfl).1
  clear O12
  go_wp2_with fail
  refine (markLf_any _ _ _ z0 _ DX6.out).mono ?_
  rintro e w14 ⟨k14, rfl, hk14, g14⟩
  clear hza0 a0_0 a0_1 a0_2 a0_3 a0_4 a0_5 a0_6 a0_7 a0_8 hza1 a1_0 a1_1 a1_2 a1_3 hzHW0 hw0_0 hw0_1 hw0_2 hw0_3 hw0_4 hw0_5 hw0_6 hw0_7 hw0_8 hzHX0 hx0_0 hx0_1 hx0_2 hx0_3 hx0_4 hx0_5 hx0_6 hx0_7 hx0_8 hzHG0 hg0_0 hg0_1 hg0_2 hg0_3 hg0_4 hg0_5 hg0_6 hg0_7 hg0_8
  replace HA0 := Lib.hid ((g14.block _ (blk_lt HA0.out) (by have := HZL0_0.out; (try simp only [World.size_alloc] at *); omega)).trans HA0.out)
  replace HA1 := Lib.hid ((g14.block _ (blk_lt HA1.out) (by have := HZL0_1.out; (try simp only [World.size_alloc] at *); omega)).trans HA1.out)
  replace HW0 := Lib.hid ((g14.block _ (blk_lt HW0.out) (by have := HZLX.out; have := HSZ.out; (try simp only [World.size_alloc]); omega)).trans HW0.out)
  replace HG0 := Lib.hid ((g14.block _ (blk_lt HG0.out) (by have := HLG.out; omega)).trans HG0.out)
  replace HW := Lib.hid (g14.below HW.out (by have := HLO0.out; (try simp only [World.size_alloc]); omega))
  replace O4 := Lib.hid (g14.own O4.out (fun k hk => by have := LT0_O4.out k hk; (try simp only [World.size_alloc]); omega))
  replace O9 := Lib.hid (g14.own O9.out (fun k hk => by have := LTG2.out k hk; omega))
  clear g14 DX6 O6 HX0
  have hza0 := blk_lt HA0.out
  have a0_0 := (cell_of_arr HA0.out (j := 0) rfl).1
  have a0_1 := (cell_of_arr HA0.out (j := 1) rfl).1
  have a0_2 := (cell_of_arr HA0.out (j := 2) rfl).1
  have a0_3 := (cell_of_arr HA0.out (j := 3) rfl).1
  have a0_4 := (cell_of_arr HA0.out (j := 4) rfl).1
  have a0_5 := (cell_of_arr HA0.out (j := 5) rfl).1
  have a0_6 := (cell_of_arr HA0.out (j := 6) rfl).1
  have a0_7 := (cell_of_arr HA0.out (j := 7) rfl).1
  have a0_8 := (cell_of_arr HA0.out (j := 8) rfl).1
  have hza1 := blk_lt HA1.out
  have a1_0 := (cell_of_arr HA1.out (j := 0) rfl).1
  have a1_1 := (cell_of_arr HA1.out (j := 1) rfl).1
  have a1_2 := (cell_of_arr HA1.out (j := 2) rfl).1
  have a1_3 := (cell_of_arr HA1.out (j := 3) rfl).1
  have hzHW0 := blk_lt HW0.out
  have hw0_0 := (cell_of_arr HW0.out (j := 0) rfl).1
  have hw0_1 := (cell_of_arr HW0.out (j := 1) rfl).1
  have hw0_2 := (cell_of_arr HW0.out (j := 2) rfl).1
  have hw0_3 := (cell_of_arr HW0.out (j := 3) rfl).1
  have hw0_4 := (cell_of_arr HW0.out (j := 4) rfl).1
  have hw0_5 := (cell_of_arr HW0.out (j := 5) rfl).1
  have hw0_6 := (cell_of_arr HW0.out (j := 6) rfl).1
  have hw0_7 := (cell_of_arr HW0.out (j := 7) rfl).1
  have hw0_8 := (cell_of_arr HW0.out (j := 8) rfl).1
  have hzHG0 := blk_lt HG0.out
  have hg0_0 := (cell_of_arr HG0.out (j := 0) rfl).1
  have hg0_1 := (cell_of_arr HG0.out (j := 1) rfl).1
  have hg0_2 := (cell_of_arr HG0.out (j := 2) rfl).1
  have hg0_3 := (cell_of_arr HG0.out (j := 3) rfl).1
  have hg0_4 := (cell_of_arr HG0.out (j := 4) rfl).1
  have hg0_5 := (cell_of_arr HG0.out (j := 5) rfl).1
  have hg0_6 := (cell_of_arr HG0.out (j := 6) rfl).1
  have hg0_7 := (cell_of_arr HG0.out (j := 7) rfl).1
  have hg0_8 := (cell_of_arr HG0.out (j := 8) rfl).1
  have hkk0 : decide ((k14 : Int) < 0) = false := by simp
  go_wp2_with fail
  refine (eqLf_same _ _ RZ _ (lf_own HGD.out O9.out) (lf_own HGD.out O4.out)).mono ?_
  rintro e w15 ⟨rfl, g15⟩
  clear hza0 a0_0 a0_1 a0_2 a0_3 a0_4 a0_5 a0_6 a0_7 a0_8 hza1 a1_0 a1_1 a1_2 a1_3 hzHW0 hw0_0 hw0_1 hw0_2 hw0_3 hw0_4 hw0_5 hw0_6 hw0_7 hw0_8 hzHG0 hg0_0 hg0_1 hg0_2 hg0_3 hg0_4 hg0_5 hg0_6 hg0_7 hg0_8
  replace HA0 := Lib.hid ((g15.block _ (blk_lt HA0.out)).trans HA0.out)
  replace HA1 := Lib.hid ((g15.block _ (blk_lt HA1.out)).trans HA1.out)
  replace HW0 := Lib.hid ((g15.block _ (blk_lt HW0.out)).trans HW0.out)
  replace HG0 := Lib.hid ((g15.block _ (blk_lt HG0.out)).trans HG0.out)
  replace O4 := Lib.hid (own_below O4.out g15)
  replace O9 := Lib.hid (own_below O9.out g15)
  replace HW := Lib.hid (bseq HW.out g15)
  clear g15
  have hza0 := blk_lt HA0.out
  have a0_0 := (cell_of_arr HA0.out (j := 0) rfl).1
  have a0_1 := (cell_of_arr HA0.out (j := 1) rfl).1
  have a0_2 := (cell_of_arr HA0.out (j := 2) rfl).1
  have a0_3 := (cell_of_arr HA0.out (j := 3) rfl).1
  have a0_4 := (cell_of_arr HA0.out (j := 4) rfl).1
  have a0_5 := (cell_of_arr HA0.out (j := 5) rfl).1
  have a0_6 := (cell_of_arr HA0.out (j := 6) rfl).1
  have a0_7 := (cell_of_arr HA0.out (j := 7) rfl).1
  have a0_8 := (cell_of_arr HA0.out (j := 8) rfl).1
  have hza1 := blk_lt HA1.out
  have a1_0 := (cell_of_arr HA1.out (j := 0) rfl).1
  have a1_1 := (cell_of_arr HA1.out (j := 1) rfl).1
  have a1_2 := (cell_of_arr HA1.out (j := 2) rfl).1
  have a1_3 := (cell_of_arr HA1.out (j := 3) rfl).1
  have hzHW0 := blk_lt HW0.out
  have hw0_0 := (cell_of_arr HW0.out (j := 0) rfl).1
  have hw0_1 := (cell_of_arr HW0.out (j := 1) rfl).1
  have hw0_2 := (cell_of_arr HW0.out (j := 2) rfl).1
  have hw0_3 := (cell_of_arr HW0.out (j := 3) rfl).1
  have hw0_4 := (cell_of_arr HW0.out (j := 4) rfl).1
  have hw0_5 := (cell_of_arr HW0.out (j := 5) rfl).1
  have hw0_6 := (cell_of_arr HW0.out (j := 6) rfl).1
  have hw0_7 := (cell_of_arr HW0.out (j := 7) rfl).1
  have hw0_8 := (cell_of_arr HW0.out (j := 8) rfl).1
  have hzHG0 := blk_lt HG0.out
  have hg0_0 := (cell_of_arr HG0.out (j := 0) rfl).1
  have hg0_1 := (cell_of_arr HG0.out (j := 1) rfl).1
  have hg0_2 := (cell_of_arr HG0.out (j := 2) rfl).1
  have hg0_3 := (cell_of_arr HG0.out (j := 3) rfl).1
  have hg0_4 := (cell_of_arr HG0.out (j := 4) rfl).1
  have hg0_5 := (cell_of_arr HG0.out (j := 5) rfl).1
  have hg0_6 := (cell_of_arr HG0.out (j := 6) rfl).1
  have hg0_7 := (cell_of_arr HG0.out (j := 7) rfl).1
  have hg0_8 := (cell_of_arr HG0.out (j := 8) rfl).1
  go_wp2_with fail
  refine (markLf_own _ RZ _ _ _ HGD.out O9.out).mono ?_
  rintro e w16 ⟨rfl, g16, o16⟩
  clear hza0 a0_0 a0_1 a0_2 a0_3 a0_4 a0_5 a0_6 a0_7 a0_8 hza1 a1_0 a1_1 a1_2 a1_3 hzHW0 hw0_0 hw0_1 hw0_2 hw0_3 hw0_4 hw0_5 hw0_6 hw0_7 hw0_8 hzHG0 hg0_0 hg0_1 hg0_2 hg0_3 hg0_4 hg0_5 hg0_6 hg0_7 hg0_8
  replace HA0 := Lib.hid ((g16.block _ (blk_lt HA0.out) (fun e => by have h1 := LTG2.out _ e.symm; have h2 := HZL0_0.out; have h3 := HLW0.out; have := HZLX.out; have := HSZ.out; (try simp only [World.size_alloc] at h1 h2 h3); omega)).trans HA0.out)
  replace HA1 := Lib.hid ((g16.block _ (blk_lt HA1.out) (fun e => by have h1 := LTG2.out _ e.symm; have h2 := HZL0_1.out; have h3 := HLW0.out; have := HZLX.out; have := HSZ.out; (try simp only [World.size_alloc] at h1 h2 h3); omega)).trans HA1.out)
  replace HW0 := Lib.hid ((g16.block _ (blk_lt HW0.out) (fun e => by have h1 := LTG2.out _ e.symm; have h2 := HLW0.out; (try simp only [World.size_alloc] at h1 h2); omega)).trans HW0.out)
  replace HG0 := Lib.hid ((g16.block _ (blk_lt HG0.out) (fun e => HAPHG0.out e.symm)).trans HG0.out)
  replace O4 := Lib.hid (O4.out.kept g16 (ne_symm NE.out))
  replace HW := Lib.hid (HW.out.grown g16 HW.out.size (fun k hk => by have h1 := LTG2.out _ hk; have h2 := HLW0.out; have h3 := HLO0.out; have := HZLX.out; have := HSZ.out; (try simp only [World.size_alloc] at h1 h2 h3); omega))
  replace O9 := Lib.hid o16
  clear g16 o16
  have hza0 := blk_lt HA0.out
  have a0_0 := (cell_of_arr HA0.out (j := 0) rfl).1
  have a0_1 := (cell_of_arr HA0.out (j := 1) rfl).1
  have a0_2 := (cell_of_arr HA0.out (j := 2) rfl).1
  have a0_3 := (cell_of_arr HA0.out (j := 3) rfl).1
  have a0_4 := (cell_of_arr HA0.out (j := 4) rfl).1
  have a0_5 := (cell_of_arr HA0.out (j := 5) rfl).1
  have a0_6 := (cell_of_arr HA0.out (j := 6) rfl).1
  have a0_7 := (cell_of_arr HA0.out (j := 7) rfl).1
  have a0_8 := (cell_of_arr HA0.out (j := 8) rfl).1
  have hza1 := blk_lt HA1.out
  have a1_0 := (cell_of_arr HA1.out (j := 0) rfl).1
  have a1_1 := (cell_of_arr HA1.out (j := 1) rfl).1
  have a1_2 := (cell_of_arr HA1.out (j := 2) rfl).1
  have a1_3 := (cell_of_arr HA1.out (j := 3) rfl).1
  have hzHW0 := blk_lt HW0.out
  have hw0_0 := (cell_of_arr HW0.out (j := 0) rfl).1
  have hw0_1 := (cell_of_arr HW0.out (j := 1) rfl).1
  have hw0_2 := (cell_of_arr HW0.out (j := 2) rfl).1
  have hw0_3 := (cell_of_arr HW0.out (j := 3) rfl).1
  have hw0_4 := (cell_of_arr HW0.out (j := 4) rfl).1
  have hw0_5 := (cell_of_arr HW0.out (j := 5) rfl).1
  have hw0_6 := (cell_of_arr HW0.out (j := 6) rfl).1
  have hw0_7 := (cell_of_arr HW0.out (j := 7) rfl).1
  have hw0_8 := (cell_of_arr HW0.out (j := 8) rfl).1
  have hzHG0 := blk_lt HG0.out
  have hg0_0 := (cell_of_arr HG0.out (j := 0) rfl).1
  have hg0_1 := (cell_of_arr HG0.out (j := 1) rfl).1
  have hg0_2 := (cell_of_arr HG0.out (j := 2) rfl).1
  have hg0_3 := (cell_of_arr HG0.out (j := 3) rfl).1
  have hg0_4 := (cell_of_arr HG0.out (j := 4) rfl).1
  have hg0_5 := (cell_of_arr HG0.out (j := 5) rfl).1
  have hg0_6 := (cell_of_arr HG0.out (j := 6) rfl).1
  have hg0_7 := (cell_of_arr HG0.out (j := 7) rfl).1
  have hg0_8 := (cell_of_arr HG0.out (j := 8) rfl).1
  have hk1 : decide ((1 + 4 * (RZ.df.length : Int)) < 0) = false := by simp; omega
  go_wp2_with fail
  refine (heldLf_own _ RZ _ _ _ HGD.out O9.out).mono ?_
  rintro e w17 ⟨rfl, g17⟩
  clear hza0 a0_0 a0_1 a0_2 a0_3 a0_4 a0_5 a0_6 a0_7 a0_8 hza1 a1_0 a1_1 a1_2 a1_3 hzHW0 hw0_0 hw0_1 hw0_2 hw0_3 hw0_4 hw0_5 hw0_6 hw0_7 hw0_8 hzHG0 hg0_0 hg0_1 hg0_2 hg0_3 hg0_4 hg0_5 hg0_6 hg0_7 hg0_8
  replace HA0 := Lib.hid ((g17.block _ (blk_lt HA0.out)).trans HA0.out)
  replace HA1 := Lib.hid ((g17.block _ (blk_lt HA1.out)).trans HA1.out)
  replace HW0 := Lib.hid ((g17.block _ (blk_lt HW0.out)).trans HW0.out)
  replace HG0 := Lib.hid ((g17.block _ (blk_lt HG0.out)).trans HG0.out)
  replace O4 := Lib.hid (own_below O4.out g17)
  replace O9 := Lib.hid (own_below O9.out g17)
  replace HW := Lib.hid (bseq HW.out g17)
  clear g17
  have hza0 := blk_lt HA0.out
  have a0_0 := (cell_of_arr HA0.out (j := 0) rfl).1
  have a0_1 := (cell_of_arr HA0.out (j := 1) rfl).1
  have a0_2 := (cell_of_arr HA0.out (j := 2) rfl).1
  have a0_3 := (cell_of_arr HA0.out (j := 3) rfl).1
  have a0_4 := (cell_of_arr HA0.out (j := 4) rfl).1
  have a0_5 := (cell_of_arr HA0.out (j := 5) rfl).1
  have a0_6 := (cell_of_arr HA0.out (j := 6) rfl).1
  have a0_7 := (cell_of_arr HA0.out (j := 7) rfl).1
  have a0_8 := (cell_of_arr HA0.out (j := 8) rfl).1
  have hza1 := blk_lt HA1.out
  have a1_0 := (cell_of_arr HA1.out (j := 0) rfl).1
  have a1_1 := (cell_of_arr HA1.out (j := 1) rfl).1
  have a1_2 := (cell_of_arr HA1.out (j := 2) rfl).1
  have a1_3 := (cell_of_arr HA1.out (j := 3) rfl).1
  have hzHW0 := blk_lt HW0.out
  have hw0_0 := (cell_of_arr HW0.out (j := 0) rfl).1
  have hw0_1 := (cell_of_arr HW0.out (j := 1) rfl).1
  have hw0_2 := (cell_of_arr HW0.out (j := 2) rfl).1
  have hw0_3 := (cell_of_arr HW0.out (j := 3) rfl).1
  have hw0_4 := (cell_of_arr HW0.out (j := 4) rfl).1
  have hw0_5 := (cell_of_arr HW0.out (j := 5) rfl).1
  have hw0_6 := (cell_of_arr HW0.out (j := 6) rfl).1
  have hw0_7 := (cell_of_arr HW0.out (j := 7) rfl).1
  have hw0_8 := (cell_of_arr HW0.out (j := 8) rfl).1
  have hzHG0 := blk_lt HG0.out
  have hg0_0 := (cell_of_arr HG0.out (j := 0) rfl).1
  have hg0_1 := (cell_of_arr HG0.out (j := 1) rfl).1
  have hg0_2 := (cell_of_arr HG0.out (j := 2) rfl).1
  have hg0_3 := (cell_of_arr HG0.out (j := 3) rfl).1
  have hg0_4 := (cell_of_arr HG0.out (j := 4) rfl).1
  have hg0_5 := (cell_of_arr HG0.out (j := 5) rfl).1
  have hg0_6 := (cell_of_arr HG0.out (j := 6) rfl).1
  have hg0_7 := (cell_of_arr HG0.out (j := 7) rfl).1
  have hg0_8 := (cell_of_arr HG0.out (j := 8) rfl).1
  go_wp2
  refine Seq4.wp_region w17 8 _ (.cells #[.string ⟨#[]⟩, .string ⟨#[]⟩, .int .i64 0, .string ⟨#[]⟩, .int .i64 0, .int .i64 0, .int .i64 0, .int .i64 0, .slice none 0 0] 33) [0, 2] [(1, []), (3, []), (4, [5, 6, 7])] [(9, [10])] (by kernel_rfl) (by kernel_rfl) rfl (fun a => ⟨rfl, fun w => by go_simp⟩) (by kernel_rfl) (by kernel_rfl) rfl rfl rfl (Below.refl _ _) (fun w1 hh hb1 => ?_)
  repeat (first | (refine Seq2.fl_row (by decide) ?_) | (refine Seq2.fl_skip (by kernel_rfl) (by kernel_rfl) ?_ ?_; (focus (go_simp; (first | done | (simp [undef]; done)))); (try simp only [Act.put, List.setIfInBounds_toArray, List.set_cons_zero, List.set_cons_succ])) | (refine Seq2.fl_val (by kernel_rfl) (by kernel_rfl) ?_ ?_; (focus (go_simp; done)); apply Exists.intro; refine ⟨fun w2 hw2 => ?_, ?_⟩; (focus (obtain ⟨hc, hf⟩ := bcell hw2; clear hw2; go_simp; (first | done | with_reducible rfl | (with_reducible exact eql2 _ _ _) | (with_reducible exact neq2 _ _ _)))); (try simp only [Act.put, List.setIfInBounds_toArray, List.set_cons_zero, List.set_cons_succ])))
  refine Seq2.fl_nil ?_
  refine Seq4.u_one (by kernel_rfl) rfl ?_
  intro wx18 hx18
  have HBX18 := Lib.hid (hb1.trans (hx18.mono hb1.size))
  clear hx18
  gi_wp2_with fail
  refine ⟨trivial, rfl, (callsIn_wide.2 (toLf_own _ z0 _ HS0.out (HV0.out.below (HW.out.trans (HBX18.out.mono HW.out.size))))).mono ?_⟩
  rintro e w18 ⟨v18, rfl, o18, g18⟩
  have HB18 := Lib.hid (HBX18.out.trans (g18.mono HBX18.out.size))
  have HGG18 := Lib.hid g18
  clear g18
  have O18 := Lib.hid o18
  clear o18
  clear hh
  gi_wp2
  refine ⟨HB18.out, HGG18.out, ?_⟩
  refine Seq3.none ?_
  refine Seq4.u_one (by kernel_rfl) rfl ?_
  intro wx19 hx19
  have HBX19 := Lib.hid (HB18.out.trans (hx19.mono HB18.out.size))
  have HB18 := HBX19
  replace O18 := Lib.hid (O18.out.below hx19)
  clear hx19
  gi_wp2_with fail
  refine ⟨trivial, rfl, (callsIn_wide.2 (toBx_any x1 y1 a1 b1 _)).mono ?_⟩
  rintro e w19 ⟨rfl, g19⟩
  have HB19 := Lib.hid (HBX19.out.trans (g19.mono HBX19.out.size))
  have HGG19 := Lib.hid g19
  replace O18 := Lib.hid (O18.out.below g19)
  clear g19
  gi_wp2
  refine ⟨HB19.out, HGG19.out, ?_⟩
  refine Seq3.none ?_
  refine Seq4.u_one (by kernel_rfl) rfl ?_
  intro wx20 hx20
  have HBX20 := Lib.hid (HB19.out.trans (hx20.mono HB19.out.size))
  have HB19 := HBX20
  replace O18 := Lib.hid (O18.out.below hx20)
  clear hx20
  gi_wp2_with fail
  refine ⟨trivial, rfl, (callsIn_wide.2 (tm_impl _ z0 x1 y1 a1 b1 _ (LfO.view O18.out) (HT.out.below (HW.out.trans (HBX20.out.mono HW.out.size))) (HE.out.below (HW.out.trans (HBX20.out.mono HW.out.size))))).mono ?_⟩
  rintro e w20 ⟨sv20, rfl, o20, g20⟩
  have HB20 := Lib.hid (HBX20.out.trans (g20.mono HBX20.out.size))
  have HGG20 := Lib.hid g20
  replace O18 := Lib.hid (O18.out.below g20)
  clear g20
  rw [HR.out] at o20
  rw [HR.out]
  obtain ⟨ao_20, cp_20, rfl, p20⟩ := OwnBx.view o20
  clear p20
  unfold lfW
  unfold OwnBx at o20
  have O20 := Lib.hid o20
  clear o20
  gi_wp2
  refine ⟨HB20.out, HGG20.out, ?_⟩
  refine Seq3.mid 5 ?_
  simp only [List.drop_succ_cons, List.drop_zero]
  repeat (first | (refine Seq2.fl_row (by decide) ?_) | (refine Seq2.fl_skip (by kernel_rfl) (by kernel_rfl) ?_ ?_; (focus (go_simp; (first | done | (simp [undef]; done)))); (try simp only [Act.put, List.setIfInBounds_toArray, List.set_cons_zero, List.set_cons_succ])) | (refine Seq2.fl_val (by kernel_rfl) (by kernel_rfl) ?_ ?_; (focus (go_simp; done)); apply Exists.intro; refine ⟨fun w2 hw2 => ?_, ?_⟩; (focus (obtain ⟨hc, hf⟩ := bcell hw2; clear hw2; go_simp; (first | done | with_reducible rfl | (with_reducible exact eql2 _ _ _) | (with_reducible exact neq2 _ _ _)))); (try simp only [Act.put, List.setIfInBounds_toArray, List.set_cons_zero, List.set_cons_succ])))
  refine Seq2.fl_nil ?_
  refine Seq4.u_nil (by kernel_rfl) ?_
  intro pz20 wz hz hpz hlo
  replace O20 := Lib.hid (own_below O20.out hz)
  have HAPHH0 := Lib.hid (own_apart O20.out hpz)
  have HBZ := Lib.hid (HB20.out.trans (hz.mono HB20.out.size))
  have HLPHH0 := Lib.hid hlo
  have hq := st9 (x0 := .string RZ.id) (x1 := .string RZ.fl) (x2 := .int .i64 RZ.nu) (x3 := .string RZ.ve.1) (x4 := .int .i64 RZ.ve.2.1) (x5 := .int .i64 RZ.ve.2.2) (x6 := .int .i64 RZ.wd) (x7 := .int .i64 RZ.ln) (x8 := .slice ao_20 RZ.df.length cp_20) hpz
  have gq := bel9 (x0 := .string RZ.id) (x1 := .string RZ.fl) (x2 := .int .i64 RZ.nu) (x3 := .string RZ.ve.1) (x4 := .int .i64 RZ.ve.2.1) (x5 := .int .i64 RZ.ve.2.2) (x6 := .int .i64 RZ.wd) (x7 := .int .i64 RZ.ln) (x8 := .slice ao_20 RZ.df.length cp_20) (p := pz20) HBZ.out hlo
  have oq := keep9_apart (x0 := .string RZ.id) (x1 := .string RZ.fl) (x2 := .int .i64 RZ.nu) (x3 := .string RZ.ve.1) (x4 := .int .i64 RZ.ve.2.1) (x5 := .int .i64 RZ.ve.2.2) (x6 := .int .i64 RZ.wd) (x7 := .int .i64 RZ.ln) (x8 := .slice ao_20 RZ.df.length cp_20) (p := pz20) O20.out HAPHH0.out
  obtain ⟨hzz, c0, f0, c1, f1, c2, f2, c3, f3, c4, f4, c5, f5, c6, f6, c7, f7, c8, f8⟩ := cells9_of hpz
  clear hz hlo
  refine Seq3.c3_one (by kernel_rfl) rfl ?_
  gi_wp2
  clear hzz c0 f0 c1 f1 c2 f2 c3 f3 c4 f4 c5 f5 c6 f6 c7 f7 c8 f8
  generalize hwf : (((((((((wz.setCell ⟨pz20, 0, none⟩ (.string RZ.id)).setCell ⟨pz20, 1, none⟩ (.string RZ.fl)).setCell ⟨pz20, 2, none⟩ (.int .i64 RZ.nu)).setCell ⟨pz20, 3, none⟩ (.string RZ.ve.1)).setCell ⟨pz20, 4, none⟩ (.int .i64 RZ.ve.2.1)).setCell ⟨pz20, 5, none⟩ (.int .i64 RZ.ve.2.2)).setCell ⟨pz20, 6, none⟩ (.int .i64 RZ.wd)).setCell ⟨pz20, 7, none⟩ (.int .i64 RZ.ln)).setCell ⟨pz20, 8, none⟩ (.slice ao_20 RZ.df.length cp_20)) = w21 at *
  clear hwf hpz
  refine ⟨gq, ?_⟩
  refine Seq3.mid 10 ?_
  simp only [List.drop_succ_cons, List.drop_zero]
  repeat (first | (refine Seq2.fl_row (by decide) ?_) | (refine Seq2.fl_skip (by kernel_rfl) (by kernel_rfl) ?_ ?_; (focus (go_simp; (first | done | (simp [undef]; done)))); (try simp only [Act.put, List.setIfInBounds_toArray, List.set_cons_zero, List.set_cons_succ])) | (refine Seq2.fl_val (by kernel_rfl) (by kernel_rfl) ?_ ?_; (focus (go_simp; done)); apply Exists.intro; refine ⟨fun w2 hw2 => ?_, ?_⟩; (focus (obtain ⟨hc, hf⟩ := bcell hw2; clear hw2; go_simp; (first | done | with_reducible rfl | (with_reducible exact eql2 _ _ _) | (with_reducible exact neq2 _ _ _)))); (try simp only [Act.put, List.setIfInBounds_toArray, List.set_cons_zero, List.set_cons_succ])))
  refine Seq2.fl_nil ?_
  refine Seq3.c3_nil (by kernel_rfl) ?_
  clear hb1
  replace O20 := Lib.hid oq
  have HH0 := Lib.hid hq
  have g0 := gq
  clear oq hq gq HBZ
  clear O18
  clear hza0 a0_0 a0_1 a0_2 a0_3 a0_4 a0_5 a0_6 a0_7 a0_8 hza1 a1_0 a1_1 a1_2 a1_3 hzHW0 hw0_0 hw0_1 hw0_2 hw0_3 hw0_4 hw0_5 hw0_6 hw0_7 hw0_8 hzHG0 hg0_0 hg0_1 hg0_2 hg0_3 hg0_4 hg0_5 hg0_6 hg0_7 hg0_8
  replace HA0 := Lib.hid ((g0.block _ (blk_lt HA0.out)).trans HA0.out)
  replace HA1 := Lib.hid ((g0.block _ (blk_lt HA1.out)).trans HA1.out)
  replace HW0 := Lib.hid ((g0.block _ (blk_lt HW0.out)).trans HW0.out)
  replace HG0 := Lib.hid ((g0.block _ (blk_lt HG0.out)).trans HG0.out)
  replace O4 := Lib.hid (own_below O4.out g0)
  replace O9 := Lib.hid (own_below O9.out g0)
  replace HW := Lib.hid (bseq HW.out g0)
  clear g0
  have hza0 := blk_lt HA0.out
  have a0_0 := (cell_of_arr HA0.out (j := 0) rfl).1
  have a0_1 := (cell_of_arr HA0.out (j := 1) rfl).1
  have a0_2 := (cell_of_arr HA0.out (j := 2) rfl).1
  have a0_3 := (cell_of_arr HA0.out (j := 3) rfl).1
  have a0_4 := (cell_of_arr HA0.out (j := 4) rfl).1
  have a0_5 := (cell_of_arr HA0.out (j := 5) rfl).1
  have a0_6 := (cell_of_arr HA0.out (j := 6) rfl).1
  have a0_7 := (cell_of_arr HA0.out (j := 7) rfl).1
  have a0_8 := (cell_of_arr HA0.out (j := 8) rfl).1
  have hza1 := blk_lt HA1.out
  have a1_0 := (cell_of_arr HA1.out (j := 0) rfl).1
  have a1_1 := (cell_of_arr HA1.out (j := 1) rfl).1
  have a1_2 := (cell_of_arr HA1.out (j := 2) rfl).1
  have a1_3 := (cell_of_arr HA1.out (j := 3) rfl).1
  have hzHW0 := blk_lt HW0.out
  have hw0_0 := (cell_of_arr HW0.out (j := 0) rfl).1
  have hw0_1 := (cell_of_arr HW0.out (j := 1) rfl).1
  have hw0_2 := (cell_of_arr HW0.out (j := 2) rfl).1
  have hw0_3 := (cell_of_arr HW0.out (j := 3) rfl).1
  have hw0_4 := (cell_of_arr HW0.out (j := 4) rfl).1
  have hw0_5 := (cell_of_arr HW0.out (j := 5) rfl).1
  have hw0_6 := (cell_of_arr HW0.out (j := 6) rfl).1
  have hw0_7 := (cell_of_arr HW0.out (j := 7) rfl).1
  have hw0_8 := (cell_of_arr HW0.out (j := 8) rfl).1
  have hzHG0 := blk_lt HG0.out
  have hg0_0 := (cell_of_arr HG0.out (j := 0) rfl).1
  have hg0_1 := (cell_of_arr HG0.out (j := 1) rfl).1
  have hg0_2 := (cell_of_arr HG0.out (j := 2) rfl).1
  have hg0_3 := (cell_of_arr HG0.out (j := 3) rfl).1
  have hg0_4 := (cell_of_arr HG0.out (j := 4) rfl).1
  have hg0_5 := (cell_of_arr HG0.out (j := 5) rfl).1
  have hg0_6 := (cell_of_arr HG0.out (j := 6) rfl).1
  have hg0_7 := (cell_of_arr HG0.out (j := 7) rfl).1
  have hg0_8 := (cell_of_arr HG0.out (j := 8) rfl).1
  clear hza0 a0_0 a0_1 a0_2 a0_3 a0_4 a0_5 a0_6 a0_7 a0_8 hza1 a1_0 a1_1 a1_2 a1_3 hzHW0 hw0_0 hw0_1 hw0_2 hw0_3 hw0_4 hw0_5 hw0_6 hw0_7 hw0_8 hzHG0 hg0_0 hg0_1 hg0_2 hg0_3 hg0_4 hg0_5 hg0_6 hg0_7 hg0_8
  have hza0 := blk_lt HA0.out
  have a0_0 := (cell_of_arr HA0.out (j := 0) rfl).1
  have a0_1 := (cell_of_arr HA0.out (j := 1) rfl).1
  have a0_2 := (cell_of_arr HA0.out (j := 2) rfl).1
  have a0_3 := (cell_of_arr HA0.out (j := 3) rfl).1
  have a0_4 := (cell_of_arr HA0.out (j := 4) rfl).1
  have a0_5 := (cell_of_arr HA0.out (j := 5) rfl).1
  have a0_6 := (cell_of_arr HA0.out (j := 6) rfl).1
  have a0_7 := (cell_of_arr HA0.out (j := 7) rfl).1
  have a0_8 := (cell_of_arr HA0.out (j := 8) rfl).1
  have hza1 := blk_lt HA1.out
  have a1_0 := (cell_of_arr HA1.out (j := 0) rfl).1
  have a1_1 := (cell_of_arr HA1.out (j := 1) rfl).1
  have a1_2 := (cell_of_arr HA1.out (j := 2) rfl).1
  have a1_3 := (cell_of_arr HA1.out (j := 3) rfl).1
  have hzHW0 := blk_lt HW0.out
  have hw0_0 := (cell_of_arr HW0.out (j := 0) rfl).1
  have hw0_1 := (cell_of_arr HW0.out (j := 1) rfl).1
  have hw0_2 := (cell_of_arr HW0.out (j := 2) rfl).1
  have hw0_3 := (cell_of_arr HW0.out (j := 3) rfl).1
  have hw0_4 := (cell_of_arr HW0.out (j := 4) rfl).1
  have hw0_5 := (cell_of_arr HW0.out (j := 5) rfl).1
  have hw0_6 := (cell_of_arr HW0.out (j := 6) rfl).1
  have hw0_7 := (cell_of_arr HW0.out (j := 7) rfl).1
  have hw0_8 := (cell_of_arr HW0.out (j := 8) rfl).1
  have hzHG0 := blk_lt HG0.out
  have hg0_0 := (cell_of_arr HG0.out (j := 0) rfl).1
  have hg0_1 := (cell_of_arr HG0.out (j := 1) rfl).1
  have hg0_2 := (cell_of_arr HG0.out (j := 2) rfl).1
  have hg0_3 := (cell_of_arr HG0.out (j := 3) rfl).1
  have hg0_4 := (cell_of_arr HG0.out (j := 4) rfl).1
  have hg0_5 := (cell_of_arr HG0.out (j := 5) rfl).1
  have hg0_6 := (cell_of_arr HG0.out (j := 6) rfl).1
  have hg0_7 := (cell_of_arr HG0.out (j := 7) rfl).1
  have hg0_8 := (cell_of_arr HG0.out (j := 8) rfl).1
  have hzHH0 := blk_lt HH0.out
  have hh0_0 := (cell_of_arr HH0.out (j := 0) rfl).1
  have hh0_1 := (cell_of_arr HH0.out (j := 1) rfl).1
  have hh0_2 := (cell_of_arr HH0.out (j := 2) rfl).1
  have hh0_3 := (cell_of_arr HH0.out (j := 3) rfl).1
  have hh0_4 := (cell_of_arr HH0.out (j := 4) rfl).1
  have hh0_5 := (cell_of_arr HH0.out (j := 5) rfl).1
  have hh0_6 := (cell_of_arr HH0.out (j := 6) rfl).1
  have hh0_7 := (cell_of_arr HH0.out (j := 7) rfl).1
  have hh0_8 := (cell_of_arr HH0.out (j := 8) rfl).1
  go_wp2_with fail
  refine (eqLf_same _ _ RZ _ (lf_own HGD.out O20.out) (lf_own HGD.out O4.out)).mono ?_
  rintro e w22 ⟨rfl, g22⟩
  clear hza0 a0_0 a0_1 a0_2 a0_3 a0_4 a0_5 a0_6 a0_7 a0_8 hza1 a1_0 a1_1 a1_2 a1_3 hzHW0 hw0_0 hw0_1 hw0_2 hw0_3 hw0_4 hw0_5 hw0_6 hw0_7 hw0_8 hzHG0 hg0_0 hg0_1 hg0_2 hg0_3 hg0_4 hg0_5 hg0_6 hg0_7 hg0_8 hzHH0 hh0_0 hh0_1 hh0_2 hh0_3 hh0_4 hh0_5 hh0_6 hh0_7 hh0_8
  replace HA0 := Lib.hid ((g22.block _ (blk_lt HA0.out)).trans HA0.out)
  replace HA1 := Lib.hid ((g22.block _ (blk_lt HA1.out)).trans HA1.out)
  replace HW0 := Lib.hid ((g22.block _ (blk_lt HW0.out)).trans HW0.out)
  replace HG0 := Lib.hid ((g22.block _ (blk_lt HG0.out)).trans HG0.out)
  replace HH0 := Lib.hid ((g22.block _ (blk_lt HH0.out)).trans HH0.out)
  replace O4 := Lib.hid (own_below O4.out g22)
  replace O9 := Lib.hid (own_below O9.out g22)
  replace O20 := Lib.hid (own_below O20.out g22)
  replace HW := Lib.hid (bseq HW.out g22)
  clear g22
  have hza0 := blk_lt HA0.out
  have a0_0 := (cell_of_arr HA0.out (j := 0) rfl).1
  have a0_1 := (cell_of_arr HA0.out (j := 1) rfl).1
  have a0_2 := (cell_of_arr HA0.out (j := 2) rfl).1
  have a0_3 := (cell_of_arr HA0.out (j := 3) rfl).1
  have a0_4 := (cell_of_arr HA0.out (j := 4) rfl).1
  have a0_5 := (cell_of_arr HA0.out (j := 5) rfl).1
  have a0_6 := (cell_of_arr HA0.out (j := 6) rfl).1
  have a0_7 := (cell_of_arr HA0.out (j := 7) rfl).1
  have a0_8 := (cell_of_arr HA0.out (j := 8) rfl).1
  have hza1 := blk_lt HA1.out
  have a1_0 := (cell_of_arr HA1.out (j := 0) rfl).1
  have a1_1 := (cell_of_arr HA1.out (j := 1) rfl).1
  have a1_2 := (cell_of_arr HA1.out (j := 2) rfl).1
  have a1_3 := (cell_of_arr HA1.out (j := 3) rfl).1
  have hzHW0 := blk_lt HW0.out
  have hw0_0 := (cell_of_arr HW0.out (j := 0) rfl).1
  have hw0_1 := (cell_of_arr HW0.out (j := 1) rfl).1
  have hw0_2 := (cell_of_arr HW0.out (j := 2) rfl).1
  have hw0_3 := (cell_of_arr HW0.out (j := 3) rfl).1
  have hw0_4 := (cell_of_arr HW0.out (j := 4) rfl).1
  have hw0_5 := (cell_of_arr HW0.out (j := 5) rfl).1
  have hw0_6 := (cell_of_arr HW0.out (j := 6) rfl).1
  have hw0_7 := (cell_of_arr HW0.out (j := 7) rfl).1
  have hw0_8 := (cell_of_arr HW0.out (j := 8) rfl).1
  have hzHG0 := blk_lt HG0.out
  have hg0_0 := (cell_of_arr HG0.out (j := 0) rfl).1
  have hg0_1 := (cell_of_arr HG0.out (j := 1) rfl).1
  have hg0_2 := (cell_of_arr HG0.out (j := 2) rfl).1
  have hg0_3 := (cell_of_arr HG0.out (j := 3) rfl).1
  have hg0_4 := (cell_of_arr HG0.out (j := 4) rfl).1
  have hg0_5 := (cell_of_arr HG0.out (j := 5) rfl).1
  have hg0_6 := (cell_of_arr HG0.out (j := 6) rfl).1
  have hg0_7 := (cell_of_arr HG0.out (j := 7) rfl).1
  have hg0_8 := (cell_of_arr HG0.out (j := 8) rfl).1
  have hzHH0 := blk_lt HH0.out
  have hh0_0 := (cell_of_arr HH0.out (j := 0) rfl).1
  have hh0_1 := (cell_of_arr HH0.out (j := 1) rfl).1
  have hh0_2 := (cell_of_arr HH0.out (j := 2) rfl).1
  have hh0_3 := (cell_of_arr HH0.out (j := 3) rfl).1
  have hh0_4 := (cell_of_arr HH0.out (j := 4) rfl).1
  have hh0_5 := (cell_of_arr HH0.out (j := 5) rfl).1
  have hh0_6 := (cell_of_arr HH0.out (j := 6) rfl).1
  have hh0_7 := (cell_of_arr HH0.out (j := 7) rfl).1
  have hh0_8 := (cell_of_arr HH0.out (j := 8) rfl).1
  go_wp2_with fail
  refine (heldLf_own _ RZ _ _ _ HGD.out O9.out).mono ?_
  rintro e w23 ⟨rfl, g23⟩
  clear hza0 a0_0 a0_1 a0_2 a0_3 a0_4 a0_5 a0_6 a0_7 a0_8 hza1 a1_0 a1_1 a1_2 a1_3 hzHW0 hw0_0 hw0_1 hw0_2 hw0_3 hw0_4 hw0_5 hw0_6 hw0_7 hw0_8 hzHG0 hg0_0 hg0_1 hg0_2 hg0_3 hg0_4 hg0_5 hg0_6 hg0_7 hg0_8 hzHH0 hh0_0 hh0_1 hh0_2 hh0_3 hh0_4 hh0_5 hh0_6 hh0_7 hh0_8
  replace HA0 := Lib.hid ((g23.block _ (blk_lt HA0.out)).trans HA0.out)
  replace HA1 := Lib.hid ((g23.block _ (blk_lt HA1.out)).trans HA1.out)
  replace HW0 := Lib.hid ((g23.block _ (blk_lt HW0.out)).trans HW0.out)
  replace HG0 := Lib.hid ((g23.block _ (blk_lt HG0.out)).trans HG0.out)
  replace HH0 := Lib.hid ((g23.block _ (blk_lt HH0.out)).trans HH0.out)
  replace O4 := Lib.hid (own_below O4.out g23)
  replace O9 := Lib.hid (own_below O9.out g23)
  replace O20 := Lib.hid (own_below O20.out g23)
  replace HW := Lib.hid (bseq HW.out g23)
  clear g23
  have hza0 := blk_lt HA0.out
  have a0_0 := (cell_of_arr HA0.out (j := 0) rfl).1
  have a0_1 := (cell_of_arr HA0.out (j := 1) rfl).1
  have a0_2 := (cell_of_arr HA0.out (j := 2) rfl).1
  have a0_3 := (cell_of_arr HA0.out (j := 3) rfl).1
  have a0_4 := (cell_of_arr HA0.out (j := 4) rfl).1
  have a0_5 := (cell_of_arr HA0.out (j := 5) rfl).1
  have a0_6 := (cell_of_arr HA0.out (j := 6) rfl).1
  have a0_7 := (cell_of_arr HA0.out (j := 7) rfl).1
  have a0_8 := (cell_of_arr HA0.out (j := 8) rfl).1
  have hza1 := blk_lt HA1.out
  have a1_0 := (cell_of_arr HA1.out (j := 0) rfl).1
  have a1_1 := (cell_of_arr HA1.out (j := 1) rfl).1
  have a1_2 := (cell_of_arr HA1.out (j := 2) rfl).1
  have a1_3 := (cell_of_arr HA1.out (j := 3) rfl).1
  have hzHW0 := blk_lt HW0.out
  have hw0_0 := (cell_of_arr HW0.out (j := 0) rfl).1
  have hw0_1 := (cell_of_arr HW0.out (j := 1) rfl).1
  have hw0_2 := (cell_of_arr HW0.out (j := 2) rfl).1
  have hw0_3 := (cell_of_arr HW0.out (j := 3) rfl).1
  have hw0_4 := (cell_of_arr HW0.out (j := 4) rfl).1
  have hw0_5 := (cell_of_arr HW0.out (j := 5) rfl).1
  have hw0_6 := (cell_of_arr HW0.out (j := 6) rfl).1
  have hw0_7 := (cell_of_arr HW0.out (j := 7) rfl).1
  have hw0_8 := (cell_of_arr HW0.out (j := 8) rfl).1
  have hzHG0 := blk_lt HG0.out
  have hg0_0 := (cell_of_arr HG0.out (j := 0) rfl).1
  have hg0_1 := (cell_of_arr HG0.out (j := 1) rfl).1
  have hg0_2 := (cell_of_arr HG0.out (j := 2) rfl).1
  have hg0_3 := (cell_of_arr HG0.out (j := 3) rfl).1
  have hg0_4 := (cell_of_arr HG0.out (j := 4) rfl).1
  have hg0_5 := (cell_of_arr HG0.out (j := 5) rfl).1
  have hg0_6 := (cell_of_arr HG0.out (j := 6) rfl).1
  have hg0_7 := (cell_of_arr HG0.out (j := 7) rfl).1
  have hg0_8 := (cell_of_arr HG0.out (j := 8) rfl).1
  have hzHH0 := blk_lt HH0.out
  have hh0_0 := (cell_of_arr HH0.out (j := 0) rfl).1
  have hh0_1 := (cell_of_arr HH0.out (j := 1) rfl).1
  have hh0_2 := (cell_of_arr HH0.out (j := 2) rfl).1
  have hh0_3 := (cell_of_arr HH0.out (j := 3) rfl).1
  have hh0_4 := (cell_of_arr HH0.out (j := 4) rfl).1
  have hh0_5 := (cell_of_arr HH0.out (j := 5) rfl).1
  have hh0_6 := (cell_of_arr HH0.out (j := 6) rfl).1
  have hh0_7 := (cell_of_arr HH0.out (j := 7) rfl).1
  have hh0_8 := (cell_of_arr HH0.out (j := 8) rfl).1
  go_wp2
  go_ret
  exact ⟨rfl, HW.out⟩
set_option maxRecDepth 100000 in
set_option maxHeartbeats 4000000 in
theorem walk (v0 : Value) (z0 : Lf) (x1 y1 a1 b1 : Int) (w : World) (ht : TabAt w) (he : ErrsAt w) (hv0 : LfL w v0 z0) :
    Calls Tryd.prog 3 #[v0, .agg #[.int .i64 x1, .int .i64 y1, .int .i64 a1, .int .i64 b1]] w fun e w' => e = .returned (.bool true) ∧ Below w.heap.size w w' := by
  by_cases hz0 : (LfSz z0) ≤ 1048576
  rotate_left
  · have HT := Lib.hid ht
    clear ht
    have HE := Lib.hid he
    clear he
    have HV0 := Lib.hid hv0
    obtain ⟨ao6_0, n6_0, c6_0, rfl, _, _, _, _, _, _, _, _⟩ := hv0.out
    clear hv0
    go_enter Tryd.func3, Tryd.ntmps3
    have HW := Lib.hid (show Below w.heap.size w ((w.alloc (.cells #[.string z0.id, .string z0.fl, .int .i64 z0.nu, .string z0.ve.1, .int .i64 z0.ve.2.1, .int .i64 z0.ve.2.2, .int .i64 z0.wd, .int .i64 z0.ln, .slice ao6_0 n6_0 c6_0] 26)).alloc (.cells #[.int .i64 x1, .int .i64 y1, .int .i64 a1, .int .i64 b1] 28)) from two_allocs _ _)
    have ha := World.alloc_heap_new w (.cells #[.string z0.id, .string z0.fl, .int .i64 z0.nu, .string z0.ve.1, .int .i64 z0.ve.2.1, .int .i64 z0.ve.2.2, .int .i64 z0.wd, .int .i64 z0.ln, .slice ao6_0 n6_0 c6_0] 26)
    replace ha := (Below.heap_alloc (w.alloc (.cells #[.string z0.id, .string z0.fl, .int .i64 z0.nu, .string z0.ve.1, .int .i64 z0.ve.2.1, .int .i64 z0.ve.2.2, .int .i64 z0.wd, .int .i64 z0.ln, .slice ao6_0 n6_0 c6_0] 26)) (.cells #[.int .i64 x1, .int .i64 y1, .int .i64 a1, .int .i64 b1] 28) (w.heap.size) (by simp; try omega)).trans ha
    have HA0 := Lib.hid ha
    clear ha
    have ha := World.alloc_heap_new (w.alloc (.cells #[.string z0.id, .string z0.fl, .int .i64 z0.nu, .string z0.ve.1, .int .i64 z0.ve.2.1, .int .i64 z0.ve.2.2, .int .i64 z0.wd, .int .i64 z0.ln, .slice ao6_0 n6_0 c6_0] 26)) (.cells #[.int .i64 x1, .int .i64 y1, .int .i64 a1, .int .i64 b1] 28)
    rw [show (w.alloc (.cells #[.string z0.id, .string z0.fl, .int .i64 z0.nu, .string z0.ve.1, .int .i64 z0.ve.2.1, .int .i64 z0.ve.2.2, .int .i64 z0.wd, .int .i64 z0.ln, .slice ao6_0 n6_0 c6_0] 26)).heap.size = w.heap.size + 1 by simp] at ha
    have HA1 := Lib.hid ha
    clear ha
    have HL0 := Lib.hid (lft_no (l := (1048576 : Int)) (n := (LfSz z0)) (by omega))
    go_wp2_with fail
    refine (szLf_any _ z0 ((1048576 : Int)) _ (by omega) (by omega) (HV0.out.below HW.out)).mono ?_
    rintro e w1 ⟨rfl, g1⟩
    replace HA0 := Lib.hid ((g1.block _ (blk_lt HA0.out)).trans HA0.out)
    replace HA1 := Lib.hid ((g1.block _ (blk_lt HA1.out)).trans HA1.out)
    replace HW := Lib.hid (bseq HW.out g1)
    clear g1
    have hza0 := blk_lt HA0.out
    have a0_0 := (cell_of_arr HA0.out (j := 0) rfl).1
    have a0_1 := (cell_of_arr HA0.out (j := 1) rfl).1
    have a0_2 := (cell_of_arr HA0.out (j := 2) rfl).1
    have a0_3 := (cell_of_arr HA0.out (j := 3) rfl).1
    have a0_4 := (cell_of_arr HA0.out (j := 4) rfl).1
    have a0_5 := (cell_of_arr HA0.out (j := 5) rfl).1
    have a0_6 := (cell_of_arr HA0.out (j := 6) rfl).1
    have a0_7 := (cell_of_arr HA0.out (j := 7) rfl).1
    have a0_8 := (cell_of_arr HA0.out (j := 8) rfl).1
    have hza1 := blk_lt HA1.out
    have a1_0 := (cell_of_arr HA1.out (j := 0) rfl).1
    have a1_1 := (cell_of_arr HA1.out (j := 1) rfl).1
    have a1_2 := (cell_of_arr HA1.out (j := 2) rfl).1
    have a1_3 := (cell_of_arr HA1.out (j := 3) rfl).1
    rw [HL0.out]
    go_wp2
    go_ret
    exact ⟨rfl, HW.out⟩
  exact walk_in v0 z0 x1 y1 a1 b1 w ht he (by omega) hv0

set_option maxRecDepth 100000 in
theorem contract (H : Type) (enc : TypeId × Value → H) (W : World) (base : Nat) (args : Array Value) (ds gs : List (DataW H)) (before : List MemPlace)
    (hval : ∀ (j : Nat) t v, Tryd.f3.params[j]? = some t → args[j]? = some v → Value.okWide Tryd.prog W .any base t v)
    (hW : DataW.Whole enc Tryd.prog Tryd.f3.params.toList Rows.fnExactTrimLeafSpec.vars false W args.toList ds gs before) (hL : laidMetH Tryd.prog Rows.fnExactTrimLeafRow.laid W) (hsh : W.ShapedOpen Tryd.prog) :
    Calls Tryd.prog 3 args W fun e W' => ∃ v, e = .returned v ∧ Rows.fnExactTrimLeafSpec.post enc Tryd.prog Tryd.f3 false true false false W args v W' := by
  have hW' := hW
  obtain ⟨p, q, hA0, hV, rfl, hfz, hnd⟩ := hW
  have hV' : DataW.TrodVars enc Tryd.prog W (fun _ => true) ["loop.example/g00956/impl.speciesTable", "loop.example/g00956/impl.errRange", "loop.example/g00956/impl.errState", "loop.example/g00956/impl.errNotFound", "loop.example/g00956/impl.errExists", "loop.example/g00956/impl.errFull"] gs q := hV
  have hA : DataW.TrodAll enc Tryd.prog W 0 (fun _ => true) true Tryd.f3.params.toList args.toList ds p := hA0
  rw [Tryd.params3] at hA hval
  obtain ⟨v0, vs0, d0, ds0, p0, q0, hargs, rfl, rfl, h0, r0⟩ := trodAll_cons hA
  obtain ⟨v1, vs1, d1, ds1, p1, q1, rfl, rfl, rfl, h1, r1⟩ := trodAll_cons r0
  obtain ⟨rfl, rfl, rfl⟩ := trodAll_nil r1
  obtain rfl : args = #[v0, v1] := by cases args; simp_all
  clear hA0
  have ht : TabAt W := by
    have hL1 := hL
    rw [MakeChecks.laidMetH_plain _ _ _ (by kernel_rfl)] at hL1
    exact tabAt_of hL1 (by unfold Rows.fnExactTrimLeafRow; simp)
  have he := (show ErrsAt W by
    have hL1 := hL
    rw [MakeChecks.laidMetH_plain _ _ _ (by kernel_rfl)] at hL1
    exact errs_of hL1 (by unfold Rows.fnExactTrimLeafRow; simp) (by unfold Rows.fnExactTrimLeafRow; simp) (by unfold Rows.fnExactTrimLeafRow; simp) (by unfold Rows.fnExactTrimLeafRow; simp) (by unfold Rows.fnExactTrimLeafRow; simp))
  obtain ⟨gg0, gr0, gq0, rfl, hg0⟩ := vars_uncons hV'
  obtain ⟨gg1, gr1, gq1, rfl, hg1⟩ := vars_uncons hg0
  obtain ⟨gg2, gr2, gq2, rfl, hg2⟩ := vars_uncons hg1
  obtain ⟨gg3, gr3, gq3, rfl, hg3⟩ := vars_uncons hg2
  obtain ⟨gg4, gr4, gq4, rfl, hg4⟩ := vars_uncons hg3
  obtain ⟨gg5, gr5, gq5, rfl, hg5⟩ := vars_uncons hg4
  obtain rfl := vars_end hg5
  have l0 : ∀ x ∈ p0, x.block < W.heap.size := fun x hx => hW'.lt x (by simp [hx])
  have l1 : ∀ x ∈ p1, x.block < W.heap.size := fun x hx => hW'.lt x (by simp [hx])
  have e0 := hval 0 26 v0 rfl rfl
  obtain ⟨z0, lv0⟩ := open_Lf e0 h0
  have e1 := hval 1 28 v1 rfl rfl
  obtain ⟨x1_0, x1_1, x1_2, x1_3, e1v⟩ := open_Bx e1 h1
  have hc := walk v0 z0 x1_0 x1_1 x1_2 x1_3 W ht he lv0
  simp only [← e1v] at hc
  refine hc.mono fun e W' ⟨he, hg⟩ => ?_
  subst he
  exact ⟨_, rfl, post_below (pa := (p0 ++ (p1 ++ []))) (pv := q) hW' (fun _ _ _ => (trodAll_cons_mk (shut_bool Tryd.underlying4 _) trodAll_mk0)) (fun sp hsp => (trodAll_cons_mk (trod_again (by decide) h0 l0 hg sp (fun x hx => hsp x (by simp [hx]))) (trodAll_cons_mk (trod_again (by decide) h1 l1 hg sp (fun x hx => hsp x (by simp [hx]))) trodAll_mk0))) (fun sp hsp => vars_stay hg hV' (by kernel_rfl) (fun x hx => hsp x (by first | exact hx | simp [hx]))) (by simp)
    hg (ok_one (by kernel_rfl) rfl (okWide_bool_mk Tryd.underlying4 _))⟩

set_option maxRecDepth 100000 in
theorem lifted (os : Os) (started : os.Started) (H : Type) (enc : TypeId × Value → H) (F : Stop.Interp) :
    ReturnsInHanded {} Tryd.checked os 3 .any ((OpenSpec.ofChange Rows.fnExactTrimLeafSpec).preRow enc Tryd.prog Tryd.f3 Rows.fnExactTrimLeafRow.domain false Rows.fnExactTrimLeafRow.laid) (((OpenSpec.ofChange Rows.fnExactTrimLeafSpec).at F).post enc Tryd.prog Tryd.f3 false true false false) := by
  refine returnsInHanded_of_row (C := Tryd.checked) (s := OpenSpec.ofChange Rows.fnExactTrimLeafSpec) own started (by kernel_rfl) Tryd.func3
    (ChangeSpec.witness_shaped (enc := enc) (C := Tryd.checked) (os := os) (X := fun w _ => laidMetH Tryd.prog Rows.fnExactTrimLeafRow.laid w) false (World.laidAll Tryd.prog os Rows.fnExactTrimLeafRow.laid) #[.agg #[.string ByteArray.empty, .string ByteArray.empty, .int .i64 0, .string ByteArray.empty, .int .i64 0, .int .i64 0, .int .i64 0, .int .i64 0, .slice none 0 0], .agg #[.int .i64 0, .int .i64 0, .int .i64 0, .int .i64 0]] 8 (World.laidAll_os _ _ _)
      (World.shaped_of_ZipB (by kernel_rfl) (by kernel_rfl)) (by kernel_rfl) (by kernel_rfl) (by kernel_rfl)
      (by rw [MakeChecks.laidMetH_plain _ _ _ (by kernel_rfl)]; exact laidMet_laidAll _ (by kernel_rfl) (by kernel_rfl))) ?_
  intro W base args ds gs before hval hW _ _ _ hL hsh _
  exact contract H enc W base args ds gs before hval hW hL hsh

theorem said : Rows.FnExactTrimLeafSaid :=
  OpenClaim.holds_of_cond 3 Tryd.f3 rfl rfl rfl rfl rfl rfl rfl ⟨rfl, rfl, rfl, rfl, rfl⟩ rfl rfl rfl rfl rfl (by kernel_rfl) Tryd.func3 (by kernel_rfl)
    (of_decide_eq_true (by kernel_rfl)) (by unfold Func.isWrapper; first | (rw [if_pos (by decide +kernel)]; kernel_rfl) | (rw [if_neg (by decide +kernel)]; exact ⟨rfl, rfl⟩))
    (fun os started H enc _ F => by rw [OpenClaim.pre_eq_preRow]; exact lifted os started H enc F)

theorem plain (f : FuncId) (fn : Func) (hf : Tryd.pinned.checked.prog.funcNamed Rows.fnExactTrimLeafRow.func = some f) (hfn : Tryd.pinned.checked.prog.funcs[f]? = some fn) :
    Rows.fnExactTrimLeafCard.stood.looks = Tryd.pinned.checked.prog.looks [] ∧ ∀ (j : Nat) t, fn.params[j]? = some t → Tryd.pinned.checked.prog.wantsStandIn t = false := by
  obtain rfl : f = 3 := Option.some.inj ((show Tryd.prog.funcNamed Rows.fnExactTrimLeafRow.func = some 3 by kernel_rfl).symm.trans hf) |>.symm
  obtain rfl : fn = Tryd.f3 := (Option.some.inj (Tryd.func3.symm.trans hfn)).symm
  refine ⟨by kernel_rfl, fun j t ht => ?_⟩
  rw [Tryd.params3] at ht
  have hm : t ∈ [26, 28] := by simpa using Array.mem_of_getElem? ht
  have hall : ([26, 28].all fun u => !Tryd.prog.wantsStandIn u) = true := by kernel_rfl
  exact (show Tryd.prog.wantsStandIn t = false by simpa using List.all_eq_true.1 hall t hm)

theorem card : Rows.FnExactTrimLeafCardSaid :=
  Claim7.holds_tied_plain_at .later [] _ _ _ _ said (fun _ h => by cases h) (by kernel_rfl) (fun _ h => by cases h) fnExactTrimLeaf_row_tie rfl ⟨rfl, rfl⟩ (by kernel_rfl) rfl plain (by kernel_rfl)
#print axioms card
end Go.Proofs.YtcjpplijbdfgbaaDoor.fnExactTrimLeaf
