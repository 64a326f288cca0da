/- FnExactMirrorLeaf returns true at every leaf. Condition: the table of species is as the program text lays it (tied). -/
import Derived.Test.YtcjpplijbdfgbaaDoorCards
import Derived.Test.YtcjpplijbdfgbaaDoorTie
import Derived.Test.YtcjpplijbdfgbaaDoorVenLaid
import Derived.Test.YtcjpplijbdfgbaaDoorMir3
import Derived.Test.YtcjpplijbdfgbaaDoorLfR
import Derived.Test.YtcjpplijbdfgbaaDoorK20
import Derived.Test.YtcjpplijbdfgbaaDoorSeq3
import Derived.Test.YtcjpplijbdfgbaaDoorPost
import Derived.Test.YtcjpplijbdfgbaaDoorK5
import Derived.WalkKit
import Derived.ProofKit
import Derived.OpenShut
import Derived.ChangeMaps5
import Derived.ChangeVars
import Derived.Deep.DeepHandedRow
import Derived.Lib.LaidTab
import Derived.Lib.LaidU8
import Derived.Lay
import Derived.LaidMore
import Derived.LaidSub
import Derived.MakeChecks
import Derived.SevenTiedAt
namespace Go.Proofs.YtcjpplijbdfgbaaDoor.fnExactMirrorLeaf
open Seq2 Go.ChangeShapes Go.WideShapes Go.ChangeAt Go.RowKit Go.WideElems Go.ChangeMaps
set_option linter.unusedVariables false
set_option linter.unusedSimpArgs false

theorem own : ownKnob Tryd.prog.godebug = none := by kernel_rfl

set_option maxRecDepth 100000 in
set_option maxHeartbeats 8000000 in
theorem walk_in (v0 : Value) (z0 : Lf) (w : World) (ht : TabAt w) (hsum : (LfSz z0) ≤ 1048576) (hv0 : LfL w v0 z0) :
    Calls Tryd.prog 4 #[v0] w fun e w' => e = .returned (.bool true) ∧ Below w.heap.size w w' := by
  have HS0 := Lib.hid (show (LfSz z0) ≤ 1048576 by omega)
  have HT := Lib.hid ht
  clear ht
  have HV0 := Lib.hid hv0
  obtain ⟨ao6_0, n6_0, c6_0, rfl, _, _, _, _, _, _, _, _⟩ := hv0.out
  clear hv0
  go_enter Tryd.func4, Tryd.ntmps4
  have HW := Lib.hid (show Below w.heap.size w (w.alloc (.cells #[.string z0.id, .string z0.fl, .int .i64 z0.nu, .string z0.ve.1, .int .i64 z0.ve.2.1, .int .i64 z0.ve.2.2, .int .i64 z0.wd, .int .i64 z0.ln, .slice ao6_0 n6_0 c6_0] 26)) from one_alloc _)
  have ha := World.alloc_heap_new w (.cells #[.string z0.id, .string z0.fl, .int .i64 z0.nu, .string z0.ve.1, .int .i64 z0.ve.2.1, .int .i64 z0.ve.2.2, .int .i64 z0.wd, .int .i64 z0.ln, .slice ao6_0 n6_0 c6_0] 26)
  have HA0 := Lib.hid ha
  clear ha
  have hgd := ml_good HV0.out HS0.out
  obtain ⟨R, hR⟩ : ∃ R, mlR z0 = R := ⟨_, rfl⟩
  rw [hR] at hgd
  have HR := Lib.hid hR
  have HGD := Lib.hid hgd
  clear hR hgd
  obtain ⟨RZ, rc⟩ := R
  have HL0 := Lib.hid (lft_ok (l := (1048576 : Int)) (n := (LfSz z0)) (by omega))
  have hd0 : decide ((1048576 : Int) - ((LfSz z0) : Int) < 0) = false := by simp; omega
  go_wp2_with fail
  refine (szLf_any _ z0 ((1048576 : Int)) _ (by omega) (by omega) (HV0.out.below HW.out)).mono ?_
  rintro e w1 ⟨rfl, g1⟩
  replace HA0 := Lib.hid ((g1.block _ (blk_lt HA0.out)).trans HA0.out)
  replace HW := Lib.hid (bseq HW.out g1)
  clear g1
  have hza0 := blk_lt HA0.out
  have a0_0 := (cell_of_arr HA0.out (j := 0) rfl).1
  have a0_1 := (cell_of_arr HA0.out (j := 1) rfl).1
  have a0_2 := (cell_of_arr HA0.out (j := 2) rfl).1
  have a0_3 := (cell_of_arr HA0.out (j := 3) rfl).1
  have a0_4 := (cell_of_arr HA0.out (j := 4) rfl).1
  have a0_5 := (cell_of_arr HA0.out (j := 5) rfl).1
  have a0_6 := (cell_of_arr HA0.out (j := 6) rfl).1
  have a0_7 := (cell_of_arr HA0.out (j := 7) rfl).1
  have a0_8 := (cell_of_arr HA0.out (j := 8) rfl).1
  rw [HL0.out]
  go_wp2_with fail
  refine (toLf_own _ z0 _ HS0.out (HV0.out.below HW.out)).mono ?_
  rintro e w2 ⟨v2, rfl, o2, g2⟩
  clear hza0 a0_0 a0_1 a0_2 a0_3 a0_4 a0_5 a0_6 a0_7 a0_8
  replace HA0 := Lib.hid ((g2.block _ (blk_lt HA0.out)).trans HA0.out)
  replace HW := Lib.hid (bseq HW.out g2)
  clear g2
  have hza0 := blk_lt HA0.out
  have a0_0 := (cell_of_arr HA0.out (j := 0) rfl).1
  have a0_1 := (cell_of_arr HA0.out (j := 1) rfl).1
  have a0_2 := (cell_of_arr HA0.out (j := 2) rfl).1
  have a0_3 := (cell_of_arr HA0.out (j := 3) rfl).1
  have a0_4 := (cell_of_arr HA0.out (j := 4) rfl).1
  have a0_5 := (cell_of_arr HA0.out (j := 5) rfl).1
  have a0_6 := (cell_of_arr HA0.out (j := 6) rfl).1
  have a0_7 := (cell_of_arr HA0.out (j := 7) rfl).1
  have a0_8 := (cell_of_arr HA0.out (j := 8) rfl).1
  have O2 := Lib.hid o2
  clear o2
  go_wp2_with fail
  refine (ml_spec _ z0 _ (LfO.view O2.out)).mono ?_
  rintro e w3 ⟨sv3, rfl, o3, g3⟩
  clear hza0 a0_0 a0_1 a0_2 a0_3 a0_4 a0_5 a0_6 a0_7 a0_8
  replace HA0 := Lib.hid ((g3.block _ (blk_lt HA0.out)).trans HA0.out)
  replace O2 := Lib.hid (O2.out.below g3)
  replace HW := Lib.hid (bseq HW.out g3)
  clear g3
  have hza0 := blk_lt HA0.out
  have a0_0 := (cell_of_arr HA0.out (j := 0) rfl).1
  have a0_1 := (cell_of_arr HA0.out (j := 1) rfl).1
  have a0_2 := (cell_of_arr HA0.out (j := 2) rfl).1
  have a0_3 := (cell_of_arr HA0.out (j := 3) rfl).1
  have a0_4 := (cell_of_arr HA0.out (j := 4) rfl).1
  have a0_5 := (cell_of_arr HA0.out (j := 5) rfl).1
  have a0_6 := (cell_of_arr HA0.out (j := 6) rfl).1
  have a0_7 := (cell_of_arr HA0.out (j := 7) rfl).1
  have a0_8 := (cell_of_arr HA0.out (j := 8) rfl).1
  rw [HR.out] at o3
  rw [HR.out]
  obtain ⟨ao_3, cp_3, rfl, p3⟩ := OwnBx.view o3
  clear p3
  unfold lfW
  unfold OwnBx at o3
  have O3 := Lib.hid o3
  clear o3
  clear O2
  have HLO0 := Lib.hid HW.out.size
  have HZL0_0 := Lib.hid (blk_lt HA0.out)
  have LT0_O3 := Lib.hid (fun k hk => (World.ownsRow.lt O3.out k hk).2)
  go_wp2_with fail
  refine (toLf_own _ z0 _ HS0.out (HV0.out.below (HW.out.alloc HW.out.size _))).mono ?_
  rintro e w4 ⟨v4, rfl, o4, g4⟩
  clear hza0 a0_0 a0_1 a0_2 a0_3 a0_4 a0_5 a0_6 a0_7 a0_8
  have HW0 := Lib.hid ((g4.block _ (by simp)).trans (World.alloc_heap_new w3 (.cells #[.string RZ.id, .string RZ.fl, .int .i64 RZ.nu, .string RZ.ve.1, .int .i64 RZ.ve.2.1, .int .i64 RZ.ve.2.2, .int .i64 RZ.wd, .int .i64 RZ.ln, .slice ao_3 RZ.df.length cp_3] 33)))
  replace g4 := bseq (one_alloc _) g4
  replace HA0 := Lib.hid ((g4.block _ (blk_lt HA0.out)).trans HA0.out)
  replace O3 := Lib.hid (own_below O3.out g4)
  replace HW := Lib.hid (bseq HW.out g4)
  clear g4
  have hza0 := blk_lt HA0.out
  have a0_0 := (cell_of_arr HA0.out (j := 0) rfl).1
  have a0_1 := (cell_of_arr HA0.out (j := 1) rfl).1
  have a0_2 := (cell_of_arr HA0.out (j := 2) rfl).1
  have a0_3 := (cell_of_arr HA0.out (j := 3) rfl).1
  have a0_4 := (cell_of_arr HA0.out (j := 4) rfl).1
  have a0_5 := (cell_of_arr HA0.out (j := 5) rfl).1
  have a0_6 := (cell_of_arr HA0.out (j := 6) rfl).1
  have a0_7 := (cell_of_arr HA0.out (j := 7) rfl).1
  have a0_8 := (cell_of_arr HA0.out (j := 8) rfl).1
  have hzHW0 := blk_lt HW0.out
  have hw0_0 := (cell_of_arr HW0.out (j := 0) rfl).1
  have hw0_1 := (cell_of_arr HW0.out (j := 1) rfl).1
  have hw0_2 := (cell_of_arr HW0.out (j := 2) rfl).1
  have hw0_3 := (cell_of_arr HW0.out (j := 3) rfl).1
  have hw0_4 := (cell_of_arr HW0.out (j := 4) rfl).1
  have hw0_5 := (cell_of_arr HW0.out (j := 5) rfl).1
  have hw0_6 := (cell_of_arr HW0.out (j := 6) rfl).1
  have hw0_7 := (cell_of_arr HW0.out (j := 7) rfl).1
  have hw0_8 := (cell_of_arr HW0.out (j := 8) rfl).1
  have O4 := Lib.hid o4
  clear o4
  obtain ⟨og6_x4, oh6_x4, rfl, _, _, _, _, _, _, _, _, _, _, _⟩ := O4.out.out
  have DX4 := Lib.hid (LfX.of O4.out)
  have HLW0 := Lib.hid (blk_lt HW0.out)
  have NEo := Lib.hid (fun (u : Value) (b2 m2 e2 s2 : Nat) (ys : List Value) (w2 : World) (hb : w4.heap.size ≤ b2) (h2 : w2.ownsRow b2 e2 s2 u m2 ys) => ne_block O3.out hb h2)
  go_wp2_with fail
  refine (ml_impl _ z0 _ (LfO.view (O4.out.below (one_alloc _))) (HT.out.below (HW.out.alloc HW.out.size _))).mono ?_
  rintro e w5 ⟨sv5, rfl, o5, g5⟩
  clear hza0 a0_0 a0_1 a0_2 a0_3 a0_4 a0_5 a0_6 a0_7 a0_8 hzHW0 hw0_0 hw0_1 hw0_2 hw0_3 hw0_4 hw0_5 hw0_6 hw0_7 hw0_8
  have HX0 := Lib.hid ((g5.block _ (by simp)).trans (World.alloc_heap_new w4 (.cells #[.string z0.id, .string z0.fl, .int .i64 z0.nu, .string z0.ve.1, .int .i64 z0.ve.2.1, .int .i64 z0.ve.2.2, .int .i64 z0.wd, .int .i64 z0.ln, .slice (some ⟨og6_x4, 0, none⟩) z0.df.length z0.df.length] 33)))
  replace g5 := bseq (one_alloc _) g5
  replace HA0 := Lib.hid ((g5.block _ (blk_lt HA0.out)).trans HA0.out)
  replace HW0 := Lib.hid ((g5.block _ (blk_lt HW0.out)).trans HW0.out)
  replace O3 := Lib.hid (own_below O3.out g5)
  replace O4 := Lib.hid (O4.out.below g5)
  replace DX4 := Lib.hid (DX4.out.below g5)
  replace HW := Lib.hid (bseq HW.out g5)
  clear g5
  have hza0 := blk_lt HA0.out
  have a0_0 := (cell_of_arr HA0.out (j := 0) rfl).1
  have a0_1 := (cell_of_arr HA0.out (j := 1) rfl).1
  have a0_2 := (cell_of_arr HA0.out (j := 2) rfl).1
  have a0_3 := (cell_of_arr HA0.out (j := 3) rfl).1
  have a0_4 := (cell_of_arr HA0.out (j := 4) rfl).1
  have a0_5 := (cell_of_arr HA0.out (j := 5) rfl).1
  have a0_6 := (cell_of_arr HA0.out (j := 6) rfl).1
  have a0_7 := (cell_of_arr HA0.out (j := 7) rfl).1
  have a0_8 := (cell_of_arr HA0.out (j := 8) rfl).1
  have hzHW0 := blk_lt HW0.out
  have hw0_0 := (cell_of_arr HW0.out (j := 0) rfl).1
  have hw0_1 := (cell_of_arr HW0.out (j := 1) rfl).1
  have hw0_2 := (cell_of_arr HW0.out (j := 2) rfl).1
  have hw0_3 := (cell_of_arr HW0.out (j := 3) rfl).1
  have hw0_4 := (cell_of_arr HW0.out (j := 4) rfl).1
  have hw0_5 := (cell_of_arr HW0.out (j := 5) rfl).1
  have hw0_6 := (cell_of_arr HW0.out (j := 6) rfl).1
  have hw0_7 := (cell_of_arr HW0.out (j := 7) rfl).1
  have hw0_8 := (cell_of_arr HW0.out (j := 8) rfl).1
  have hzHX0 := blk_lt HX0.out
  have hx0_0 := (cell_of_arr HX0.out (j := 0) rfl).1
  have hx0_1 := (cell_of_arr HX0.out (j := 1) rfl).1
  have hx0_2 := (cell_of_arr HX0.out (j := 2) rfl).1
  have hx0_3 := (cell_of_arr HX0.out (j := 3) rfl).1
  have hx0_4 := (cell_of_arr HX0.out (j := 4) rfl).1
  have hx0_5 := (cell_of_arr HX0.out (j := 5) rfl).1
  have hx0_6 := (cell_of_arr HX0.out (j := 6) rfl).1
  have hx0_7 := (cell_of_arr HX0.out (j := 7) rfl).1
  have hx0_8 := (cell_of_arr HX0.out (j := 8) rfl).1
  rw [HR.out] at o5
  rw [HR.out]
  obtain ⟨ao_5, cp_5, rfl, p5⟩ := OwnBx.view o5
  clear p5
  unfold lfW
  unfold OwnBx at o5
  have O5 := Lib.hid o5
  clear o5
  have NE := Lib.hid (NEo.out _ _ _ _ _ _ _ (by first | (simp; done) | (have hs := HB4.out.size; (try simp only [World.size_alloc] at hs); omega)) O5.out)
  clear NEo
  have LTG2 := Lib.hid (fun k hk => show w4.heap.size ≤ k from Nat.le_trans (by first | (simp; done) | (have hs := HB4.out.size; (try simp only [World.size_alloc] at hs); omega)) (World.ownsRow.lt O5.out k hk).1)
  have LTG := Lib.hid (World.ownsRow.lt O5.out)
  have HLG := Lib.hid (Nat.le_of_lt (blk_lt HX0.out))
  go_wp2_with fail
  refine (eqLf_same _ _ RZ _ (lf_own HGD.out (own_below O5.out (one_alloc _))) (lf_own HGD.out (own_below O3.out (one_alloc _)))).mono ?_
  rintro e w6 ⟨rfl, g6⟩
  clear hza0 a0_0 a0_1 a0_2 a0_3 a0_4 a0_5 a0_6 a0_7 a0_8 hzHW0 hw0_0 hw0_1 hw0_2 hw0_3 hw0_4 hw0_5 hw0_6 hw0_7 hw0_8 hzHX0 hx0_0 hx0_1 hx0_2 hx0_3 hx0_4 hx0_5 hx0_6 hx0_7 hx0_8
  have HG0 := Lib.hid ((g6.block _ (by simp)).trans (World.alloc_heap_new w5 (.cells #[.string RZ.id, .string RZ.fl, .int .i64 RZ.nu, .string RZ.ve.1, .int .i64 RZ.ve.2.1, .int .i64 RZ.ve.2.2, .int .i64 RZ.wd, .int .i64 RZ.ln, .slice ao_5 RZ.df.length cp_5] 33)))
  replace g6 := bseq (one_alloc _) g6
  replace HA0 := Lib.hid ((g6.block _ (blk_lt HA0.out)).trans HA0.out)
  replace HW0 := Lib.hid ((g6.block _ (blk_lt HW0.out)).trans HW0.out)
  replace HX0 := Lib.hid ((g6.block _ (blk_lt HX0.out)).trans HX0.out)
  replace O3 := Lib.hid (own_below O3.out g6)
  replace O4 := Lib.hid (O4.out.below g6)
  replace DX4 := Lib.hid (DX4.out.below g6)
  replace O5 := Lib.hid (own_below O5.out g6)
  replace HW := Lib.hid (bseq HW.out g6)
  clear g6
  have hza0 := blk_lt HA0.out
  have a0_0 := (cell_of_arr HA0.out (j := 0) rfl).1
  have a0_1 := (cell_of_arr HA0.out (j := 1) rfl).1
  have a0_2 := (cell_of_arr HA0.out (j := 2) rfl).1
  have a0_3 := (cell_of_arr HA0.out (j := 3) rfl).1
  have a0_4 := (cell_of_arr HA0.out (j := 4) rfl).1
  have a0_5 := (cell_of_arr HA0.out (j := 5) rfl).1
  have a0_6 := (cell_of_arr HA0.out (j := 6) rfl).1
  have a0_7 := (cell_of_arr HA0.out (j := 7) rfl).1
  have a0_8 := (cell_of_arr HA0.out (j := 8) rfl).1
  have hzHW0 := blk_lt HW0.out
  have hw0_0 := (cell_of_arr HW0.out (j := 0) rfl).1
  have hw0_1 := (cell_of_arr HW0.out (j := 1) rfl).1
  have hw0_2 := (cell_of_arr HW0.out (j := 2) rfl).1
  have hw0_3 := (cell_of_arr HW0.out (j := 3) rfl).1
  have hw0_4 := (cell_of_arr HW0.out (j := 4) rfl).1
  have hw0_5 := (cell_of_arr HW0.out (j := 5) rfl).1
  have hw0_6 := (cell_of_arr HW0.out (j := 6) rfl).1
  have hw0_7 := (cell_of_arr HW0.out (j := 7) rfl).1
  have hw0_8 := (cell_of_arr HW0.out (j := 8) rfl).1
  have hzHX0 := blk_lt HX0.out
  have hx0_0 := (cell_of_arr HX0.out (j := 0) rfl).1
  have hx0_1 := (cell_of_arr HX0.out (j := 1) rfl).1
  have hx0_2 := (cell_of_arr HX0.out (j := 2) rfl).1
  have hx0_3 := (cell_of_arr HX0.out (j := 3) rfl).1
  have hx0_4 := (cell_of_arr HX0.out (j := 4) rfl).1
  have hx0_5 := (cell_of_arr HX0.out (j := 5) rfl).1
  have hx0_6 := (cell_of_arr HX0.out (j := 6) rfl).1
  have hx0_7 := (cell_of_arr HX0.out (j := 7) rfl).1
  have hx0_8 := (cell_of_arr HX0.out (j := 8) rfl).1
  have hzHG0 := blk_lt HG0.out
  have hg0_0 := (cell_of_arr HG0.out (j := 0) rfl).1
  have hg0_1 := (cell_of_arr HG0.out (j := 1) rfl).1
  have hg0_2 := (cell_of_arr HG0.out (j := 2) rfl).1
  have hg0_3 := (cell_of_arr HG0.out (j := 3) rfl).1
  have hg0_4 := (cell_of_arr HG0.out (j := 4) rfl).1
  have hg0_5 := (cell_of_arr HG0.out (j := 5) rfl).1
  have hg0_6 := (cell_of_arr HG0.out (j := 6) rfl).1
  have hg0_7 := (cell_of_arr HG0.out (j := 7) rfl).1
  have hg0_8 := (cell_of_arr HG0.out (j := 8) rfl).1
  go_wp2
  refine Seq3.wp_region w6 [0, 1] [(2, []), (3, [4])] (by kernel_rfl) (by kernel_rfl) rfl (Below.refl _ _) (fun w1 hh hb1 => ?_)
  repeat (first | (refine Seq2.fl_row (by decide) ?_) | (refine Seq2.fl_skip (by kernel_rfl) (by kernel_rfl) ?_ ?_; (focus (go_simp; (first | done | (simp [undef]; done)))); (try simp only [Act.put, List.setIfInBounds_toArray, List.set_cons_zero, List.set_cons_succ])) | (refine Seq2.fl_val (by kernel_rfl) (by kernel_rfl) ?_ ?_; (focus (go_simp; done)); apply Exists.intro; refine ⟨fun w2 hw2 => ?_, ?_⟩; (focus (obtain ⟨hc, hf⟩ := bcell hw2; clear hw2; go_simp; (first | done | with_reducible rfl | (with_reducible exact eql2 _ _ _) | (with_reducible exact neq2 _ _ _)))); (try simp only [Act.put, List.setIfInBounds_toArray, List.set_cons_zero, List.set_cons_succ])))
  refine Seq2.fl_nil ?_
  refine Seq3.c3_one (by kernel_rfl) rfl ?_
  gi_wp2_with fail
  refine ⟨trivial, rfl, (callsIn_wide.2 (toLf_own _ z0 _ HS0.out (HV0.out.below (HW.out.trans (hb1.mono HW.out.size))))).mono ?_⟩
  rintro e w7 ⟨v7, rfl, o7, g7⟩
  have HB7 := Lib.hid (hb1.trans (g7.mono hb1.size))
  clear g7
  have O7 := Lib.hid o7
  clear o7
  clear hh
  gi_wp2
  refine ⟨HB7.out, ?_⟩
  refine Seq3.c3_one (by kernel_rfl) rfl ?_
  gi_wp2_with fail
  refine ⟨trivial, rfl, (callsIn_wide.2 (eqLf_same _ _ z0 _ (LfO.view (O4.out.below HB7.out)) (LfO.view O7.out))).mono ?_⟩
  rintro e w8 ⟨rfl, g8⟩
  have HB8 := Lib.hid (HB7.out.trans (g8.mono HB7.out.size))
  replace O7 := Lib.hid (O7.out.below g8)
  clear g8
  gi_wp2
  refine ⟨HB8.out, ?_⟩
  refine Seq3.mid 4 ?_
  simp only [List.drop_succ_cons, List.drop_zero]
  repeat (first | (refine Seq2.fl_row (by decide) ?_) | (refine Seq2.fl_skip (by kernel_rfl) (by kernel_rfl) ?_ ?_; (focus (go_simp; (first | done | (simp [undef]; done)))); (try simp only [Act.put, List.setIfInBounds_toArray, List.set_cons_zero, List.set_cons_succ])) | (refine Seq2.fl_val (by kernel_rfl) (by kernel_rfl) ?_ ?_; (focus (go_simp; done)); apply Exists.intro; refine ⟨fun w2 hw2 => ?_, ?_⟩; (focus (obtain ⟨hc, hf⟩ := bcell hw2; clear hw2; go_simp; (first | done | with_reducible rfl | (with_reducible exact eql2 _ _ _) | (with_reducible exact neq2 _ _ _)))); (try simp only [Act.put, List.setIfInBounds_toArray, List.set_cons_zero, List.set_cons_succ])))
  refine Seq2.fl_nil ?_
  refine Seq3.c3_nil (by kernel_rfl) ?_
  clear hb1
  have g0 := HB8.out
  clear hza0 a0_0 a0_1 a0_2 a0_3 a0_4 a0_5 a0_6 a0_7 a0_8 hzHW0 hw0_0 hw0_1 hw0_2 hw0_3 hw0_4 hw0_5 hw0_6 hw0_7 hw0_8 hzHX0 hx0_0 hx0_1 hx0_2 hx0_3 hx0_4 hx0_5 hx0_6 hx0_7 hx0_8 hzHG0 hg0_0 hg0_1 hg0_2 hg0_3 hg0_4 hg0_5 hg0_6 hg0_7 hg0_8
  replace HA0 := Lib.hid ((g0.block _ (blk_lt HA0.out)).trans HA0.out)
  replace HW0 := Lib.hid ((g0.block _ (blk_lt HW0.out)).trans HW0.out)
  replace HX0 := Lib.hid ((g0.block _ (blk_lt HX0.out)).trans HX0.out)
  replace HG0 := Lib.hid ((g0.block _ (blk_lt HG0.out)).trans HG0.out)
  replace O3 := Lib.hid (own_below O3.out g0)
  replace O4 := Lib.hid (O4.out.below g0)
  replace DX4 := Lib.hid (DX4.out.below g0)
  replace O5 := Lib.hid (own_below O5.out g0)
  replace HW := Lib.hid (bseq HW.out g0)
  clear g0
  have hza0 := blk_lt HA0.out
  have a0_0 := (cell_of_arr HA0.out (j := 0) rfl).1
  have a0_1 := (cell_of_arr HA0.out (j := 1) rfl).1
  have a0_2 := (cell_of_arr HA0.out (j := 2) rfl).1
  have a0_3 := (cell_of_arr HA0.out (j := 3) rfl).1
  have a0_4 := (cell_of_arr HA0.out (j := 4) rfl).1
  have a0_5 := (cell_of_arr HA0.out (j := 5) rfl).1
  have a0_6 := (cell_of_arr HA0.out (j := 6) rfl).1
  have a0_7 := (cell_of_arr HA0.out (j := 7) rfl).1
  have a0_8 := (cell_of_arr HA0.out (j := 8) rfl).1
  have hzHW0 := blk_lt HW0.out
  have hw0_0 := (cell_of_arr HW0.out (j := 0) rfl).1
  have hw0_1 := (cell_of_arr HW0.out (j := 1) rfl).1
  have hw0_2 := (cell_of_arr HW0.out (j := 2) rfl).1
  have hw0_3 := (cell_of_arr HW0.out (j := 3) rfl).1
  have hw0_4 := (cell_of_arr HW0.out (j := 4) rfl).1
  have hw0_5 := (cell_of_arr HW0.out (j := 5) rfl).1
  have hw0_6 := (cell_of_arr HW0.out (j := 6) rfl).1
  have hw0_7 := (cell_of_arr HW0.out (j := 7) rfl).1
  have hw0_8 := (cell_of_arr HW0.out (j := 8) rfl).1
  have hzHX0 := blk_lt HX0.out
  have hx0_0 := (cell_of_arr HX0.out (j := 0) rfl).1
  have hx0_1 := (cell_of_arr HX0.out (j := 1) rfl).1
  have hx0_2 := (cell_of_arr HX0.out (j := 2) rfl).1
  have hx0_3 := (cell_of_arr HX0.out (j := 3) rfl).1
  have hx0_4 := (cell_of_arr HX0.out (j := 4) rfl).1
  have hx0_5 := (cell_of_arr HX0.out (j := 5) rfl).1
  have hx0_6 := (cell_of_arr HX0.out (j := 6) rfl).1
  have hx0_7 := (cell_of_arr HX0.out (j := 7) rfl).1
  have hx0_8 := (cell_of_arr HX0.out (j := 8) rfl).1
  have hzHG0 := blk_lt HG0.out
  have hg0_0 := (cell_of_arr HG0.out (j := 0) rfl).1
  have hg0_1 := (cell_of_arr HG0.out (j := 1) rfl).1
  have hg0_2 := (cell_of_arr HG0.out (j := 2) rfl).1
  have hg0_3 := (cell_of_arr HG0.out (j := 3) rfl).1
  have hg0_4 := (cell_of_arr HG0.out (j := 4) rfl).1
  have hg0_5 := (cell_of_arr HG0.out (j := 5) rfl).1
  have hg0_6 := (cell_of_arr HG0.out (j := 6) rfl).1
  have hg0_7 := (cell_of_arr HG0.out (j := 7) rfl).1
  have hg0_8 := (cell_of_arr HG0.out (j := 8) rfl).1
  clear O7
  go_wp2_with fail
  refine (markLf_any _ _ _ z0 _ DX4.out).mono ?_
  rintro e w9 ⟨k9, rfl, hk9, g9⟩
  clear hza0 a0_0 a0_1 a0_2 a0_3 a0_4 a0_5 a0_6 a0_7 a0_8 hzHW0 hw0_0 hw0_1 hw0_2 hw0_3 hw0_4 hw0_5 hw0_6 hw0_7 hw0_8 hzHX0 hx0_0 hx0_1 hx0_2 hx0_3 hx0_4 hx0_5 hx0_6 hx0_7 hx0_8 hzHG0 hg0_0 hg0_1 hg0_2 hg0_3 hg0_4 hg0_5 hg0_6 hg0_7 hg0_8
  replace HA0 := Lib.hid ((g9.block _ (blk_lt HA0.out) (by have := HZL0_0.out; (try simp only [World.size_alloc] at *); omega)).trans HA0.out)
  replace HW0 := Lib.hid ((g9.block _ (blk_lt HW0.out) (by (try simp only [World.size_alloc]); omega)).trans HW0.out)
  replace HG0 := Lib.hid ((g9.block _ (blk_lt HG0.out) (by have := HLG.out; omega)).trans HG0.out)
  replace HW := Lib.hid (g9.below HW.out (by have := HLO0.out; (try simp only [World.size_alloc]); omega))
  replace O3 := Lib.hid (g9.own O3.out (fun k hk => by have := LT0_O3.out k hk; (try simp only [World.size_alloc]); omega))
  replace O5 := Lib.hid (g9.own O5.out (fun k hk => by have := LTG2.out k hk; omega))
  clear g9 DX4 O4 HX0
  have hza0 := blk_lt HA0.out
  have a0_0 := (cell_of_arr HA0.out (j := 0) rfl).1
  have a0_1 := (cell_of_arr HA0.out (j := 1) rfl).1
  have a0_2 := (cell_of_arr HA0.out (j := 2) rfl).1
  have a0_3 := (cell_of_arr HA0.out (j := 3) rfl).1
  have a0_4 := (cell_of_arr HA0.out (j := 4) rfl).1
  have a0_5 := (cell_of_arr HA0.out (j := 5) rfl).1
  have a0_6 := (cell_of_arr HA0.out (j := 6) rfl).1
  have a0_7 := (cell_of_arr HA0.out (j := 7) rfl).1
  have a0_8 := (cell_of_arr HA0.out (j := 8) rfl).1
  have hzHW0 := blk_lt HW0.out
  have hw0_0 := (cell_of_arr HW0.out (j := 0) rfl).1
  have hw0_1 := (cell_of_arr HW0.out (j := 1) rfl).1
  have hw0_2 := (cell_of_arr HW0.out (j := 2) rfl).1
  have hw0_3 := (cell_of_arr HW0.out (j := 3) rfl).1
  have hw0_4 := (cell_of_arr HW0.out (j := 4) rfl).1
  have hw0_5 := (cell_of_arr HW0.out (j := 5) rfl).1
  have hw0_6 := (cell_of_arr HW0.out (j := 6) rfl).1
  have hw0_7 := (cell_of_arr HW0.out (j := 7) rfl).1
  have hw0_8 := (cell_of_arr HW0.out (j := 8) rfl).1
  have hzHG0 := blk_lt HG0.out
  have hg0_0 := (cell_of_arr HG0.out (j := 0) rfl).1
  have hg0_1 := (cell_of_arr HG0.out (j := 1) rfl).1
  have hg0_2 := (cell_of_arr HG0.out (j := 2) rfl).1
  have hg0_3 := (cell_of_arr HG0.out (j := 3) rfl).1
  have hg0_4 := (cell_of_arr HG0.out (j := 4) rfl).1
  have hg0_5 := (cell_of_arr HG0.out (j := 5) rfl).1
  have hg0_6 := (cell_of_arr HG0.out (j := 6) rfl).1
  have hg0_7 := (cell_of_arr HG0.out (j := 7) rfl).1
  have hg0_8 := (cell_of_arr HG0.out (j := 8) rfl).1
  have hkk0 : decide ((k9 : Int) < 0) = false := by simp
  go_wp2_with fail
  refine (eqLf_same _ _ RZ _ (lf_own HGD.out O5.out) (lf_own HGD.out O3.out)).mono ?_
  rintro e w10 ⟨rfl, g10⟩
  clear hza0 a0_0 a0_1 a0_2 a0_3 a0_4 a0_5 a0_6 a0_7 a0_8 hzHW0 hw0_0 hw0_1 hw0_2 hw0_3 hw0_4 hw0_5 hw0_6 hw0_7 hw0_8 hzHG0 hg0_0 hg0_1 hg0_2 hg0_3 hg0_4 hg0_5 hg0_6 hg0_7 hg0_8
  replace HA0 := Lib.hid ((g10.block _ (blk_lt HA0.out)).trans HA0.out)
  replace HW0 := Lib.hid ((g10.block _ (blk_lt HW0.out)).trans HW0.out)
  replace HG0 := Lib.hid ((g10.block _ (blk_lt HG0.out)).trans HG0.out)
  replace O3 := Lib.hid (own_below O3.out g10)
  replace O5 := Lib.hid (own_below O5.out g10)
  replace HW := Lib.hid (bseq HW.out g10)
  clear g10
  have hza0 := blk_lt HA0.out
  have a0_0 := (cell_of_arr HA0.out (j := 0) rfl).1
  have a0_1 := (cell_of_arr HA0.out (j := 1) rfl).1
  have a0_2 := (cell_of_arr HA0.out (j := 2) rfl).1
  have a0_3 := (cell_of_arr HA0.out (j := 3) rfl).1
  have a0_4 := (cell_of_arr HA0.out (j := 4) rfl).1
  have a0_5 := (cell_of_arr HA0.out (j := 5) rfl).1
  have a0_6 := (cell_of_arr HA0.out (j := 6) rfl).1
  have a0_7 := (cell_of_arr HA0.out (j := 7) rfl).1
  have a0_8 := (cell_of_arr HA0.out (j := 8) rfl).1
  have hzHW0 := blk_lt HW0.out
  have hw0_0 := (cell_of_arr HW0.out (j := 0) rfl).1
  have hw0_1 := (cell_of_arr HW0.out (j := 1) rfl).1
  have hw0_2 := (cell_of_arr HW0.out (j := 2) rfl).1
  have hw0_3 := (cell_of_arr HW0.out (j := 3) rfl).1
  have hw0_4 := (cell_of_arr HW0.out (j := 4) rfl).1
  have hw0_5 := (cell_of_arr HW0.out (j := 5) rfl).1
  have hw0_6 := (cell_of_arr HW0.out (j := 6) rfl).1
  have hw0_7 := (cell_of_arr HW0.out (j := 7) rfl).1
  have hw0_8 := (cell_of_arr HW0.out (j := 8) rfl).1
  have hzHG0 := blk_lt HG0.out
  have hg0_0 := (cell_of_arr HG0.out (j := 0) rfl).1
  have hg0_1 := (cell_of_arr HG0.out (j := 1) rfl).1
  have hg0_2 := (cell_of_arr HG0.out (j := 2) rfl).1
  have hg0_3 := (cell_of_arr HG0.out (j := 3) rfl).1
  have hg0_4 := (cell_of_arr HG0.out (j := 4) rfl).1
  have hg0_5 := (cell_of_arr HG0.out (j := 5) rfl).1
  have hg0_6 := (cell_of_arr HG0.out (j := 6) rfl).1
  have hg0_7 := (cell_of_arr HG0.out (j := 7) rfl).1
  have hg0_8 := (cell_of_arr HG0.out (j := 8) rfl).1
  go_wp2_with fail
  refine (markLf_own _ RZ _ _ _ HGD.out O5.out).mono ?_
  rintro e w11 ⟨rfl, g11, o11⟩
  clear hza0 a0_0 a0_1 a0_2 a0_3 a0_4 a0_5 a0_6 a0_7 a0_8 hzHW0 hw0_0 hw0_1 hw0_2 hw0_3 hw0_4 hw0_5 hw0_6 hw0_7 hw0_8 hzHG0 hg0_0 hg0_1 hg0_2 hg0_3 hg0_4 hg0_5 hg0_6 hg0_7 hg0_8
  replace HA0 := Lib.hid ((g11.block _ (blk_lt HA0.out) (fun e => by have h1 := LTG2.out _ e.symm; have h2 := HZL0_0.out; have h3 := HLW0.out; (try simp only [World.size_alloc] at h1 h2 h3); omega)).trans HA0.out)
  replace HW0 := Lib.hid ((g11.block _ (blk_lt HW0.out) (fun e => by have h1 := LTG2.out _ e.symm; have h2 := HLW0.out; (try simp only [World.size_alloc] at h1 h2); omega)).trans HW0.out)
  replace HG0 := Lib.hid ((g11.block _ (blk_lt HG0.out) (fun e => by have h1 := (LTG.out _ e.symm).2; omega)).trans HG0.out)
  replace O3 := Lib.hid (O3.out.kept g11 (ne_symm NE.out))
  replace HW := Lib.hid (HW.out.grown g11 HW.out.size (fun k hk => by have h1 := LTG2.out _ hk; have h2 := HLW0.out; have h3 := HLO0.out; (try simp only [World.size_alloc] at h1 h2 h3); omega))
  replace O5 := Lib.hid o11
  clear g11 o11
  have hza0 := blk_lt HA0.out
  have a0_0 := (cell_of_arr HA0.out (j := 0) rfl).1
  have a0_1 := (cell_of_arr HA0.out (j := 1) rfl).1
  have a0_2 := (cell_of_arr HA0.out (j := 2) rfl).1
  have a0_3 := (cell_of_arr HA0.out (j := 3) rfl).1
  have a0_4 := (cell_of_arr HA0.out (j := 4) rfl).1
  have a0_5 := (cell_of_arr HA0.out (j := 5) rfl).1
  have a0_6 := (cell_of_arr HA0.out (j := 6) rfl).1
  have a0_7 := (cell_of_arr HA0.out (j := 7) rfl).1
  have a0_8 := (cell_of_arr HA0.out (j := 8) rfl).1
  have hzHW0 := blk_lt HW0.out
  have hw0_0 := (cell_of_arr HW0.out (j := 0) rfl).1
  have hw0_1 := (cell_of_arr HW0.out (j := 1) rfl).1
  have hw0_2 := (cell_of_arr HW0.out (j := 2) rfl).1
  have hw0_3 := (cell_of_arr HW0.out (j := 3) rfl).1
  have hw0_4 := (cell_of_arr HW0.out (j := 4) rfl).1
  have hw0_5 := (cell_of_arr HW0.out (j := 5) rfl).1
  have hw0_6 := (cell_of_arr HW0.out (j := 6) rfl).1
  have hw0_7 := (cell_of_arr HW0.out (j := 7) rfl).1
  have hw0_8 := (cell_of_arr HW0.out (j := 8) rfl).1
  have hzHG0 := blk_lt HG0.out
  have hg0_0 := (cell_of_arr HG0.out (j := 0) rfl).1
  have hg0_1 := (cell_of_arr HG0.out (j := 1) rfl).1
  have hg0_2 := (cell_of_arr HG0.out (j := 2) rfl).1
  have hg0_3 := (cell_of_arr HG0.out (j := 3) rfl).1
  have hg0_4 := (cell_of_arr HG0.out (j := 4) rfl).1
  have hg0_5 := (cell_of_arr HG0.out (j := 5) rfl).1
  have hg0_6 := (cell_of_arr HG0.out (j := 6) rfl).1
  have hg0_7 := (cell_of_arr HG0.out (j := 7) rfl).1
  have hg0_8 := (cell_of_arr HG0.out (j := 8) rfl).1
  have hk1 : decide ((1 + 4 * (RZ.df.length : Int)) < 0) = false := by simp; omega
  go_wp2_with fail
  refine (heldLf_own _ RZ _ _ _ HGD.out O5.out).mono ?_
  rintro e w12 ⟨rfl, g12⟩
  clear hza0 a0_0 a0_1 a0_2 a0_3 a0_4 a0_5 a0_6 a0_7 a0_8 hzHW0 hw0_0 hw0_1 hw0_2 hw0_3 hw0_4 hw0_5 hw0_6 hw0_7 hw0_8 hzHG0 hg0_0 hg0_1 hg0_2 hg0_3 hg0_4 hg0_5 hg0_6 hg0_7 hg0_8
  replace HA0 := Lib.hid ((g12.block _ (blk_lt HA0.out)).trans HA0.out)
  replace HW0 := Lib.hid ((g12.block _ (blk_lt HW0.out)).trans HW0.out)
  replace HG0 := Lib.hid ((g12.block _ (blk_lt HG0.out)).trans HG0.out)
  replace O3 := Lib.hid (own_below O3.out g12)
  replace O5 := Lib.hid (own_below O5.out g12)
  replace HW := Lib.hid (bseq HW.out g12)
  clear g12
  have hza0 := blk_lt HA0.out
  have a0_0 := (cell_of_arr HA0.out (j := 0) rfl).1
  have a0_1 := (cell_of_arr HA0.out (j := 1) rfl).1
  have a0_2 := (cell_of_arr HA0.out (j := 2) rfl).1
  have a0_3 := (cell_of_arr HA0.out (j := 3) rfl).1
  have a0_4 := (cell_of_arr HA0.out (j := 4) rfl).1
  have a0_5 := (cell_of_arr HA0.out (j := 5) rfl).1
  have a0_6 := (cell_of_arr HA0.out (j := 6) rfl).1
  have a0_7 := (cell_of_arr HA0.out (j := 7) rfl).1
  have a0_8 := (cell_of_arr HA0.out (j := 8) rfl).1
  have hzHW0 := blk_lt HW0.out
  have hw0_0 := (cell_of_arr HW0.out (j := 0) rfl).1
  have hw0_1 := (cell_of_arr HW0.out (j := 1) rfl).1
  have hw0_2 := (cell_of_arr HW0.out (j := 2) rfl).1
  have hw0_3 := (cell_of_arr HW0.out (j := 3) rfl).1
  have hw0_4 := (cell_of_arr HW0.out (j := 4) rfl).1
  have hw0_5 := (cell_of_arr HW0.out (j := 5) rfl).1
  have hw0_6 := (cell_of_arr HW0.out (j := 6) rfl).1
  have hw0_7 := (cell_of_arr HW0.out (j := 7) rfl).1
  have hw0_8 := (cell_of_arr HW0.out (j := 8) rfl).1
  have hzHG0 := blk_lt HG0.out
  have hg0_0 := (cell_of_arr HG0.out (j := 0) rfl).1
  have hg0_1 := (cell_of_arr HG0.out (j := 1) rfl).1
  have hg0_2 := (cell_of_arr HG0.out (j := 2) rfl).1
  have hg0_3 := (cell_of_arr HG0.out (j := 3) rfl).1
  have hg0_4 := (cell_of_arr HG0.out (j := 4) rfl).1
  have hg0_5 := (cell_of_arr HG0.out (j := 5) rfl).1
  have hg0_6 := (cell_of_arr HG0.out (j := 6) rfl).1
  have hg0_7 := (cell_of_arr HG0.out (j := 7) rfl).1
  have hg0_8 := (cell_of_arr HG0.out (j := 8) rfl).1
  go_wp2_with fail
  refine (toLf_own _ z0 _ HS0.out (HV0.out.below HW.out)).mono ?_
  rintro e w13 ⟨v13, rfl, o13, g13⟩
  clear hza0 a0_0 a0_1 a0_2 a0_3 a0_4 a0_5 a0_6 a0_7 a0_8 hzHW0 hw0_0 hw0_1 hw0_2 hw0_3 hw0_4 hw0_5 hw0_6 hw0_7 hw0_8 hzHG0 hg0_0 hg0_1 hg0_2 hg0_3 hg0_4 hg0_5 hg0_6 hg0_7 hg0_8
  replace HA0 := Lib.hid ((g13.block _ (blk_lt HA0.out)).trans HA0.out)
  replace HW0 := Lib.hid ((g13.block _ (blk_lt HW0.out)).trans HW0.out)
  replace HG0 := Lib.hid ((g13.block _ (blk_lt HG0.out)).trans HG0.out)
  replace O3 := Lib.hid (own_below O3.out g13)
  replace O5 := Lib.hid (own_below O5.out g13)
  replace HW := Lib.hid (bseq HW.out g13)
  clear g13
  have hza0 := blk_lt HA0.out
  have a0_0 := (cell_of_arr HA0.out (j := 0) rfl).1
  have a0_1 := (cell_of_arr HA0.out (j := 1) rfl).1
  have a0_2 := (cell_of_arr HA0.out (j := 2) rfl).1
  have a0_3 := (cell_of_arr HA0.out (j := 3) rfl).1
  have a0_4 := (cell_of_arr HA0.out (j := 4) rfl).1
  have a0_5 := (cell_of_arr HA0.out (j := 5) rfl).1
  have a0_6 := (cell_of_arr HA0.out (j := 6) rfl).1
  have a0_7 := (cell_of_arr HA0.out (j := 7) rfl).1
  have a0_8 := (cell_of_arr HA0.out (j := 8) rfl).1
  have hzHW0 := blk_lt HW0.out
  have hw0_0 := (cell_of_arr HW0.out (j := 0) rfl).1
  have hw0_1 := (cell_of_arr HW0.out (j := 1) rfl).1
  have hw0_2 := (cell_of_arr HW0.out (j := 2) rfl).1
  have hw0_3 := (cell_of_arr HW0.out (j := 3) rfl).1
  have hw0_4 := (cell_of_arr HW0.out (j := 4) rfl).1
  have hw0_5 := (cell_of_arr HW0.out (j := 5) rfl).1
  have hw0_6 := (cell_of_arr HW0.out (j := 6) rfl).1
  have hw0_7 := (cell_of_arr HW0.out (j := 7) rfl).1
  have hw0_8 := (cell_of_arr HW0.out (j := 8) rfl).1
  have hzHG0 := blk_lt HG0.out
  have hg0_0 := (cell_of_arr HG0.out (j := 0) rfl).1
  have hg0_1 := (cell_of_arr HG0.out (j := 1) rfl).1
  have hg0_2 := (cell_of_arr HG0.out (j := 2) rfl).1
  have hg0_3 := (cell_of_arr HG0.out (j := 3) rfl).1
  have hg0_4 := (cell_of_arr HG0.out (j := 4) rfl).1
  have hg0_5 := (cell_of_arr HG0.out (j := 5) rfl).1
  have hg0_6 := (cell_of_arr HG0.out (j := 6) rfl).1
  have hg0_7 := (cell_of_arr HG0.out (j := 7) rfl).1
  have hg0_8 := (cell_of_arr HG0.out (j := 8) rfl).1
  have O13 := Lib.hid o13
  clear o13
  go_wp2_with fail
  refine (ml_impl _ z0 _ (LfO.view O13.out) (HT.out.below HW.out)).mono ?_
  rintro e w14 ⟨sv14, rfl, o14, g14⟩
  clear hza0 a0_0 a0_1 a0_2 a0_3 a0_4 a0_5 a0_6 a0_7 a0_8 hzHW0 hw0_0 hw0_1 hw0_2 hw0_3 hw0_4 hw0_5 hw0_6 hw0_7 hw0_8 hzHG0 hg0_0 hg0_1 hg0_2 hg0_3 hg0_4 hg0_5 hg0_6 hg0_7 hg0_8
  replace HA0 := Lib.hid ((g14.block _ (blk_lt HA0.out)).trans HA0.out)
  replace HW0 := Lib.hid ((g14.block _ (blk_lt HW0.out)).trans HW0.out)
  replace HG0 := Lib.hid ((g14.block _ (blk_lt HG0.out)).trans HG0.out)
  replace O3 := Lib.hid (own_below O3.out g14)
  replace O5 := Lib.hid (own_below O5.out g14)
  replace O13 := Lib.hid (O13.out.below g14)
  replace HW := Lib.hid (bseq HW.out g14)
  clear g14
  have hza0 := blk_lt HA0.out
  have a0_0 := (cell_of_arr HA0.out (j := 0) rfl).1
  have a0_1 := (cell_of_arr HA0.out (j := 1) rfl).1
  have a0_2 := (cell_of_arr HA0.out (j := 2) rfl).1
  have a0_3 := (cell_of_arr HA0.out (j := 3) rfl).1
  have a0_4 := (cell_of_arr HA0.out (j := 4) rfl).1
  have a0_5 := (cell_of_arr HA0.out (j := 5) rfl).1
  have a0_6 := (cell_of_arr HA0.out (j := 6) rfl).1
  have a0_7 := (cell_of_arr HA0.out (j := 7) rfl).1
  have a0_8 := (cell_of_arr HA0.out (j := 8) rfl).1
  have hzHW0 := blk_lt HW0.out
  have hw0_0 := (cell_of_arr HW0.out (j := 0) rfl).1
  have hw0_1 := (cell_of_arr HW0.out (j := 1) rfl).1
  have hw0_2 := (cell_of_arr HW0.out (j := 2) rfl).1
  have hw0_3 := (cell_of_arr HW0.out (j := 3) rfl).1
  have hw0_4 := (cell_of_arr HW0.out (j := 4) rfl).1
  have hw0_5 := (cell_of_arr HW0.out (j := 5) rfl).1
  have hw0_6 := (cell_of_arr HW0.out (j := 6) rfl).1
  have hw0_7 := (cell_of_arr HW0.out (j := 7) rfl).1
  have hw0_8 := (cell_of_arr HW0.out (j := 8) rfl).1
  have hzHG0 := blk_lt HG0.out
  have hg0_0 := (cell_of_arr HG0.out (j := 0) rfl).1
  have hg0_1 := (cell_of_arr HG0.out (j := 1) rfl).1
  have hg0_2 := (cell_of_arr HG0.out (j := 2) rfl).1
  have hg0_3 := (cell_of_arr HG0.out (j := 3) rfl).1
  have hg0_4 := (cell_of_arr HG0.out (j := 4) rfl).1
  have hg0_5 := (cell_of_arr HG0.out (j := 5) rfl).1
  have hg0_6 := (cell_of_arr HG0.out (j := 6) rfl).1
  have hg0_7 := (cell_of_arr HG0.out (j := 7) rfl).1
  have hg0_8 := (cell_of_arr HG0.out (j := 8) rfl).1
  rw [HR.out] at o14
  rw [HR.out]
  obtain ⟨ao_14, cp_14, rfl, p14⟩ := OwnBx.view o14
  clear p14
  unfold lfW
  unfold OwnBx at o14
  have O14 := Lib.hid o14
  clear o14
  clear O13
  go_wp2_with fail
  refine (eqLf_same _ _ RZ _ (lf_own HGD.out (own_below O14.out (one_alloc _))) (lf_own HGD.out (own_below O3.out (one_alloc _)))).mono ?_
  rintro e w15 ⟨rfl, g15⟩
  clear hza0 a0_0 a0_1 a0_2 a0_3 a0_4 a0_5 a0_6 a0_7 a0_8 hzHW0 hw0_0 hw0_1 hw0_2 hw0_3 hw0_4 hw0_5 hw0_6 hw0_7 hw0_8 hzHG0 hg0_0 hg0_1 hg0_2 hg0_3 hg0_4 hg0_5 hg0_6 hg0_7 hg0_8
  have HH0 := Lib.hid ((g15.block _ (by simp)).trans (World.alloc_heap_new w14 (.cells #[.string RZ.id, .string RZ.fl, .int .i64 RZ.nu, .string RZ.ve.1, .int .i64 RZ.ve.2.1, .int .i64 RZ.ve.2.2, .int .i64 RZ.wd, .int .i64 RZ.ln, .slice ao_14 RZ.df.length cp_14] 33)))
  replace g15 := bseq (one_alloc _) g15
  replace HA0 := Lib.hid ((g15.block _ (blk_lt HA0.out)).trans HA0.out)
  replace HW0 := Lib.hid ((g15.block _ (blk_lt HW0.out)).trans HW0.out)
  replace HG0 := Lib.hid ((g15.block _ (blk_lt HG0.out)).trans HG0.out)
  replace O3 := Lib.hid (own_below O3.out g15)
  replace O5 := Lib.hid (own_below O5.out g15)
  replace O14 := Lib.hid (own_below O14.out g15)
  replace HW := Lib.hid (bseq HW.out g15)
  clear g15
  have hza0 := blk_lt HA0.out
  have a0_0 := (cell_of_arr HA0.out (j := 0) rfl).1
  have a0_1 := (cell_of_arr HA0.out (j := 1) rfl).1
  have a0_2 := (cell_of_arr HA0.out (j := 2) rfl).1
  have a0_3 := (cell_of_arr HA0.out (j := 3) rfl).1
  have a0_4 := (cell_of_arr HA0.out (j := 4) rfl).1
  have a0_5 := (cell_of_arr HA0.out (j := 5) rfl).1
  have a0_6 := (cell_of_arr HA0.out (j := 6) rfl).1
  have a0_7 := (cell_of_arr HA0.out (j := 7) rfl).1
  have a0_8 := (cell_of_arr HA0.out (j := 8) rfl).1
  have hzHW0 := blk_lt HW0.out
  have hw0_0 := (cell_of_arr HW0.out (j := 0) rfl).1
  have hw0_1 := (cell_of_arr HW0.out (j := 1) rfl).1
  have hw0_2 := (cell_of_arr HW0.out (j := 2) rfl).1
  have hw0_3 := (cell_of_arr HW0.out (j := 3) rfl).1
  have hw0_4 := (cell_of_arr HW0.out (j := 4) rfl).1
  have hw0_5 := (cell_of_arr HW0.out (j := 5) rfl).1
  have hw0_6 := (cell_of_arr HW0.out (j := 6) rfl).1
  have hw0_7 := (cell_of_arr HW0.out (j := 7) rfl).1
  have hw0_8 := (cell_of_arr HW0.out (j := 8) rfl).1
  have hzHG0 := blk_lt HG0.out
  have hg0_0 := (cell_of_arr HG0.out (j := 0) rfl).1
  have hg0_1 := (cell_of_arr HG0.out (j := 1) rfl).1
  have hg0_2 := (cell_of_arr HG0.out (j := 2) rfl).1
  have hg0_3 := (cell_of_arr HG0.out (j := 3) rfl).1
  have hg0_4 := (cell_of_arr HG0.out (j := 4) rfl).1
  have hg0_5 := (cell_of_arr HG0.out (j := 5) rfl).1
  have hg0_6 := (cell_of_arr HG0.out (j := 6) rfl).1
  have hg0_7 := (cell_of_arr HG0.out (j := 7) rfl).1
  have hg0_8 := (cell_of_arr HG0.out (j := 8) rfl).1
  have hzHH0 := blk_lt HH0.out
  have hh0_0 := (cell_of_arr HH0.out (j := 0) rfl).1
  have hh0_1 := (cell_of_arr HH0.out (j := 1) rfl).1
  have hh0_2 := (cell_of_arr HH0.out (j := 2) rfl).1
  have hh0_3 := (cell_of_arr HH0.out (j := 3) rfl).1
  have hh0_4 := (cell_of_arr HH0.out (j := 4) rfl).1
  have hh0_5 := (cell_of_arr HH0.out (j := 5) rfl).1
  have hh0_6 := (cell_of_arr HH0.out (j := 6) rfl).1
  have hh0_7 := (cell_of_arr HH0.out (j := 7) rfl).1
  have hh0_8 := (cell_of_arr HH0.out (j := 8) rfl).1
  go_wp2_with fail
  refine (heldLf_own _ RZ _ _ _ HGD.out O5.out).mono ?_
  rintro e w16 ⟨rfl, g16⟩
  clear hza0 a0_0 a0_1 a0_2 a0_3 a0_4 a0_5 a0_6 a0_7 a0_8 hzHW0 hw0_0 hw0_1 hw0_2 hw0_3 hw0_4 hw0_5 hw0_6 hw0_7 hw0_8 hzHG0 hg0_0 hg0_1 hg0_2 hg0_3 hg0_4 hg0_5 hg0_6 hg0_7 hg0_8 hzHH0 hh0_0 hh0_1 hh0_2 hh0_3 hh0_4 hh0_5 hh0_6 hh0_7 hh0_8
  replace HA0 := Lib.hid ((g16.block _ (blk_lt HA0.out)).trans HA0.out)
  replace HW0 := Lib.hid ((g16.block _ (blk_lt HW0.out)).trans HW0.out)
  replace HG0 := Lib.hid ((g16.block _ (blk_lt HG0.out)).trans HG0.out)
  replace HH0 := Lib.hid ((g16.block _ (blk_lt HH0.out)).trans HH0.out)
  replace O3 := Lib.hid (own_below O3.out g16)
  replace O5 := Lib.hid (own_below O5.out g16)
  replace O14 := Lib.hid (own_below O14.out g16)
  replace HW := Lib.hid (bseq HW.out g16)
  clear g16
  have hza0 := blk_lt HA0.out
  have a0_0 := (cell_of_arr HA0.out (j := 0) rfl).1
  have a0_1 := (cell_of_arr HA0.out (j := 1) rfl).1
  have a0_2 := (cell_of_arr HA0.out (j := 2) rfl).1
  have a0_3 := (cell_of_arr HA0.out (j := 3) rfl).1
  have a0_4 := (cell_of_arr HA0.out (j := 4) rfl).1
  have a0_5 := (cell_of_arr HA0.out (j := 5) rfl).1
  have a0_6 := (cell_of_arr HA0.out (j := 6) rfl).1
  have a0_7 := (cell_of_arr HA0.out (j := 7) rfl).1
  have a0_8 := (cell_of_arr HA0.out (j := 8) rfl).1
  have hzHW0 := blk_lt HW0.out
  have hw0_0 := (cell_of_arr HW0.out (j := 0) rfl).1
  have hw0_1 := (cell_of_arr HW0.out (j := 1) rfl).1
  have hw0_2 := (cell_of_arr HW0.out (j := 2) rfl).1
  have hw0_3 := (cell_of_arr HW0.out (j := 3) rfl).1
  have hw0_4 := (cell_of_arr HW0.out (j := 4) rfl).1
  have hw0_5 := (cell_of_arr HW0.out (j := 5) rfl).1
  have hw0_6 := (cell_of_arr HW0.out (j := 6) rfl).1
  have hw0_7 := (cell_of_arr HW0.out (j := 7) rfl).1
  have hw0_8 := (cell_of_arr HW0.out (j := 8) rfl).1
  have hzHG0 := blk_lt HG0.out
  have hg0_0 := (cell_of_arr HG0.out (j := 0) rfl).1
  have hg0_1 := (cell_of_arr HG0.out (j := 1) rfl).1
  have hg0_2 := (cell_of_arr HG0.out (j := 2) rfl).1
  have hg0_3 := (cell_of_arr HG0.out (j := 3) rfl).1
  have hg0_4 := (cell_of_arr HG0.out (j := 4) rfl).1
  have hg0_5 := (cell_of_arr HG0.out (j := 5) rfl).1
  have hg0_6 := (cell_of_arr HG0.out (j := 6) rfl).1
  have hg0_7 := (cell_of_arr HG0.out (j := 7) rfl).1
  have hg0_8 := (cell_of_arr HG0.out (j := 8) rfl).1
  have hzHH0 := blk_lt HH0.out
  have hh0_0 := (cell_of_arr HH0.out (j := 0) rfl).1
  have hh0_1 := (cell_of_arr HH0.out (j := 1) rfl).1
  have hh0_2 := (cell_of_arr HH0.out (j := 2) rfl).1
  have hh0_3 := (cell_of_arr HH0.out (j := 3) rfl).1
  have hh0_4 := (cell_of_arr HH0.out (j := 4) rfl).1
  have hh0_5 := (cell_of_arr HH0.out (j := 5) rfl).1
  have hh0_6 := (cell_of_arr HH0.out (j := 6) rfl).1
  have hh0_7 := (cell_of_arr HH0.out (j := 7) rfl).1
  have hh0_8 := (cell_of_arr HH0.out (j := 8) rfl).1
  go_wp2
  go_ret
  exact ⟨rfl, HW.out⟩
set_option maxRecDepth 100000 in
set_option maxHeartbeats 4000000 in
theorem walk (v0 : Value) (z0 : Lf) (w : World) (ht : TabAt w) (hv0 : LfL w v0 z0) :
    Calls Tryd.prog 4 #[v0] w fun e w' => e = .returned (.bool true) ∧ Below w.heap.size w w' := by
  by_cases hz0 : (LfSz z0) ≤ 1048576
  rotate_left
  · have HT := Lib.hid ht
    clear ht
    have HV0 := Lib.hid hv0
    obtain ⟨ao6_0, n6_0, c6_0, rfl, _, _, _, _, _, _, _, _⟩ := hv0.out
    clear hv0
    go_enter Tryd.func4, Tryd.ntmps4
    have HW := Lib.hid (show Below w.heap.size w (w.alloc (.cells #[.string z0.id, .string z0.fl, .int .i64 z0.nu, .string z0.ve.1, .int .i64 z0.ve.2.1, .int .i64 z0.ve.2.2, .int .i64 z0.wd, .int .i64 z0.ln, .slice ao6_0 n6_0 c6_0] 26)) from one_alloc _)
    have ha := World.alloc_heap_new w (.cells #[.string z0.id, .string z0.fl, .int .i64 z0.nu, .string z0.ve.1, .int .i64 z0.ve.2.1, .int .i64 z0.ve.2.2, .int .i64 z0.wd, .int .i64 z0.ln, .slice ao6_0 n6_0 c6_0] 26)
    have HA0 := Lib.hid ha
    clear ha
    have HL0 := Lib.hid (lft_no (l := (1048576 : Int)) (n := (LfSz z0)) (by omega))
    go_wp2_with fail
    refine (szLf_any _ z0 ((1048576 : Int)) _ (by omega) (by omega) (HV0.out.below HW.out)).mono ?_
    rintro e w1 ⟨rfl, g1⟩
    replace HA0 := Lib.hid ((g1.block _ (blk_lt HA0.out)).trans HA0.out)
    replace HW := Lib.hid (bseq HW.out g1)
    clear g1
    have hza0 := blk_lt HA0.out
    have a0_0 := (cell_of_arr HA0.out (j := 0) rfl).1
    have a0_1 := (cell_of_arr HA0.out (j := 1) rfl).1
    have a0_2 := (cell_of_arr HA0.out (j := 2) rfl).1
    have a0_3 := (cell_of_arr HA0.out (j := 3) rfl).1
    have a0_4 := (cell_of_arr HA0.out (j := 4) rfl).1
    have a0_5 := (cell_of_arr HA0.out (j := 5) rfl).1
    have a0_6 := (cell_of_arr HA0.out (j := 6) rfl).1
    have a0_7 := (cell_of_arr HA0.out (j := 7) rfl).1
    have a0_8 := (cell_of_arr HA0.out (j := 8) rfl).1
    rw [HL0.out]
    go_wp2
    go_ret
    exact ⟨rfl, HW.out⟩
  exact walk_in v0 z0 w ht (by omega) hv0

set_option maxRecDepth 100000 in
theorem contract (H : Type) (enc : TypeId × Value → H) (W : World) (base : Nat) (args : Array Value) (ds gs : List (DataW H)) (before : List MemPlace)
    (hval : ∀ (j : Nat) t v, Tryd.f4.params[j]? = some t → args[j]? = some v → Value.okWide Tryd.prog W .any base t v)
    (hW : DataW.Whole enc Tryd.prog Tryd.f4.params.toList Rows.fnExactMirrorLeafSpec.vars false W args.toList ds gs before) (hL : laidMetH Tryd.prog Rows.fnExactMirrorLeafRow.laid W) (hsh : W.ShapedOpen Tryd.prog) :
    Calls Tryd.prog 4 args W fun e W' => ∃ v, e = .returned v ∧ Rows.fnExactMirrorLeafSpec.post enc Tryd.prog Tryd.f4 false true false false W args v W' := by
  have hW' := hW
  obtain ⟨p, q, hA0, hV, rfl, hfz, hnd⟩ := hW
  have hV' : DataW.TrodVars enc Tryd.prog W (fun _ => true) ["loop.example/g00956/impl.speciesTable"] gs q := hV
  have hA : DataW.TrodAll enc Tryd.prog W 0 (fun _ => true) true Tryd.f4.params.toList args.toList ds p := hA0
  rw [Tryd.params4] at hA hval
  obtain ⟨v0, vs0, d0, ds0, p0, q0, hargs, rfl, rfl, h0, r0⟩ := trodAll_cons hA
  obtain ⟨rfl, rfl, rfl⟩ := trodAll_nil r0
  obtain rfl : args = #[v0] := by cases args; simp_all
  clear hA0
  have ht : TabAt W := by
    have hL1 := hL
    rw [MakeChecks.laidMetH_plain _ _ _ (by kernel_rfl)] at hL1
    exact tabAt_of hL1 (by unfold Rows.fnExactMirrorLeafRow; simp)
  obtain ⟨gg, hgs⟩ : ∃ gg, gs = [gg] := by
    obtain ⟨_, _, _, _, d, _, hh, _⟩ := trodVars_one hV'
    exact ⟨d, hh⟩
  subst hgs
  have l0 : ∀ x ∈ p0, x.block < W.heap.size := fun x hx => hW'.lt x (by simp [hx])
  have e0 := hval 0 26 v0 rfl rfl
  obtain ⟨z0, lv0⟩ := open_Lf e0 h0
  have hc := walk v0 z0 W ht  lv0
  refine hc.mono fun e W' ⟨he, hg⟩ => ?_
  subst he
  exact ⟨_, rfl, post_below (pa := (p0 ++ [])) (pv := q) hW' (fun _ _ _ => (trodAll_cons_mk (shut_bool Tryd.underlying4 _) trodAll_mk0)) (fun sp hsp => (trodAll_cons_mk (trod_again (by decide) h0 l0 hg sp (fun x hx => hsp x (by simp [hx]))) trodAll_mk0)) (fun sp hsp => species_stay hg hV' (fun x hx => hsp x (by first | exact hx | simp [hx]))) (by simp)
    hg (ok_one (by kernel_rfl) rfl (okWide_bool_mk Tryd.underlying4 _))⟩

set_option maxRecDepth 100000 in
theorem lifted (os : Os) (started : os.Started) (H : Type) (enc : TypeId × Value → H) (F : Stop.Interp) :
    ReturnsInHanded {} Tryd.checked os 4 .any ((OpenSpec.ofChange Rows.fnExactMirrorLeafSpec).preRow enc Tryd.prog Tryd.f4 Rows.fnExactMirrorLeafRow.domain false Rows.fnExactMirrorLeafRow.laid) (((OpenSpec.ofChange Rows.fnExactMirrorLeafSpec).at F).post enc Tryd.prog Tryd.f4 false true false false) := by
  refine returnsInHanded_of_row (C := Tryd.checked) (s := OpenSpec.ofChange Rows.fnExactMirrorLeafSpec) own started (by kernel_rfl) Tryd.func4
    (ChangeSpec.witness_shaped (enc := enc) (C := Tryd.checked) (os := os) (X := fun w _ => laidMetH Tryd.prog Rows.fnExactMirrorLeafRow.laid w) false (World.laidAll Tryd.prog os Rows.fnExactMirrorLeafRow.laid) #[.agg #[.string ByteArray.empty, .string ByteArray.empty, .int .i64 0, .string ByteArray.empty, .int .i64 0, .int .i64 0, .int .i64 0, .int .i64 0, .slice none 0 0]] 8 (World.laidAll_os _ _ _)
      (World.shaped_of_ZipB (by kernel_rfl) (by kernel_rfl)) (by kernel_rfl) (by kernel_rfl) (by kernel_rfl)
      (by rw [MakeChecks.laidMetH_plain _ _ _ (by kernel_rfl)]; exact laidMet_laidAll _ (by kernel_rfl) (by kernel_rfl))) ?_
  intro W base args ds gs before hval hW _ _ _ hL hsh _
  exact contract H enc W base args ds gs before hval hW hL hsh

theorem said : Rows.FnExactMirrorLeafSaid :=
  OpenClaim.holds_of_cond 4 Tryd.f4 rfl rfl rfl rfl rfl rfl rfl ⟨rfl, rfl, rfl, rfl, rfl⟩ rfl rfl rfl rfl rfl (by kernel_rfl) Tryd.func4 (by kernel_rfl)
    (of_decide_eq_true (by kernel_rfl)) (by unfold Func.isWrapper; first | (rw [if_pos (by decide +kernel)]; kernel_rfl) | (rw [if_neg (by decide +kernel)]; exact ⟨rfl, rfl⟩))
    (fun os started H enc _ F => by rw [OpenClaim.pre_eq_preRow]; exact lifted os started H enc F)

theorem plain (f : FuncId) (fn : Func) (hf : Tryd.pinned.checked.prog.funcNamed Rows.fnExactMirrorLeafRow.func = some f) (hfn : Tryd.pinned.checked.prog.funcs[f]? = some fn) :
    Rows.fnExactMirrorLeafCard.stood.looks = Tryd.pinned.checked.prog.looks [] ∧ ∀ (j : Nat) t, fn.params[j]? = some t → Tryd.pinned.checked.prog.wantsStandIn t = false := by
  obtain rfl : f = 4 := Option.some.inj ((show Tryd.prog.funcNamed Rows.fnExactMirrorLeafRow.func = some 4 by kernel_rfl).symm.trans hf) |>.symm
  obtain rfl : fn = Tryd.f4 := (Option.some.inj (Tryd.func4.symm.trans hfn)).symm
  refine ⟨by kernel_rfl, fun j t ht => ?_⟩
  rw [Tryd.params4] at ht
  have hm : t ∈ [26] := by simpa using Array.mem_of_getElem? ht
  have hall : ([26].all fun u => !Tryd.prog.wantsStandIn u) = true := by kernel_rfl
  exact (show Tryd.prog.wantsStandIn t = false by simpa using List.all_eq_true.1 hall t hm)

theorem card : Rows.FnExactMirrorLeafCardSaid :=
  Claim7.holds_tied_plain_at .later [] _ _ _ _ said (fun _ h => by cases h) (by kernel_rfl) (fun _ h => by cases h) fnExactMirrorLeaf_row_tie rfl ⟨rfl, rfl⟩ (by kernel_rfl) rfl plain (by kernel_rfl)
#print axioms card
end Go.Proofs.YtcjpplijbdfgbaaDoor.fnExactMirrorLeaf
