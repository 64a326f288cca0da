/- FnExactUnusedPoints returns true at every drawing, and leaves them as they were. Condition: none. -/
import Derived.Test.YtfhlafnjccoocaaGreatRows
import Derived.Test.YtfhlafnjccoocaaGreatDrw6
import Derived.Test.YtfhlafnjccoocaaGreatUnu2
import Derived.Test.YtfhlafnjccoocaaGreatSeq3
import Derived.Test.YtfhlafnjccoocaaGreatK5
import Derived.Test.YtfhlafnjccoocaaGreatPost
import Derived.Test.YtfhlafnjccoocaaGreatJoin
import Derived.WalkKit
import Derived.ProofKit
import Derived.OpenShut
import Derived.ChangeMaps5
namespace Go.Proofs.YtfhlafnjccoocaaGreat.fnExactUnusedPoints
open Go.ChangeShapes Go.WideShapes Go.ChangeAt Go.RowKit Go.ChangeMaps
set_option linter.unusedVariables false

theorem own : ownKnob Tryz.prog.godebug = none := by kernel_rfl

set_option maxRecDepth 100000 in
set_option maxHeartbeats 8000000 in
theorem walk_in (v0 : Value) (D0 : Drw) (w : World) (hsum : dSz D0 ≤ 1048576) (hv0 : DL w v0 D0) :
    Calls Tryz.prog 3 #[v0] w fun e w' => e = .returned (.bool true) ∧ Below w.heap.size w w' := by
  have HS0 := Lib.hid (show dSz D0 ≤ 1048576 by omega)
  have HV0 := Lib.hid hv0
  obtain ⟨ao0, n0, c0, bo0, m0, d0, rfl, _, _, _, _, _, _⟩ := hv0.out
  clear hv0
  go_enter Tryz.func3, Tryz.ntmps3
  have HW := Lib.hid (show Below w.heap.size w (w.alloc (.cells #[.int .i64 D0.wd, .int .i64 D0.hg, .slice ao0 n0 c0, .slice bo0 m0 d0] 25)) from one_alloc _)
  have ha := World.alloc_heap_new w (.cells #[.int .i64 D0.wd, .int .i64 D0.hg, .slice ao0 n0 c0, .slice bo0 m0 d0] 25)
  have HA0 := Lib.hid ha
  clear ha
  have HLEN : (unuR D0).1.length ≤ 1000 := unuR_len D0
  have HL0 := Lib.hid (lft_ok (l := (1048576 : Int)) (n := dSz D0) (by omega))
  have hd0 : decide ((1048576 : Int) - (dSz D0 : Int) < 0) = false := by simp; omega
  go_wp2_with fail
  refine (szDr_any _ D0 ((1048576 : Int)) _ (by omega) (by omega) (HV0.out.below HW.out)).mono ?_
  rintro e w1 ⟨rfl, g1⟩
  replace HA0 := Lib.hid ((g1.block _ (blk_lt HA0.out)).trans HA0.out)
  replace HW := Lib.hid (bseq HW.out g1)
  clear g1
  have hza0 := blk_lt HA0.out
  have a0_0 := (cell_of_arr HA0.out (j := 0) rfl).1
  have a0_1 := (cell_of_arr HA0.out (j := 1) rfl).1
  have a0_2 := (cell_of_arr HA0.out (j := 2) rfl).1
  have a0_3 := (cell_of_arr HA0.out (j := 3) rfl).1
  rw [HL0.out]
  go_wp2_with fail
  refine (toDr_own _ D0 _ HS0.out (HV0.out.below HW.out)).mono ?_
  rintro e w2 ⟨v2, rfl, o2, g2⟩
  clear hza0 a0_0 a0_1 a0_2 a0_3
  replace HA0 := Lib.hid ((g2.block _ (blk_lt HA0.out)).trans HA0.out)
  replace HW := Lib.hid (bseq HW.out g2)
  clear g2
  have hza0 := blk_lt HA0.out
  have a0_0 := (cell_of_arr HA0.out (j := 0) rfl).1
  have a0_1 := (cell_of_arr HA0.out (j := 1) rfl).1
  have a0_2 := (cell_of_arr HA0.out (j := 2) rfl).1
  have a0_3 := (cell_of_arr HA0.out (j := 3) rfl).1
  have O2 := Lib.hid o2
  clear o2
  go_wp2_with fail
  refine (unu_spec _ D0 _ (DO.view O2.out)).mono ?_
  rintro e w3 ⟨v3, rfl, o3, g3⟩
  clear hza0 a0_0 a0_1 a0_2 a0_3
  replace HA0 := Lib.hid ((g3.block _ (blk_lt HA0.out)).trans HA0.out)
  replace O2 := Lib.hid (O2.out.below g3)
  replace HW := Lib.hid (bseq HW.out g3)
  clear g3
  have hza0 := blk_lt HA0.out
  have a0_0 := (cell_of_arr HA0.out (j := 0) rfl).1
  have a0_1 := (cell_of_arr HA0.out (j := 1) rfl).1
  have a0_2 := (cell_of_arr HA0.out (j := 2) rfl).1
  have a0_3 := (cell_of_arr HA0.out (j := 3) rfl).1
  obtain ⟨ao_3, cp_3, rfl, p3⟩ := own_sliceI o3
  clear p3
  have O3 := Lib.hid o3
  clear o3
  clear O2
  have HLO0 := Lib.hid HW.out.size
  have HZL0_0 := Lib.hid (blk_lt HA0.out)
  have LT0_O3 := Lib.hid (fun k hk => (World.ownsRow.lt O3.out k hk).2)
  go_wp2_with fail
  refine (toDr_own _ D0 _ HS0.out (HV0.out.below HW.out)).mono ?_
  rintro e w4 ⟨v4, rfl, o4, g4⟩
  clear hza0 a0_0 a0_1 a0_2 a0_3
  replace HA0 := Lib.hid ((g4.block _ (blk_lt HA0.out)).trans HA0.out)
  replace O3 := Lib.hid (own_below O3.out g4)
  replace HW := Lib.hid (bseq HW.out g4)
  clear g4
  have hza0 := blk_lt HA0.out
  have a0_0 := (cell_of_arr HA0.out (j := 0) rfl).1
  have a0_1 := (cell_of_arr HA0.out (j := 1) rfl).1
  have a0_2 := (cell_of_arr HA0.out (j := 2) rfl).1
  have a0_3 := (cell_of_arr HA0.out (j := 3) rfl).1
  have O4 := Lib.hid o4
  clear o4
  obtain ⟨p4, b4, rfl, _, _, _, _, _⟩ := O4.out.out
  have DX4 := Lib.hid (DX.of O4.out)
  have HN := Lib.hid (show w.heap.size + 1 ≤ w4.heap.size by have := blk_lt HA0.out; omega)
  have NEo := Lib.hid (fun (u : Value) (b2 m2 e2 s2 : Nat) (ys : List Value) (w2 : World) (hb : w4.heap.size ≤ b2) (h2 : w2.ownsRow b2 e2 s2 u m2 ys) => ne_block O3.out hb h2)
  go_wp2_with fail
  refine (unu_impl _ D0 _ (DO.view (O4.out.below (one_alloc _)))).mono ?_
  rintro e w5 ⟨v5, rfl, o5, g5⟩
  clear hza0 a0_0 a0_1 a0_2 a0_3
  have HX0 := Lib.hid ((g5.block _ (by simp)).trans (World.alloc_heap_new w4 (.cells #[.int .i64 D0.wd, .int .i64 D0.hg, .slice (some ⟨p4, 0, none⟩) D0.ps.length D0.ps.length, .slice (some ⟨b4, 0, none⟩) D0.fs.length D0.fs.length] 33)))
  replace g5 := bseq (one_alloc _) g5
  replace HA0 := Lib.hid ((g5.block _ (blk_lt HA0.out)).trans HA0.out)
  replace O3 := Lib.hid (own_below O3.out g5)
  replace O4 := Lib.hid (O4.out.below g5)
  replace DX4 := Lib.hid (DX4.out.below g5)
  replace HW := Lib.hid (bseq HW.out g5)
  clear g5
  have hza0 := blk_lt HA0.out
  have a0_0 := (cell_of_arr HA0.out (j := 0) rfl).1
  have a0_1 := (cell_of_arr HA0.out (j := 1) rfl).1
  have a0_2 := (cell_of_arr HA0.out (j := 2) rfl).1
  have a0_3 := (cell_of_arr HA0.out (j := 3) rfl).1
  have hzHX0 := blk_lt HX0.out
  have hx0_0 := (cell_of_arr HX0.out (j := 0) rfl).1
  have hx0_1 := (cell_of_arr HX0.out (j := 1) rfl).1
  have hx0_2 := (cell_of_arr HX0.out (j := 2) rfl).1
  have hx0_3 := (cell_of_arr HX0.out (j := 3) rfl).1
  obtain ⟨ao_5, cp_5, rfl, p5⟩ := own_sliceI o5
  clear p5
  have O5 := Lib.hid o5
  clear o5
  have NE := Lib.hid (NEo.out _ _ _ _ _ _ _ (by simp) O5.out)
  clear NEo
  go_wp2_with fail
  refine (eqI_same _ _ (unuR D0).1.length _ _ (unuR D0).1 _ (by omega) (own_pvI rfl O5.out) (own_pvI rfl O3.out)).mono ?_
  rintro e w6 ⟨rfl, g6⟩
  clear hza0 a0_0 a0_1 a0_2 a0_3 hzHX0 hx0_0 hx0_1 hx0_2 hx0_3
  replace HA0 := Lib.hid ((g6.block _ (blk_lt HA0.out)).trans HA0.out)
  replace HX0 := Lib.hid ((g6.block _ (blk_lt HX0.out)).trans HX0.out)
  replace O3 := Lib.hid (own_below O3.out g6)
  replace O4 := Lib.hid (O4.out.below g6)
  replace DX4 := Lib.hid (DX4.out.below g6)
  replace O5 := Lib.hid (own_below O5.out g6)
  replace HW := Lib.hid (bseq HW.out g6)
  clear g6
  have hza0 := blk_lt HA0.out
  have a0_0 := (cell_of_arr HA0.out (j := 0) rfl).1
  have a0_1 := (cell_of_arr HA0.out (j := 1) rfl).1
  have a0_2 := (cell_of_arr HA0.out (j := 2) rfl).1
  have a0_3 := (cell_of_arr HA0.out (j := 3) rfl).1
  have hzHX0 := blk_lt HX0.out
  have hx0_0 := (cell_of_arr HX0.out (j := 0) rfl).1
  have hx0_1 := (cell_of_arr HX0.out (j := 1) rfl).1
  have hx0_2 := (cell_of_arr HX0.out (j := 2) rfl).1
  have hx0_3 := (cell_of_arr HX0.out (j := 3) rfl).1
  go_wp2
  refine Seq3.wp_region w6 [0, 1] [(2, []), (3, [4])] (by kernel_rfl) (by kernel_rfl) rfl (Below.refl _ _) (fun w1 hh hb1 => ?_)
  repeat (first | (refine Seq2.fl_row (by decide) ?_) | (refine Seq2.fl_skip (by kernel_rfl) (by kernel_rfl) ?_ ?_; (focus (go_simp; (first | done | (simp [undef]; done)))); (try simp only [Act.put, List.setIfInBounds_toArray, List.set_cons_zero, List.set_cons_succ])) | (refine Seq2.fl_val (by kernel_rfl) (by kernel_rfl) ?_ ?_; (focus (go_simp; done)); apply Exists.intro; refine ⟨fun w2 hw2 => ?_, ?_⟩; (focus (obtain ⟨hc, hf⟩ := bcell hw2; clear hw2; go_simp; (first | done | with_reducible rfl | (with_reducible exact eql2 _ _ _) | (with_reducible exact neq2 _ _ _)))); (try simp only [Act.put, List.setIfInBounds_toArray, List.set_cons_zero, List.set_cons_succ])))
  refine Seq2.fl_nil ?_
  refine Seq3.c3_one (by kernel_rfl) rfl ?_
  gi_wp2_with fail
  refine ⟨trivial, rfl, (callsIn_wide.2 (toDr_own _ D0 _ HS0.out (HV0.out.below (HW.out.trans (hb1.mono HW.out.size))))).mono ?_⟩
  rintro e w7 ⟨v7, rfl, o7, g7⟩
  have HB7 := Lib.hid (hb1.trans (g7.mono hb1.size))
  clear g7
  have O7 := Lib.hid o7
  clear o7
  clear hh
  gi_wp2
  refine ⟨HB7.out, ?_⟩
  refine Seq3.c3_one (by kernel_rfl) rfl ?_
  gi_wp2_with fail
  refine ⟨trivial, rfl, (callsIn_wide.2 (eqDr_same _ _ D0 _ (DO.view (O4.out.below HB7.out)) (DO.view O7.out))).mono ?_⟩
  rintro e w8 ⟨rfl, g8⟩
  have HB8 := Lib.hid (HB7.out.trans (g8.mono HB7.out.size))
  replace O7 := Lib.hid (O7.out.below g8)
  clear g8
  gi_wp2
  refine ⟨HB8.out, ?_⟩
  refine Seq3.mid 4 ?_
  simp only [List.drop_succ_cons, List.drop_zero]
  repeat (first | (refine Seq2.fl_row (by decide) ?_) | (refine Seq2.fl_skip (by kernel_rfl) (by kernel_rfl) ?_ ?_; (focus (go_simp; (first | done | (simp [undef]; done)))); (try simp only [Act.put, List.setIfInBounds_toArray, List.set_cons_zero, List.set_cons_succ])) | (refine Seq2.fl_val (by kernel_rfl) (by kernel_rfl) ?_ ?_; (focus (go_simp; done)); apply Exists.intro; refine ⟨fun w2 hw2 => ?_, ?_⟩; (focus (obtain ⟨hc, hf⟩ := bcell hw2; clear hw2; go_simp; (first | done | with_reducible rfl | (with_reducible exact eql2 _ _ _) | (with_reducible exact neq2 _ _ _)))); (try simp only [Act.put, List.setIfInBounds_toArray, List.set_cons_zero, List.set_cons_succ])))
  refine Seq2.fl_nil ?_
  refine Seq3.c3_nil (by kernel_rfl) ?_
  clear hb1
  have g0 := HB8.out
  clear hza0 a0_0 a0_1 a0_2 a0_3 hzHX0 hx0_0 hx0_1 hx0_2 hx0_3
  replace HA0 := Lib.hid ((g0.block _ (blk_lt HA0.out)).trans HA0.out)
  replace HX0 := Lib.hid ((g0.block _ (blk_lt HX0.out)).trans HX0.out)
  replace O3 := Lib.hid (own_below O3.out g0)
  replace O4 := Lib.hid (O4.out.below g0)
  replace DX4 := Lib.hid (DX4.out.below g0)
  replace O5 := Lib.hid (own_below O5.out g0)
  replace HW := Lib.hid (bseq HW.out g0)
  clear g0
  have hza0 := blk_lt HA0.out
  have a0_0 := (cell_of_arr HA0.out (j := 0) rfl).1
  have a0_1 := (cell_of_arr HA0.out (j := 1) rfl).1
  have a0_2 := (cell_of_arr HA0.out (j := 2) rfl).1
  have a0_3 := (cell_of_arr HA0.out (j := 3) rfl).1
  have hzHX0 := blk_lt HX0.out
  have hx0_0 := (cell_of_arr HX0.out (j := 0) rfl).1
  have hx0_1 := (cell_of_arr HX0.out (j := 1) rfl).1
  have hx0_2 := (cell_of_arr HX0.out (j := 2) rfl).1
  have hx0_3 := (cell_of_arr HX0.out (j := 3) rfl).1
  clear O7
  go_wp2_with fail
  refine (markDr_any _ _ _ D0 _ DX4.out).mono ?_
  rintro e w9 ⟨k9, rfl, hk9, g9⟩
  clear hza0 a0_0 a0_1 a0_2 a0_3 hzHX0 hx0_0 hx0_1 hx0_2 hx0_3
  replace HA0 := Lib.hid ((g9.block _ (blk_lt HA0.out) (by have := HZL0_0.out; omega)).trans HA0.out)
  replace HW := Lib.hid (g9.below HW.out HLO0.out)
  replace O3 := Lib.hid (g9.own O3.out (fun k hk => by have := LT0_O3.out k hk; omega))
  replace O5 := Lib.hid (g9.own O5.out (fun k hk => by have := (World.ownsRow.lt O5.out k hk).1; (try simp at this); omega))
  clear g9 DX4 O4 HX0
  have hza0 := blk_lt HA0.out
  have a0_0 := (cell_of_arr HA0.out (j := 0) rfl).1
  have a0_1 := (cell_of_arr HA0.out (j := 1) rfl).1
  have a0_2 := (cell_of_arr HA0.out (j := 2) rfl).1
  have a0_3 := (cell_of_arr HA0.out (j := 3) rfl).1
  have hkk0 : decide ((k9 : Int) < 0) = false := by simp
  go_wp2_with fail
  refine (eqI_same _ _ (unuR D0).1.length _ _ (unuR D0).1 _ (by omega) (own_pvI rfl O5.out) (own_pvI rfl O3.out)).mono ?_
  rintro e w10 ⟨rfl, g10⟩
  clear hza0 a0_0 a0_1 a0_2 a0_3
  replace HA0 := Lib.hid ((g10.block _ (blk_lt HA0.out)).trans HA0.out)
  replace O3 := Lib.hid (own_below O3.out g10)
  replace O5 := Lib.hid (own_below O5.out g10)
  replace HW := Lib.hid (bseq HW.out g10)
  clear g10
  have hza0 := blk_lt HA0.out
  have a0_0 := (cell_of_arr HA0.out (j := 0) rfl).1
  have a0_1 := (cell_of_arr HA0.out (j := 1) rfl).1
  have a0_2 := (cell_of_arr HA0.out (j := 2) rfl).1
  have a0_3 := (cell_of_arr HA0.out (j := 3) rfl).1
  go_wp2_with fail
  refine (markI_any _ (unuR D0).1.length 1 _ _ _ (by omega) (by omega) (by omega) O5.out).mono ?_
  rintro e w11 ⟨rfl, g11, o11⟩
  clear hza0 a0_0 a0_1 a0_2 a0_3
  have gb := own_grown (B := w.heap.size + 1) O5.out g11 (by have := HN.out; simp; omega) (by have := blk_lt HA0.out; omega)
  replace HA0 := Lib.hid ((gb.block _ (by omega)).trans HA0.out)
  replace O3 := Lib.hid (O3.out.kept g11 (ne_symm NE.out))
  replace HW := Lib.hid (HW.out.trans (gb.mono (by omega)))
  replace O5 := Lib.hid o11
  clear gb g11 o11
  have hza0 := blk_lt HA0.out
  have a0_0 := (cell_of_arr HA0.out (j := 0) rfl).1
  have a0_1 := (cell_of_arr HA0.out (j := 1) rfl).1
  have a0_2 := (cell_of_arr HA0.out (j := 2) rfl).1
  have a0_3 := (cell_of_arr HA0.out (j := 3) rfl).1
  have hk1 : decide (((1 : Int) + (((unuR D0).1.length : Nat) : Int)) < 0) = false := by simp; omega
  go_wp2_with fail
  refine (heldI_any _ (unuR D0).1.length 1 _ _ (by omega) (by omega) (by omega) O5.out).mono ?_
  rintro e wh ⟨rfl, hh⟩
  subst hh
  go_wp2_with fail
  refine (toDr_own _ D0 _ HS0.out (HV0.out.below HW.out)).mono ?_
  rintro e w12 ⟨v12, rfl, o12, g12⟩
  clear hza0 a0_0 a0_1 a0_2 a0_3
  replace HA0 := Lib.hid ((g12.block _ (blk_lt HA0.out)).trans HA0.out)
  replace O3 := Lib.hid (own_below O3.out g12)
  replace O5 := Lib.hid (own_below O5.out g12)
  replace HW := Lib.hid (bseq HW.out g12)
  clear g12
  have hza0 := blk_lt HA0.out
  have a0_0 := (cell_of_arr HA0.out (j := 0) rfl).1
  have a0_1 := (cell_of_arr HA0.out (j := 1) rfl).1
  have a0_2 := (cell_of_arr HA0.out (j := 2) rfl).1
  have a0_3 := (cell_of_arr HA0.out (j := 3) rfl).1
  have O12 := Lib.hid o12
  clear o12
  go_wp2_with fail
  refine (unu_impl _ D0 _ (DO.view O12.out)).mono ?_
  rintro e w13 ⟨v13, rfl, o13, g13⟩
  clear hza0 a0_0 a0_1 a0_2 a0_3
  replace HA0 := Lib.hid ((g13.block _ (blk_lt HA0.out)).trans HA0.out)
  replace O3 := Lib.hid (own_below O3.out g13)
  replace O5 := Lib.hid (own_below O5.out g13)
  replace O12 := Lib.hid (O12.out.below g13)
  replace HW := Lib.hid (bseq HW.out g13)
  clear g13
  have hza0 := blk_lt HA0.out
  have a0_0 := (cell_of_arr HA0.out (j := 0) rfl).1
  have a0_1 := (cell_of_arr HA0.out (j := 1) rfl).1
  have a0_2 := (cell_of_arr HA0.out (j := 2) rfl).1
  have a0_3 := (cell_of_arr HA0.out (j := 3) rfl).1
  obtain ⟨ao_13, cp_13, rfl, p13⟩ := own_sliceI o13
  clear p13
  have O13 := Lib.hid o13
  clear o13
  clear O12
  go_wp2_with fail
  refine (eqI_same _ _ (unuR D0).1.length _ _ (unuR D0).1 _ (by omega) (own_pvI rfl O13.out) (own_pvI rfl O3.out)).mono ?_
  rintro e w14 ⟨rfl, g14⟩
  clear hza0 a0_0 a0_1 a0_2 a0_3
  replace HA0 := Lib.hid ((g14.block _ (blk_lt HA0.out)).trans HA0.out)
  replace O3 := Lib.hid (own_below O3.out g14)
  replace O5 := Lib.hid (own_below O5.out g14)
  replace O13 := Lib.hid (own_below O13.out g14)
  replace HW := Lib.hid (bseq HW.out g14)
  clear g14
  have hza0 := blk_lt HA0.out
  have a0_0 := (cell_of_arr HA0.out (j := 0) rfl).1
  have a0_1 := (cell_of_arr HA0.out (j := 1) rfl).1
  have a0_2 := (cell_of_arr HA0.out (j := 2) rfl).1
  have a0_3 := (cell_of_arr HA0.out (j := 3) rfl).1
  go_wp2_with fail
  refine (heldI_any _ (unuR D0).1.length 1 _ _ (by omega) (by omega) (by omega) O5.out).mono ?_
  rintro e wh ⟨rfl, hh⟩
  subst hh
  go_wp2
  go_ret
  exact ⟨rfl, HW.out⟩
set_option maxRecDepth 100000 in
set_option maxHeartbeats 4000000 in
theorem walk (v0 : Value) (D0 : Drw) (w : World) (hv0 : DL w v0 D0) :
    Calls Tryz.prog 3 #[v0] w fun e w' => e = .returned (.bool true) ∧ Below w.heap.size w w' := by
  by_cases hz0 : dSz D0 ≤ 1048576
  rotate_left
  · have HV0 := Lib.hid hv0
    obtain ⟨ao0, n0, c0, bo0, m0, d0, rfl, _, _, _, _, _, _⟩ := hv0.out
    clear hv0
    go_enter Tryz.func3, Tryz.ntmps3
    have HW := Lib.hid (show Below w.heap.size w (w.alloc (.cells #[.int .i64 D0.wd, .int .i64 D0.hg, .slice ao0 n0 c0, .slice bo0 m0 d0] 25)) from one_alloc _)
    have ha := World.alloc_heap_new w (.cells #[.int .i64 D0.wd, .int .i64 D0.hg, .slice ao0 n0 c0, .slice bo0 m0 d0] 25)
    have HA0 := Lib.hid ha
    clear ha
    have HL0 := Lib.hid (lft_no (l := (1048576 : Int)) (n := dSz D0) (by omega))
    go_wp2_with fail
    refine (szDr_any _ D0 ((1048576 : Int)) _ (by omega) (by omega) (HV0.out.below HW.out)).mono ?_
    rintro e w1 ⟨rfl, g1⟩
    replace HA0 := Lib.hid ((g1.block _ (blk_lt HA0.out)).trans HA0.out)
    replace HW := Lib.hid (bseq HW.out g1)
    clear g1
    have hza0 := blk_lt HA0.out
    have a0_0 := (cell_of_arr HA0.out (j := 0) rfl).1
    have a0_1 := (cell_of_arr HA0.out (j := 1) rfl).1
    have a0_2 := (cell_of_arr HA0.out (j := 2) rfl).1
    have a0_3 := (cell_of_arr HA0.out (j := 3) rfl).1
    rw [HL0.out]
    go_wp2
    go_ret
    exact ⟨rfl, HW.out⟩
  exact walk_in v0 D0 w (by omega) hv0

set_option maxRecDepth 100000 in
theorem lifted (os : Os) (started : os.Started) (H : Type) (enc : TypeId × Value → H) :
    ReturnsInHanded {} Tryz.checked os 3 .any (Rows.fnExactUnusedPointsSpec.pre6 enc Tryz.prog Tryz.f3 Rows.fnExactUnusedPointsRow.domain false) (Rows.fnExactUnusedPointsSpec.post enc Tryz.prog Tryz.f3 false true false false) := by
  refine returnsInHanded_of_change (C := Tryz.checked) own started (by kernel_rfl) Tryz.func3
    (ChangeSpec.witness6 (enc := enc) (C := Tryz.checked) false ⟨#[], #[.agg #[.int .i64 0, .int .i64 0, .slice none 0 0, .slice none 0 0]], []⟩ 8 (by kernel_rfl) (by kernel_rfl) (by kernel_rfl) (by kernel_rfl)) ?_
  intro W base args ds gs before hval0 hW hcnd _
  have hval : ∀ (j : Nat) t v, Tryz.f3.params[j]? = some t → args[j]? = some v → Value.okWide Tryz.prog W .any base t v := hval0
  have hW' := hW
  obtain ⟨p, q, hA0, hV, rfl, hfz, hnd⟩ := hW
  have hA : DataW.TrodAll enc Tryz.prog W 0 (fun _ => true) true Tryz.f3.params.toList args.toList ds p := hA0
  rw [Tryz.params3] at hA hval
  obtain ⟨v0, vs0, d0, ds0, p0, q0, hargs, rfl, rfl, h0, r0⟩ := trodAll_cons hA
  obtain ⟨rfl, rfl, rfl⟩ := trodAll_nil r0
  obtain rfl : args = #[v0] := by cases args; simp_all
  obtain ⟨rfl, rfl⟩ := trodVars_none hV
  clear hA0 hval0
  have l0 : ∀ x ∈ p0, x.block < W.heap.size := fun x hx => hW'.lt x (by simp [hx])
  have e0 := hval 0 25 v0 rfl rfl
  obtain ⟨D0, lv0⟩ := open_draw e0 h0
  have hc := walk v0 D0 W lv0
  refine hc.mono fun e W' ⟨he, hg⟩ => ?_
  subst he
  exact ⟨_, rfl, post_below (pa := (p0 ++ [])) (pv := []) hW' (fun _ _ _ => (trodAll_cons_mk (shut_bool Tryz.underlying4 _) trodAll_mk0)) (fun sp hsp => (trodAll_cons_mk (trod_again (by decide) h0 l0 hg sp (fun x hx => hsp x (by simp [hx]))) trodAll_mk0)) (fun _ _ => rfl) (by simp)
    hg (ok_one (by kernel_rfl) rfl (okWide_bool_mk Tryz.underlying4 _))⟩

set_option maxHeartbeats 8000000 in
theorem joined : joinedFacts Tryz.pinned.checked.prog 3 Tryz.f3 Rows.fnExactUnusedPointsSpec Rows.fnExactUnusedPointsRow = true := by
  unfold joinedFacts
  repeat' (with_reducible refine andI ?_ ?_)
  rotate_left 1
  · exact jLaid
  · exact jRowed
  rotate_left 21
  · exact jHeard
  · exact jEnter
  · exact jLifts
  · exact jMake
  all_goals as_aux_lemma => kernel_rfl

theorem over : Rows.fnExactUnusedPointsRow.holds Tryz.pinned (OpenSpec.ofChange Rows.fnExactUnusedPointsSpec) :=
  OpenClaim.holds_of_wide 3 Tryz.f3 rfl rfl rfl rfl rfl rfl rfl ⟨rfl, rfl, rfl, rfl, rfl⟩ rfl rfl rfl rfl rfl (by kernel_rfl) Tryz.func3 joined
    (of_decide_eq_true (by kernel_rfl)) (by unfold Func.isWrapper; first | (rw [if_pos (by decide +kernel)]; kernel_rfl) | (rw [if_neg (by decide +kernel)]; exact ⟨rfl, rfl⟩))
    (fun os started H enc _ => lifted os started H enc)

theorem proved : Rows.FnExactUnusedPointsSaid :=
  over
#print axioms proved
end Go.Proofs.YtfhlafnjccoocaaGreat.fnExactUnusedPoints
