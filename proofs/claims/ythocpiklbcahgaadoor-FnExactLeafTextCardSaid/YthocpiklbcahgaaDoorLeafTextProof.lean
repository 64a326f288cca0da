/- FnExactLeafText returns true at every leaf. Condition: the table of species is as the program text lays it (tied). -/
import Derived.Test.YthocpiklbcahgaaDoorCards
import Derived.Test.YthocpiklbcahgaaDoorTie
import Derived.Test.YthocpiklbcahgaaDoorVenLaid
import Derived.Test.YthocpiklbcahgaaDoorLea10
import Derived.Test.YthocpiklbcahgaaDoorSlLeaf
import Derived.Test.YthocpiklbcahgaaDoorSeq3
import Derived.Test.YthocpiklbcahgaaDoorPost
import Derived.Test.YthocpiklbcahgaaDoorK5
import Derived.WalkKit
import Derived.ProofKit
import Derived.OpenShut
import Derived.ChangeMaps5
import Derived.ChangeVars
import Derived.Deep.DeepHandedRow
import Derived.Lib.LaidTab
import Derived.Lib.LaidU8
import Derived.Lay
import Derived.LaidMore
import Derived.LaidSub
import Derived.MakeChecks
import Derived.SevenTiedAt
namespace Go.Proofs.YthocpiklbcahgaaDoor.fnExactLeafText
open Seq2 Go.ChangeShapes Go.WideShapes Go.ChangeAt Go.RowKit Go.WideElems Go.ChangeMaps
set_option linter.unusedVariables false
set_option linter.unusedSimpArgs false

theorem own : ownKnob Tryd.prog.godebug = none := by kernel_rfl

set_option maxRecDepth 100000 in
set_option maxHeartbeats 8000000 in
theorem walk_in (v0 : Value) (z0 : Lf) (w : World) (ht : TabAt w) (hk : TabOk w) (hsum : (LfSz z0) ≤ 1048576) (hv0 : LfL w v0 z0) :
    Calls Tryd.prog 6 #[v0] w fun e w' => e = .returned (.bool true) ∧ Below w.heap.size w w' := by
  have HS0 := Lib.hid (show (LfSz z0) ≤ 1048576 by omega)
  have HT := Lib.hid ht
  clear ht
  have HK := Lib.hid hk
  clear hk
  have HV0 := Lib.hid hv0
  obtain ⟨ao6_0, n6_0, c6_0, rfl, _, _, _, _, _, _, _, _⟩ := hv0.out
  clear hv0
  go_enter Tryd.func6, Tryd.ntmps6
  have HW := Lib.hid (show Below w.heap.size w (w.alloc (.cells #[.string z0.id, .string z0.fl, .int .i64 z0.nu, .string z0.ve.1, .int .i64 z0.ve.2.1, .int .i64 z0.ve.2.2, .int .i64 z0.wd, .int .i64 z0.ln, .slice ao6_0 n6_0 c6_0] 38)) from one_alloc _)
  have ha := World.alloc_heap_new w (.cells #[.string z0.id, .string z0.fl, .int .i64 z0.nu, .string z0.ve.1, .int .i64 z0.ve.2.1, .int .i64 z0.ve.2.2, .int .i64 z0.wd, .int .i64 z0.ln, .slice ao6_0 n6_0 c6_0] 38)
  have HA0 := Lib.hid ha
  clear ha
  have HL0 := Lib.hid (lft_ok (l := (1048576 : Int)) (n := (LfSz z0)) (by omega))
  have hd0 : decide ((1048576 : Int) - ((LfSz z0) : Int) < 0) = false := by simp; omega
  go_wp2_with fail
  refine (szLf_any _ z0 ((1048576 : Int)) _ (by omega) (by omega) (HV0.out.below HW.out)).mono ?_
  rintro e w1 ⟨rfl, g1⟩
  replace HA0 := Lib.hid ((g1.block _ (blk_lt HA0.out)).trans HA0.out)
  replace HW := Lib.hid (bseq HW.out g1)
  clear g1
  have hza0 := blk_lt HA0.out
  have a0_0 := (cell_of_arr HA0.out (j := 0) rfl).1
  have a0_1 := (cell_of_arr HA0.out (j := 1) rfl).1
  have a0_2 := (cell_of_arr HA0.out (j := 2) rfl).1
  have a0_3 := (cell_of_arr HA0.out (j := 3) rfl).1
  have a0_4 := (cell_of_arr HA0.out (j := 4) rfl).1
  have a0_5 := (cell_of_arr HA0.out (j := 5) rfl).1
  have a0_6 := (cell_of_arr HA0.out (j := 6) rfl).1
  have a0_7 := (cell_of_arr HA0.out (j := 7) rfl).1
  have a0_8 := (cell_of_arr HA0.out (j := 8) rfl).1
  rw [HL0.out]
  go_wp2_with fail
  refine (toLf_own _ z0 _ HS0.out (HV0.out.below HW.out)).mono ?_
  rintro e w2 ⟨v2, rfl, o2, g2⟩
  clear hza0 a0_0 a0_1 a0_2 a0_3 a0_4 a0_5 a0_6 a0_7 a0_8
  replace HA0 := Lib.hid ((g2.block _ (blk_lt HA0.out)).trans HA0.out)
  replace HW := Lib.hid (bseq HW.out g2)
  clear g2
  have hza0 := blk_lt HA0.out
  have a0_0 := (cell_of_arr HA0.out (j := 0) rfl).1
  have a0_1 := (cell_of_arr HA0.out (j := 1) rfl).1
  have a0_2 := (cell_of_arr HA0.out (j := 2) rfl).1
  have a0_3 := (cell_of_arr HA0.out (j := 3) rfl).1
  have a0_4 := (cell_of_arr HA0.out (j := 4) rfl).1
  have a0_5 := (cell_of_arr HA0.out (j := 5) rfl).1
  have a0_6 := (cell_of_arr HA0.out (j := 6) rfl).1
  have a0_7 := (cell_of_arr HA0.out (j := 7) rfl).1
  have a0_8 := (cell_of_arr HA0.out (j := 8) rfl).1
  have O2 := Lib.hid o2
  clear o2
  go_wp2_with fail
  refine (ltext_spec _ z0 _ (LfO.view O2.out)).mono ?_
  rintro e w3 ⟨rfl, g3⟩
  clear hza0 a0_0 a0_1 a0_2 a0_3 a0_4 a0_5 a0_6 a0_7 a0_8
  replace HA0 := Lib.hid ((g3.block _ (blk_lt HA0.out)).trans HA0.out)
  replace O2 := Lib.hid (O2.out.below g3)
  replace HW := Lib.hid (bseq HW.out g3)
  clear g3
  have hza0 := blk_lt HA0.out
  have a0_0 := (cell_of_arr HA0.out (j := 0) rfl).1
  have a0_1 := (cell_of_arr HA0.out (j := 1) rfl).1
  have a0_2 := (cell_of_arr HA0.out (j := 2) rfl).1
  have a0_3 := (cell_of_arr HA0.out (j := 3) rfl).1
  have a0_4 := (cell_of_arr HA0.out (j := 4) rfl).1
  have a0_5 := (cell_of_arr HA0.out (j := 5) rfl).1
  have a0_6 := (cell_of_arr HA0.out (j := 6) rfl).1
  have a0_7 := (cell_of_arr HA0.out (j := 7) rfl).1
  have a0_8 := (cell_of_arr HA0.out (j := 8) rfl).1
  clear O2
  have HLO0 := Lib.hid HW.out.size
  have HZL0_0 := Lib.hid (blk_lt HA0.out)
  go_wp2_with fail
  refine (toLf_own _ z0 _ HS0.out (HV0.out.below HW.out)).mono ?_
  rintro e w4 ⟨v4, rfl, o4, g4⟩
  clear hza0 a0_0 a0_1 a0_2 a0_3 a0_4 a0_5 a0_6 a0_7 a0_8
  replace HA0 := Lib.hid ((g4.block _ (blk_lt HA0.out)).trans HA0.out)
  replace HW := Lib.hid (bseq HW.out g4)
  clear g4
  have hza0 := blk_lt HA0.out
  have a0_0 := (cell_of_arr HA0.out (j := 0) rfl).1
  have a0_1 := (cell_of_arr HA0.out (j := 1) rfl).1
  have a0_2 := (cell_of_arr HA0.out (j := 2) rfl).1
  have a0_3 := (cell_of_arr HA0.out (j := 3) rfl).1
  have a0_4 := (cell_of_arr HA0.out (j := 4) rfl).1
  have a0_5 := (cell_of_arr HA0.out (j := 5) rfl).1
  have a0_6 := (cell_of_arr HA0.out (j := 6) rfl).1
  have a0_7 := (cell_of_arr HA0.out (j := 7) rfl).1
  have a0_8 := (cell_of_arr HA0.out (j := 8) rfl).1
  have O4 := Lib.hid o4
  clear o4
  obtain ⟨og6_x4, oh6_x4, rfl, _, _, _, _, _, _, _, _, _, _, _⟩ := O4.out.out
  go_wp2_with fail
  refine (ltext_impl _ z0 _ (LfO.view (O4.out.below (one_alloc _))) (HT.out.below (HW.out.alloc HW.out.size _)) (HK.out.below (HW.out.alloc HW.out.size _) (Nat.le_refl _))).mono ?_
  rintro e w5 ⟨rfl, g5⟩
  clear hza0 a0_0 a0_1 a0_2 a0_3 a0_4 a0_5 a0_6 a0_7 a0_8
  have HX0 := Lib.hid ((g5.block _ (by simp)).trans (World.alloc_heap_new w4 (.cells #[.string z0.id, .string z0.fl, .int .i64 z0.nu, .string z0.ve.1, .int .i64 z0.ve.2.1, .int .i64 z0.ve.2.2, .int .i64 z0.wd, .int .i64 z0.ln, .slice (some ⟨og6_x4, 0, none⟩) z0.df.length z0.df.length] 45)))
  replace g5 := bseq (one_alloc _) g5
  replace HA0 := Lib.hid ((g5.block _ (blk_lt HA0.out)).trans HA0.out)
  replace O4 := Lib.hid (O4.out.below g5)
  replace HW := Lib.hid (bseq HW.out g5)
  clear g5
  have hza0 := blk_lt HA0.out
  have a0_0 := (cell_of_arr HA0.out (j := 0) rfl).1
  have a0_1 := (cell_of_arr HA0.out (j := 1) rfl).1
  have a0_2 := (cell_of_arr HA0.out (j := 2) rfl).1
  have a0_3 := (cell_of_arr HA0.out (j := 3) rfl).1
  have a0_4 := (cell_of_arr HA0.out (j := 4) rfl).1
  have a0_5 := (cell_of_arr HA0.out (j := 5) rfl).1
  have a0_6 := (cell_of_arr HA0.out (j := 6) rfl).1
  have a0_7 := (cell_of_arr HA0.out (j := 7) rfl).1
  have a0_8 := (cell_of_arr HA0.out (j := 8) rfl).1
  have hzHX0 := blk_lt HX0.out
  have hx0_0 := (cell_of_arr HX0.out (j := 0) rfl).1
  have hx0_1 := (cell_of_arr HX0.out (j := 1) rfl).1
  have hx0_2 := (cell_of_arr HX0.out (j := 2) rfl).1
  have hx0_3 := (cell_of_arr HX0.out (j := 3) rfl).1
  have hx0_4 := (cell_of_arr HX0.out (j := 4) rfl).1
  have hx0_5 := (cell_of_arr HX0.out (j := 5) rfl).1
  have hx0_6 := (cell_of_arr HX0.out (j := 6) rfl).1
  have hx0_7 := (cell_of_arr HX0.out (j := 7) rfl).1
  have hx0_8 := (cell_of_arr HX0.out (j := 8) rfl).1
  go_wp2
  refine Seq3.wp_region w5 [0, 1] [(2, []), (3, [4])] (by kernel_rfl) (by kernel_rfl) rfl (Below.refl _ _) (fun w1 hh hb1 => ?_)
  repeat (first | (refine Seq2.fl_row (by decide) ?_) | (refine Seq2.fl_skip (by kernel_rfl) (by kernel_rfl) ?_ ?_; (focus (go_simp; (first | done | (simp [undef]; done)))); (try simp only [Act.put, List.setIfInBounds_toArray, List.set_cons_zero, List.set_cons_succ])) | (refine Seq2.fl_val (by kernel_rfl) (by kernel_rfl) ?_ ?_; (focus (go_simp; done)); apply Exists.intro; refine ⟨fun w2 hw2 => ?_, ?_⟩; (focus (obtain ⟨hc, hf⟩ := bcell hw2; clear hw2; go_simp; (first | done | with_reducible rfl | (with_reducible exact eql2 _ _ _) | (with_reducible exact neq2 _ _ _)))); (try simp only [Act.put, List.setIfInBounds_toArray, List.set_cons_zero, List.set_cons_succ])))
  refine Seq2.fl_nil ?_
  refine Seq3.c3_one (by kernel_rfl) rfl ?_
  gi_wp2_with fail
  refine ⟨trivial, rfl, (callsIn_wide.2 (toLf_own _ z0 _ HS0.out (HV0.out.below (HW.out.trans (hb1.mono HW.out.size))))).mono ?_⟩
  rintro e w6 ⟨v6, rfl, o6, g6⟩
  have HB6 := Lib.hid (hb1.trans (g6.mono hb1.size))
  clear g6
  have O6 := Lib.hid o6
  clear o6
  clear hh
  gi_wp2
  refine ⟨HB6.out, ?_⟩
  refine Seq3.c3_one (by kernel_rfl) rfl ?_
  gi_wp2_with fail
  refine ⟨trivial, rfl, (callsIn_wide.2 (eqLf_same _ _ z0 _ (LfO.view (O4.out.below HB6.out)) (LfO.view O6.out))).mono ?_⟩
  rintro e w7 ⟨rfl, g7⟩
  have HB7 := Lib.hid (HB6.out.trans (g7.mono HB6.out.size))
  replace O6 := Lib.hid (O6.out.below g7)
  clear g7
  gi_wp2
  refine ⟨HB7.out, ?_⟩
  refine Seq3.mid 4 ?_
  simp only [List.drop_succ_cons, List.drop_zero]
  repeat (first | (refine Seq2.fl_row (by decide) ?_) | (refine Seq2.fl_skip (by kernel_rfl) (by kernel_rfl) ?_ ?_; (focus (go_simp; (first | done | (simp [undef]; done)))); (try simp only [Act.put, List.setIfInBounds_toArray, List.set_cons_zero, List.set_cons_succ])) | (refine Seq2.fl_val (by kernel_rfl) (by kernel_rfl) ?_ ?_; (focus (go_simp; done)); apply Exists.intro; refine ⟨fun w2 hw2 => ?_, ?_⟩; (focus (obtain ⟨hc, hf⟩ := bcell hw2; clear hw2; go_simp; (first | done | with_reducible rfl | (with_reducible exact eql2 _ _ _) | (with_reducible exact neq2 _ _ _)))); (try simp only [Act.put, List.setIfInBounds_toArray, List.set_cons_zero, List.set_cons_succ])))
  refine Seq2.fl_nil ?_
  refine Seq3.c3_nil (by kernel_rfl) ?_
  clear hb1
  have g0 := HB7.out
  clear hza0 a0_0 a0_1 a0_2 a0_3 a0_4 a0_5 a0_6 a0_7 a0_8 hzHX0 hx0_0 hx0_1 hx0_2 hx0_3 hx0_4 hx0_5 hx0_6 hx0_7 hx0_8
  replace HA0 := Lib.hid ((g0.block _ (blk_lt HA0.out)).trans HA0.out)
  replace HX0 := Lib.hid ((g0.block _ (blk_lt HX0.out)).trans HX0.out)
  replace O4 := Lib.hid (O4.out.below g0)
  replace HW := Lib.hid (bseq HW.out g0)
  clear g0
  have hza0 := blk_lt HA0.out
  have a0_0 := (cell_of_arr HA0.out (j := 0) rfl).1
  have a0_1 := (cell_of_arr HA0.out (j := 1) rfl).1
  have a0_2 := (cell_of_arr HA0.out (j := 2) rfl).1
  have a0_3 := (cell_of_arr HA0.out (j := 3) rfl).1
  have a0_4 := (cell_of_arr HA0.out (j := 4) rfl).1
  have a0_5 := (cell_of_arr HA0.out (j := 5) rfl).1
  have a0_6 := (cell_of_arr HA0.out (j := 6) rfl).1
  have a0_7 := (cell_of_arr HA0.out (j := 7) rfl).1
  have a0_8 := (cell_of_arr HA0.out (j := 8) rfl).1
  have hzHX0 := blk_lt HX0.out
  have hx0_0 := (cell_of_arr HX0.out (j := 0) rfl).1
  have hx0_1 := (cell_of_arr HX0.out (j := 1) rfl).1
  have hx0_2 := (cell_of_arr HX0.out (j := 2) rfl).1
  have hx0_3 := (cell_of_arr HX0.out (j := 3) rfl).1
  have hx0_4 := (cell_of_arr HX0.out (j := 4) rfl).1
  have hx0_5 := (cell_of_arr HX0.out (j := 5) rfl).1
  have hx0_6 := (cell_of_arr HX0.out (j := 6) rfl).1
  have hx0_7 := (cell_of_arr HX0.out (j := 7) rfl).1
  have hx0_8 := (cell_of_arr HX0.out (j := 8) rfl).1
  clear O6
  clear hza0 a0_0 a0_1 a0_2 a0_3 a0_4 a0_5 a0_6 a0_7 a0_8 hzHX0 hx0_0 hx0_1 hx0_2 hx0_3 hx0_4 hx0_5 hx0_6 hx0_7 hx0_8
  clear HX0
  have hza0 := blk_lt HA0.out
  have a0_0 := (cell_of_arr HA0.out (j := 0) rfl).1
  have a0_1 := (cell_of_arr HA0.out (j := 1) rfl).1
  have a0_2 := (cell_of_arr HA0.out (j := 2) rfl).1
  have a0_3 := (cell_of_arr HA0.out (j := 3) rfl).1
  have a0_4 := (cell_of_arr HA0.out (j := 4) rfl).1
  have a0_5 := (cell_of_arr HA0.out (j := 5) rfl).1
  have a0_6 := (cell_of_arr HA0.out (j := 6) rfl).1
  have a0_7 := (cell_of_arr HA0.out (j := 7) rfl).1
  have a0_8 := (cell_of_arr HA0.out (j := 8) rfl).1
  clear O4
  go_wp2
  go_ret
  exact ⟨rfl, HW.out⟩
set_option maxRecDepth 100000 in
set_option maxHeartbeats 4000000 in
theorem walk (v0 : Value) (z0 : Lf) (w : World) (ht : TabAt w) (hk : TabOk w) (hv0 : LfL w v0 z0) :
    Calls Tryd.prog 6 #[v0] w fun e w' => e = .returned (.bool true) ∧ Below w.heap.size w w' := by
  by_cases hz0 : (LfSz z0) ≤ 1048576
  rotate_left
  · have HT := Lib.hid ht
    clear ht
    have HK := Lib.hid hk
    clear hk
    have HV0 := Lib.hid hv0
    obtain ⟨ao6_0, n6_0, c6_0, rfl, _, _, _, _, _, _, _, _⟩ := hv0.out
    clear hv0
    go_enter Tryd.func6, Tryd.ntmps6
    have HW := Lib.hid (show Below w.heap.size w (w.alloc (.cells #[.string z0.id, .string z0.fl, .int .i64 z0.nu, .string z0.ve.1, .int .i64 z0.ve.2.1, .int .i64 z0.ve.2.2, .int .i64 z0.wd, .int .i64 z0.ln, .slice ao6_0 n6_0 c6_0] 38)) from one_alloc _)
    have ha := World.alloc_heap_new w (.cells #[.string z0.id, .string z0.fl, .int .i64 z0.nu, .string z0.ve.1, .int .i64 z0.ve.2.1, .int .i64 z0.ve.2.2, .int .i64 z0.wd, .int .i64 z0.ln, .slice ao6_0 n6_0 c6_0] 38)
    have HA0 := Lib.hid ha
    clear ha
    have HL0 := Lib.hid (lft_no (l := (1048576 : Int)) (n := (LfSz z0)) (by omega))
    go_wp2_with fail
    refine (szLf_any _ z0 ((1048576 : Int)) _ (by omega) (by omega) (HV0.out.below HW.out)).mono ?_
    rintro e w1 ⟨rfl, g1⟩
    replace HA0 := Lib.hid ((g1.block _ (blk_lt HA0.out)).trans HA0.out)
    replace HW := Lib.hid (bseq HW.out g1)
    clear g1
    have hza0 := blk_lt HA0.out
    have a0_0 := (cell_of_arr HA0.out (j := 0) rfl).1
    have a0_1 := (cell_of_arr HA0.out (j := 1) rfl).1
    have a0_2 := (cell_of_arr HA0.out (j := 2) rfl).1
    have a0_3 := (cell_of_arr HA0.out (j := 3) rfl).1
    have a0_4 := (cell_of_arr HA0.out (j := 4) rfl).1
    have a0_5 := (cell_of_arr HA0.out (j := 5) rfl).1
    have a0_6 := (cell_of_arr HA0.out (j := 6) rfl).1
    have a0_7 := (cell_of_arr HA0.out (j := 7) rfl).1
    have a0_8 := (cell_of_arr HA0.out (j := 8) rfl).1
    rw [HL0.out]
    go_wp2
    go_ret
    exact ⟨rfl, HW.out⟩
  exact walk_in v0 z0 w ht hk (by omega) hv0

set_option maxRecDepth 100000 in
theorem contract (H : Type) (enc : TypeId × Value → H) (W : World) (base : Nat) (args : Array Value) (ds gs : List (DataW H)) (before : List MemPlace)
    (hval : ∀ (j : Nat) t v, Tryd.f6.params[j]? = some t → args[j]? = some v → Value.okWide Tryd.prog W .any base t v)
    (hW : DataW.Whole enc Tryd.prog Tryd.f6.params.toList Rows.fnExactLeafTextSpec.vars false W args.toList ds gs before) (hL : laidMetH Tryd.prog Rows.fnExactLeafTextRow.laid W) (hsh : W.ShapedOpen Tryd.prog) :
    Calls Tryd.prog 6 args W fun e W' => ∃ v, e = .returned v ∧ Rows.fnExactLeafTextSpec.post enc Tryd.prog Tryd.f6 false true false false W args v W' := by
  have hW' := hW
  obtain ⟨p, q, hA0, hV, rfl, hfz, hnd⟩ := hW
  have hV' : DataW.TrodVars enc Tryd.prog W (fun _ => true) ["loop.example/g00956/impl.speciesTable"] gs q := hV
  have hA : DataW.TrodAll enc Tryd.prog W 0 (fun _ => true) true Tryd.f6.params.toList args.toList ds p := hA0
  rw [Tryd.params6] at hA hval
  obtain ⟨v0, vs0, d0, ds0, p0, q0, hargs, rfl, rfl, h0, r0⟩ := trodAll_cons hA
  obtain ⟨rfl, rfl, rfl⟩ := trodAll_nil r0
  obtain rfl : args = #[v0] := by cases args; simp_all
  clear hA0
  have ht : TabAt W := by
    have hL1 := hL
    rw [MakeChecks.laidMetH_plain _ _ _ (by kernel_rfl)] at hL1
    exact tabAt_of hL1 (by unfold Rows.fnExactLeafTextRow; simp)
  have hk := (show TabOk W by
    have h1 := laidMetH.filter (fun x => x.1 == "internal/strconv.uint64pow10") hL
    have e : (Rows.fnExactLeafTextRow.laid.filter (fun x => x.1 == "internal/strconv.uint64pow10")) = [("internal/strconv.uint64pow10", Lib.tabData .u64 Lib.pow10Tab)] := by kernel_rfl
    rw [e, MakeChecks.laidMetH_plain _ _ _ (by kernel_rfl)] at h1
    exact Lib.tabIs_of_head (rest := []) gTab (by kernel_rfl) (t := 204) Tryd.underlying204 Tryd.underlying180 (by kernel_rfl) (by kernel_rfl) h1)
  obtain ⟨gg, hgs⟩ : ∃ gg, gs = [gg] := by
    obtain ⟨_, _, _, _, d, _, hh, _⟩ := trodVars_one hV'
    exact ⟨d, hh⟩
  subst hgs
  have l0 : ∀ x ∈ p0, x.block < W.heap.size := fun x hx => hW'.lt x (by simp [hx])
  have e0 := hval 0 38 v0 rfl rfl
  obtain ⟨z0, lv0⟩ := open_Lf e0 h0
  have hc := walk v0 z0 W ht hk lv0
  refine hc.mono fun e W' ⟨he, hg⟩ => ?_
  subst he
  exact ⟨_, rfl, post_below (pa := (p0 ++ [])) (pv := q) hW' (fun _ _ _ => (trodAll_cons_mk (shut_bool Tryd.underlying4 _) trodAll_mk0)) (fun sp hsp => (trodAll_cons_mk (trod_again (by decide) h0 l0 hg sp (fun x hx => hsp x (by simp [hx]))) trodAll_mk0)) (fun sp hsp => species_stay hg hV' (fun x hx => hsp x (by first | exact hx | simp [hx]))) (by simp)
    hg (ok_one (by kernel_rfl) rfl (okWide_bool_mk Tryd.underlying4 _))⟩

set_option maxRecDepth 100000 in
theorem lifted (os : Os) (started : os.Started) (H : Type) (enc : TypeId × Value → H) (F : Stop.Interp) :
    ReturnsInHanded {} Tryd.checked os 6 .any ((OpenSpec.ofChange Rows.fnExactLeafTextSpec).preRow enc Tryd.prog Tryd.f6 Rows.fnExactLeafTextRow.domain false Rows.fnExactLeafTextRow.laid) (((OpenSpec.ofChange Rows.fnExactLeafTextSpec).at F).post enc Tryd.prog Tryd.f6 false true false false) := by
  refine returnsInHanded_of_row (C := Tryd.checked) (s := OpenSpec.ofChange Rows.fnExactLeafTextSpec) own started (by kernel_rfl) Tryd.func6
    (ChangeSpec.witness_shaped (enc := enc) (C := Tryd.checked) (os := os) (X := fun w _ => laidMetH Tryd.prog Rows.fnExactLeafTextRow.laid w) false (World.laidAll Tryd.prog os Rows.fnExactLeafTextRow.laid) #[.agg #[.string ByteArray.empty, .string ByteArray.empty, .int .i64 0, .string ByteArray.empty, .int .i64 0, .int .i64 0, .int .i64 0, .int .i64 0, .slice none 0 0]] 8 (World.laidAll_os _ _ _)
      (World.shaped_of_ZipB (by kernel_rfl) (by kernel_rfl)) (by kernel_rfl) (by kernel_rfl) (by kernel_rfl)
      (by rw [MakeChecks.laidMetH_plain _ _ _ (by kernel_rfl)]; exact laidMet_laidAll _ (by kernel_rfl) (by kernel_rfl))) ?_
  intro W base args ds gs before hval hW _ _ _ hL hsh _
  exact contract H enc W base args ds gs before hval hW hL hsh

theorem said : Rows.FnExactLeafTextSaid :=
  OpenClaim.holds_of_cond 6 Tryd.f6 rfl rfl rfl rfl rfl rfl rfl ⟨rfl, rfl, rfl, rfl, rfl⟩ rfl rfl rfl rfl rfl (by kernel_rfl) Tryd.func6 (by kernel_rfl)
    (of_decide_eq_true (by kernel_rfl)) (by unfold Func.isWrapper; first | (rw [if_pos (by decide +kernel)]; kernel_rfl) | (rw [if_neg (by decide +kernel)]; exact ⟨rfl, rfl⟩))
    (fun os started H enc _ F => by rw [OpenClaim.pre_eq_preRow]; exact lifted os started H enc F)

theorem plain (f : FuncId) (fn : Func) (hf : Tryd.pinned.checked.prog.funcNamed Rows.fnExactLeafTextRow.func = some f) (hfn : Tryd.pinned.checked.prog.funcs[f]? = some fn) :
    Rows.fnExactLeafTextCard.stood.looks = Tryd.pinned.checked.prog.looks [] ∧ ∀ (j : Nat) t, fn.params[j]? = some t → Tryd.pinned.checked.prog.wantsStandIn t = false := by
  obtain rfl : f = 6 := Option.some.inj ((show Tryd.prog.funcNamed Rows.fnExactLeafTextRow.func = some 6 by kernel_rfl).symm.trans hf) |>.symm
  obtain rfl : fn = Tryd.f6 := (Option.some.inj (Tryd.func6.symm.trans hfn)).symm
  refine ⟨by kernel_rfl, fun j t ht => ?_⟩
  rw [Tryd.params6] at ht
  have hm : t ∈ [38] := by simpa using Array.mem_of_getElem? ht
  have hall : ([38].all fun u => !Tryd.prog.wantsStandIn u) = true := by kernel_rfl
  exact (show Tryd.prog.wantsStandIn t = false by simpa using List.all_eq_true.1 hall t hm)

theorem card : Rows.FnExactLeafTextCardSaid :=
  Claim7.holds_tied_plain_at .later [] _ _ _ _ said (fun _ h => by cases h) (by kernel_rfl) (fun _ h => by cases h) fnExactLeafText_row_tie rfl ⟨rfl, rfl⟩ (by kernel_rfl) rfl plain (by kernel_rfl)
#print axioms card
end Go.Proofs.YthocpiklbcahgaaDoor.fnExactLeafText
