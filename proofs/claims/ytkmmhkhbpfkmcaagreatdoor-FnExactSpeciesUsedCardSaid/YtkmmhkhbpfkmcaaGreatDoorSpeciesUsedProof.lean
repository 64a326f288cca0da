/- FnExactSpeciesUsed returns true at every picture. Condition: the table of species is as the program text lays it (tied). -/
import Derived.Test.YtkmmhkhbpfkmcaaGreatDoorCards
import Derived.Test.YtkmmhkhbpfkmcaaGreatDoorTie
import Derived.Test.YtkmmhkhbpfkmcaaGreatDoorVenLaid
import Derived.Test.YtkmmhkhbpfkmcaaGreatDoorPic7
import Derived.Test.YtkmmhkhbpfkmcaaGreatDoorScPicture
import Derived.Test.YtkmmhkhbpfkmcaaGreatDoorK17
import Derived.Test.YtkmmhkhbpfkmcaaGreatDoorSeq3
import Derived.Test.YtkmmhkhbpfkmcaaGreatDoorPost
import Derived.Test.YtkmmhkhbpfkmcaaGreatDoorK5
import Derived.WalkKit
import Derived.ProofKit
import Derived.OpenShut
import Derived.ChangeMaps5
import Derived.ChangeVars
import Derived.Deep.DeepHandedRow
import Derived.Lib.LaidTab
import Derived.Lib.LaidU8
import Derived.Lay
import Derived.LaidMore
import Derived.LaidSub
import Derived.MakeChecks
import Derived.SevenTiedAt
namespace Go.Proofs.YtkmmhkhbpfkmcaaGreatDoor.fnExactSpeciesUsed
open Seq2 Go.ChangeShapes Go.WideShapes Go.ChangeAt Go.RowKit Go.WideElems Go.ChangeMaps
set_option linter.unusedVariables false
set_option linter.unusedSimpArgs false

theorem own : ownKnob Tryz.prog.godebug = none := by kernel_rfl

set_option maxRecDepth 100000 in
set_option maxHeartbeats 8000000 in
theorem walk_in (v0 : Value) (z0 : Pc) (w : World) (ht : TabAt w) (hsum : (PcSz z0) ≤ 1048576) (hv0 : PcL w v0 z0) :
    Calls Tryz.prog 4 #[v0] w fun e w' => e = .returned (.bool true) ∧ Below w.heap.size w w' := by
  have HS0 := Lib.hid (show (PcSz z0) ≤ 1048576 by omega)
  have HT := Lib.hid ht
  clear ht
  have HV0 := Lib.hid hv0
  obtain ⟨ao0_0, bo0_0, n0_0, c0_0, m0_0, d0_0, ao1_0, n1_0, c1_0, rfl, _, _, _⟩ := hv0.out
  clear hv0
  go_enter Tryz.func4, Tryz.ntmps4
  have HW := Lib.hid (show Below w.heap.size w (w.alloc (.cells #[.int .i64 z0.dr.wd, .int .i64 z0.dr.hg, .slice ao0_0 n0_0 c0_0, .slice bo0_0 m0_0 d0_0, .slice ao1_0 n1_0 c1_0] 28)) from one_alloc _)
  have ha := World.alloc_heap_new w (.cells #[.int .i64 z0.dr.wd, .int .i64 z0.dr.hg, .slice ao0_0 n0_0 c0_0, .slice bo0_0 m0_0 d0_0, .slice ao1_0 n1_0 c1_0] 28)
  have HA0 := Lib.hid ha
  clear ha
  obtain ⟨L, hz⟩ : ∃ L, (suR z0).1 = L := ⟨_, rfl⟩
  have hl : L.length ≤ 1000 := by rw [← hz]; exact suR_len z0
  obtain ⟨rc, hrc⟩ : ∃ c, (suR z0).2 = c := ⟨_, rfl⟩
  have HZ := Lib.hid hz
  have HC := Lib.hid hrc
  clear hz hrc
  have hl2 : L.length ≤ 2000000 := by omega
  have hl3 : L.length ≤ 1900000 := by omega
  have HL0 := Lib.hid (lft_ok (l := (1048576 : Int)) (n := (PcSz z0)) (by omega))
  have hd0 : decide ((1048576 : Int) - ((PcSz z0) : Int) < 0) = false := by simp; omega
  go_wp2_with fail
  refine (szPc_any _ z0 ((1048576 : Int)) _ (by omega) (by omega) (HV0.out.below HW.out)).mono ?_
  rintro e w1 ⟨rfl, g1⟩
  replace HA0 := Lib.hid ((g1.block _ (blk_lt HA0.out)).trans HA0.out)
  replace HW := Lib.hid (bseq HW.out g1)
  clear g1
  have hza0 := blk_lt HA0.out
  have a0_0 := (cell_of_arr HA0.out (j := 0) rfl).1
  have a0_1 := (cell_of_arr HA0.out (j := 1) rfl).1
  have a0_2 := (cell_of_arr HA0.out (j := 2) rfl).1
  have a0_3 := (cell_of_arr HA0.out (j := 3) rfl).1
  have a0_4 := (cell_of_arr HA0.out (j := 4) rfl).1
  rw [HL0.out]
  go_wp2_with fail
  refine (toPc_own _ z0 _ HS0.out (HV0.out.below HW.out)).mono ?_
  rintro e w2 ⟨v2, rfl, o2, g2⟩
  clear hza0 a0_0 a0_1 a0_2 a0_3 a0_4
  replace HA0 := Lib.hid ((g2.block _ (blk_lt HA0.out)).trans HA0.out)
  replace HW := Lib.hid (bseq HW.out g2)
  clear g2
  have hza0 := blk_lt HA0.out
  have a0_0 := (cell_of_arr HA0.out (j := 0) rfl).1
  have a0_1 := (cell_of_arr HA0.out (j := 1) rfl).1
  have a0_2 := (cell_of_arr HA0.out (j := 2) rfl).1
  have a0_3 := (cell_of_arr HA0.out (j := 3) rfl).1
  have a0_4 := (cell_of_arr HA0.out (j := 4) rfl).1
  have O2 := Lib.hid o2
  clear o2
  go_wp2_with fail
  refine (used_spec _ z0 _ (PcO.view O2.out)).mono ?_
  rintro e w3 ⟨v3, rfl, o3, g3⟩
  clear hza0 a0_0 a0_1 a0_2 a0_3 a0_4
  replace HA0 := Lib.hid ((g3.block _ (blk_lt HA0.out)).trans HA0.out)
  replace O2 := Lib.hid (O2.out.below g3)
  replace HW := Lib.hid (bseq HW.out g3)
  clear g3
  have hza0 := blk_lt HA0.out
  have a0_0 := (cell_of_arr HA0.out (j := 0) rfl).1
  have a0_1 := (cell_of_arr HA0.out (j := 1) rfl).1
  have a0_2 := (cell_of_arr HA0.out (j := 2) rfl).1
  have a0_3 := (cell_of_arr HA0.out (j := 3) rfl).1
  have a0_4 := (cell_of_arr HA0.out (j := 4) rfl).1
  unfold OwnS at o3
  rw [HZ.out] at o3
  rw [HC.out]
  have O3 := Lib.hid o3
  clear o3
  clear O2
  have HLO0 := Lib.hid HW.out.size
  have HZL0_0 := Lib.hid (blk_lt HA0.out)
  have LT0_O3 := Lib.hid (fun k hk => (World.ownsRow.lt O3.out k hk).2)
  go_wp2_with fail
  refine (toPc_own _ z0 _ HS0.out (HV0.out.below HW.out)).mono ?_
  rintro e w4 ⟨v4, rfl, o4, g4⟩
  clear hza0 a0_0 a0_1 a0_2 a0_3 a0_4
  replace HA0 := Lib.hid ((g4.block _ (blk_lt HA0.out)).trans HA0.out)
  replace O3 := Lib.hid (own_below O3.out g4)
  replace HW := Lib.hid (bseq HW.out g4)
  clear g4
  have hza0 := blk_lt HA0.out
  have a0_0 := (cell_of_arr HA0.out (j := 0) rfl).1
  have a0_1 := (cell_of_arr HA0.out (j := 1) rfl).1
  have a0_2 := (cell_of_arr HA0.out (j := 2) rfl).1
  have a0_3 := (cell_of_arr HA0.out (j := 3) rfl).1
  have a0_4 := (cell_of_arr HA0.out (j := 4) rfl).1
  have O4 := Lib.hid o4
  clear o4
  obtain ⟨op0_x4, ob0_x4, oh0_x4, og1_x4, oh1_x4, rfl, _, _, _, _, _, _, _, _⟩ := O4.out.out
  have DX4 := Lib.hid (PcX.of O4.out)
  have LTW := Lib.hid (fun k hk => (World.ownsRow.lt O3.out k hk).2)
  have HLW := Lib.hid HW.out.size
  have HLA0 := Lib.hid (blk_lt HA0.out)
  go_wp2_with fail
  refine (used_impl _ z0 _ (PcO.view (O4.out.below (one_alloc _))) (HT.out.below (HW.out.alloc HW.out.size _))).mono ?_
  rintro e w5 ⟨v5, rfl, o5, g5⟩
  clear hza0 a0_0 a0_1 a0_2 a0_3 a0_4
  have HX0 := Lib.hid ((g5.block _ (by simp)).trans (World.alloc_heap_new w4 (.cells #[.int .i64 z0.dr.wd, .int .i64 z0.dr.hg, .slice (some ⟨op0_x4, 0, none⟩) z0.dr.ps.length z0.dr.ps.length, .slice (some ⟨ob0_x4, 0, none⟩) z0.dr.fs.length z0.dr.fs.length, .slice (some ⟨og1_x4, 0, none⟩) z0.vs.length z0.vs.length] 37)))
  replace g5 := bseq (one_alloc _) g5
  replace HA0 := Lib.hid ((g5.block _ (blk_lt HA0.out)).trans HA0.out)
  replace O3 := Lib.hid (own_below O3.out g5)
  replace O4 := Lib.hid (O4.out.below g5)
  replace DX4 := Lib.hid (DX4.out.below g5)
  replace HW := Lib.hid (bseq HW.out g5)
  clear g5
  have hza0 := blk_lt HA0.out
  have a0_0 := (cell_of_arr HA0.out (j := 0) rfl).1
  have a0_1 := (cell_of_arr HA0.out (j := 1) rfl).1
  have a0_2 := (cell_of_arr HA0.out (j := 2) rfl).1
  have a0_3 := (cell_of_arr HA0.out (j := 3) rfl).1
  have a0_4 := (cell_of_arr HA0.out (j := 4) rfl).1
  have hzHX0 := blk_lt HX0.out
  have hx0_0 := (cell_of_arr HX0.out (j := 0) rfl).1
  have hx0_1 := (cell_of_arr HX0.out (j := 1) rfl).1
  have hx0_2 := (cell_of_arr HX0.out (j := 2) rfl).1
  have hx0_3 := (cell_of_arr HX0.out (j := 3) rfl).1
  have hx0_4 := (cell_of_arr HX0.out (j := 4) rfl).1
  unfold OwnS at o5
  rw [HZ.out] at o5
  rw [HC.out]
  have O5 := Lib.hid (World.ownsRow.mono o5 (show w4.heap.size ≤ _ by first | (simp; done) | (simp; omega)))
  clear o5
  go_wp2_with fail
  refine (eqOwnS_b _ _ _ _ _ _ hl2 O5.out O3.out).mono ?_
  rintro e w6 ⟨rfl, g6⟩
  clear hza0 a0_0 a0_1 a0_2 a0_3 a0_4 hzHX0 hx0_0 hx0_1 hx0_2 hx0_3 hx0_4
  replace HA0 := Lib.hid ((g6.block _ (blk_lt HA0.out)).trans HA0.out)
  replace HX0 := Lib.hid ((g6.block _ (blk_lt HX0.out)).trans HX0.out)
  replace O3 := Lib.hid (own_below O3.out g6)
  replace O4 := Lib.hid (O4.out.below g6)
  replace DX4 := Lib.hid (DX4.out.below g6)
  replace O5 := Lib.hid (own_below O5.out g6)
  replace HW := Lib.hid (bseq HW.out g6)
  clear g6
  have hza0 := blk_lt HA0.out
  have a0_0 := (cell_of_arr HA0.out (j := 0) rfl).1
  have a0_1 := (cell_of_arr HA0.out (j := 1) rfl).1
  have a0_2 := (cell_of_arr HA0.out (j := 2) rfl).1
  have a0_3 := (cell_of_arr HA0.out (j := 3) rfl).1
  have a0_4 := (cell_of_arr HA0.out (j := 4) rfl).1
  have hzHX0 := blk_lt HX0.out
  have hx0_0 := (cell_of_arr HX0.out (j := 0) rfl).1
  have hx0_1 := (cell_of_arr HX0.out (j := 1) rfl).1
  have hx0_2 := (cell_of_arr HX0.out (j := 2) rfl).1
  have hx0_3 := (cell_of_arr HX0.out (j := 3) rfl).1
  have hx0_4 := (cell_of_arr HX0.out (j := 4) rfl).1
  go_wp2
  refine Seq3.wp_region w6 [0, 1] [(2, []), (3, [4])] (by kernel_rfl) (by kernel_rfl) rfl (Below.refl _ _) (fun w1 hh hb1 => ?_)
  repeat (first | (refine Seq2.fl_row (by decide) ?_) | (refine Seq2.fl_skip (by kernel_rfl) (by kernel_rfl) ?_ ?_; (focus (go_simp; (first | done | (simp [undef]; done)))); (try simp only [Act.put, List.setIfInBounds_toArray, List.set_cons_zero, List.set_cons_succ])) | (refine Seq2.fl_val (by kernel_rfl) (by kernel_rfl) ?_ ?_; (focus (go_simp; done)); apply Exists.intro; refine ⟨fun w2 hw2 => ?_, ?_⟩; (focus (obtain ⟨hc, hf⟩ := bcell hw2; clear hw2; go_simp; (first | done | with_reducible rfl | (with_reducible exact eql2 _ _ _) | (with_reducible exact neq2 _ _ _)))); (try simp only [Act.put, List.setIfInBounds_toArray, List.set_cons_zero, List.set_cons_succ])))
  refine Seq2.fl_nil ?_
  refine Seq3.c3_one (by kernel_rfl) rfl ?_
  gi_wp2_with fail
  refine ⟨trivial, rfl, (callsIn_wide.2 (toPc_own _ z0 _ HS0.out (HV0.out.below (HW.out.trans (hb1.mono HW.out.size))))).mono ?_⟩
  rintro e w7 ⟨v7, rfl, o7, g7⟩
  have HB7 := Lib.hid (hb1.trans (g7.mono hb1.size))
  clear g7
  have O7 := Lib.hid o7
  clear o7
  clear hh
  gi_wp2
  refine ⟨HB7.out, ?_⟩
  refine Seq3.c3_one (by kernel_rfl) rfl ?_
  gi_wp2_with fail
  refine ⟨trivial, rfl, (callsIn_wide.2 (eqPc_same _ _ z0 _ (PcO.view (O4.out.below HB7.out)) (PcO.view O7.out))).mono ?_⟩
  rintro e w8 ⟨rfl, g8⟩
  have HB8 := Lib.hid (HB7.out.trans (g8.mono HB7.out.size))
  replace O7 := Lib.hid (O7.out.below g8)
  clear g8
  gi_wp2
  refine ⟨HB8.out, ?_⟩
  refine Seq3.mid 4 ?_
  simp only [List.drop_succ_cons, List.drop_zero]
  repeat (first | (refine Seq2.fl_row (by decide) ?_) | (refine Seq2.fl_skip (by kernel_rfl) (by kernel_rfl) ?_ ?_; (focus (go_simp; (first | done | (simp [undef]; done)))); (try simp only [Act.put, List.setIfInBounds_toArray, List.set_cons_zero, List.set_cons_succ])) | (refine Seq2.fl_val (by kernel_rfl) (by kernel_rfl) ?_ ?_; (focus (go_simp; done)); apply Exists.intro; refine ⟨fun w2 hw2 => ?_, ?_⟩; (focus (obtain ⟨hc, hf⟩ := bcell hw2; clear hw2; go_simp; (first | done | with_reducible rfl | (with_reducible exact eql2 _ _ _) | (with_reducible exact neq2 _ _ _)))); (try simp only [Act.put, List.setIfInBounds_toArray, List.set_cons_zero, List.set_cons_succ])))
  refine Seq2.fl_nil ?_
  refine Seq3.c3_nil (by kernel_rfl) ?_
  clear hb1
  have g0 := HB8.out
  clear hza0 a0_0 a0_1 a0_2 a0_3 a0_4 hzHX0 hx0_0 hx0_1 hx0_2 hx0_3 hx0_4
  replace HA0 := Lib.hid ((g0.block _ (blk_lt HA0.out)).trans HA0.out)
  replace HX0 := Lib.hid ((g0.block _ (blk_lt HX0.out)).trans HX0.out)
  replace O3 := Lib.hid (own_below O3.out g0)
  replace O4 := Lib.hid (O4.out.below g0)
  replace DX4 := Lib.hid (DX4.out.below g0)
  replace O5 := Lib.hid (own_below O5.out g0)
  replace HW := Lib.hid (bseq HW.out g0)
  clear g0
  have hza0 := blk_lt HA0.out
  have a0_0 := (cell_of_arr HA0.out (j := 0) rfl).1
  have a0_1 := (cell_of_arr HA0.out (j := 1) rfl).1
  have a0_2 := (cell_of_arr HA0.out (j := 2) rfl).1
  have a0_3 := (cell_of_arr HA0.out (j := 3) rfl).1
  have a0_4 := (cell_of_arr HA0.out (j := 4) rfl).1
  have hzHX0 := blk_lt HX0.out
  have hx0_0 := (cell_of_arr HX0.out (j := 0) rfl).1
  have hx0_1 := (cell_of_arr HX0.out (j := 1) rfl).1
  have hx0_2 := (cell_of_arr HX0.out (j := 2) rfl).1
  have hx0_3 := (cell_of_arr HX0.out (j := 3) rfl).1
  have hx0_4 := (cell_of_arr HX0.out (j := 4) rfl).1
  clear O7
  go_wp2_with fail
  refine (markPc_any _ _ _ z0 _ DX4.out).mono ?_
  rintro e w9 ⟨k9, rfl, hk9, g9⟩
  clear hza0 a0_0 a0_1 a0_2 a0_3 a0_4 hzHX0 hx0_0 hx0_1 hx0_2 hx0_3 hx0_4
  replace HA0 := Lib.hid ((g9.block _ (blk_lt HA0.out) (by have := HZL0_0.out; omega)).trans HA0.out)
  replace HW := Lib.hid (g9.below HW.out HLO0.out)
  replace O3 := Lib.hid (g9.own O3.out (fun k hk => by have := LT0_O3.out k hk; omega))
  replace O5 := Lib.hid (g9.own O5.out (fun k hk => by have := (World.ownsRow.lt O5.out k hk).1; (try simp at this); omega))
  clear g9 DX4 O4 HX0
  have hza0 := blk_lt HA0.out
  have a0_0 := (cell_of_arr HA0.out (j := 0) rfl).1
  have a0_1 := (cell_of_arr HA0.out (j := 1) rfl).1
  have a0_2 := (cell_of_arr HA0.out (j := 2) rfl).1
  have a0_3 := (cell_of_arr HA0.out (j := 3) rfl).1
  have a0_4 := (cell_of_arr HA0.out (j := 4) rfl).1
  have hkk0 : decide ((k9 : Int) < 0) = false := by simp
  go_wp2_with fail
  refine (eqOwnS_b _ _ _ _ _ _ hl2 O5.out O3.out).mono ?_
  rintro e w10 ⟨rfl, g10⟩
  clear hza0 a0_0 a0_1 a0_2 a0_3 a0_4
  replace HA0 := Lib.hid ((g10.block _ (blk_lt HA0.out)).trans HA0.out)
  replace O3 := Lib.hid (own_below O3.out g10)
  replace O5 := Lib.hid (own_below O5.out g10)
  replace HW := Lib.hid (bseq HW.out g10)
  clear g10
  have hza0 := blk_lt HA0.out
  have a0_0 := (cell_of_arr HA0.out (j := 0) rfl).1
  have a0_1 := (cell_of_arr HA0.out (j := 1) rfl).1
  have a0_2 := (cell_of_arr HA0.out (j := 2) rfl).1
  have a0_3 := (cell_of_arr HA0.out (j := 3) rfl).1
  have a0_4 := (cell_of_arr HA0.out (j := 4) rfl).1
  go_wp2_with fail
  refine (markOwnS _ _ _ _ _ hl3 O5.out).mono ?_
  rintro e w11 ⟨rfl, hm11, g11⟩
  clear hza0 a0_0 a0_1 a0_2 a0_3 a0_4
  replace HA0 := Lib.hid ((g11.block _ HLA0.out).trans HA0.out)
  replace O3 := Lib.hid (own_keepW O3.out LTW.out g11)
  replace HW := Lib.hid (HW.out.trans (g11.mono HLW.out))
  have HK := Lib.hid hm11
  clear g11 hm11 O5
  have hza0 := blk_lt HA0.out
  have a0_0 := (cell_of_arr HA0.out (j := 0) rfl).1
  have a0_1 := (cell_of_arr HA0.out (j := 1) rfl).1
  have a0_2 := (cell_of_arr HA0.out (j := 2) rfl).1
  have a0_3 := (cell_of_arr HA0.out (j := 3) rfl).1
  have a0_4 := (cell_of_arr HA0.out (j := 4) rfl).1
  have hk1 : decide (((1 : Int) + ((L.length : Nat) : Int)) < 0) = false := by simp; omega
  go_wp2_with fail
  refine (heldOwnS _ _ _ _ hl3 HK.out).mono ?_
  rintro e w12 ⟨rfl, g12⟩
  clear hza0 a0_0 a0_1 a0_2 a0_3 a0_4
  replace HA0 := Lib.hid ((g12.block _ (blk_lt HA0.out)).trans HA0.out)
  replace O3 := Lib.hid (own_below O3.out g12)
  replace HK := Lib.hid (markedS_below HK.out g12 (Nat.le_refl _))
  replace HW := Lib.hid (bseq HW.out g12)
  clear g12
  have hza0 := blk_lt HA0.out
  have a0_0 := (cell_of_arr HA0.out (j := 0) rfl).1
  have a0_1 := (cell_of_arr HA0.out (j := 1) rfl).1
  have a0_2 := (cell_of_arr HA0.out (j := 2) rfl).1
  have a0_3 := (cell_of_arr HA0.out (j := 3) rfl).1
  have a0_4 := (cell_of_arr HA0.out (j := 4) rfl).1
  go_wp2_with fail
  refine (toPc_own _ z0 _ HS0.out (HV0.out.below HW.out)).mono ?_
  rintro e w13 ⟨v13, rfl, o13, g13⟩
  clear hza0 a0_0 a0_1 a0_2 a0_3 a0_4
  replace HA0 := Lib.hid ((g13.block _ (blk_lt HA0.out)).trans HA0.out)
  replace O3 := Lib.hid (own_below O3.out g13)
  replace HK := Lib.hid (markedS_below HK.out g13 (Nat.le_refl _))
  replace HW := Lib.hid (bseq HW.out g13)
  clear g13
  have hza0 := blk_lt HA0.out
  have a0_0 := (cell_of_arr HA0.out (j := 0) rfl).1
  have a0_1 := (cell_of_arr HA0.out (j := 1) rfl).1
  have a0_2 := (cell_of_arr HA0.out (j := 2) rfl).1
  have a0_3 := (cell_of_arr HA0.out (j := 3) rfl).1
  have a0_4 := (cell_of_arr HA0.out (j := 4) rfl).1
  have O13 := Lib.hid o13
  clear o13
  go_wp2_with fail
  refine (used_impl _ z0 _ (PcO.view O13.out) (HT.out.below HW.out)).mono ?_
  rintro e w14 ⟨v14, rfl, o14, g14⟩
  clear hza0 a0_0 a0_1 a0_2 a0_3 a0_4
  replace HA0 := Lib.hid ((g14.block _ (blk_lt HA0.out)).trans HA0.out)
  replace O3 := Lib.hid (own_below O3.out g14)
  replace HK := Lib.hid (markedS_below HK.out g14 (Nat.le_refl _))
  replace O13 := Lib.hid (O13.out.below g14)
  replace HW := Lib.hid (bseq HW.out g14)
  clear g14
  have hza0 := blk_lt HA0.out
  have a0_0 := (cell_of_arr HA0.out (j := 0) rfl).1
  have a0_1 := (cell_of_arr HA0.out (j := 1) rfl).1
  have a0_2 := (cell_of_arr HA0.out (j := 2) rfl).1
  have a0_3 := (cell_of_arr HA0.out (j := 3) rfl).1
  have a0_4 := (cell_of_arr HA0.out (j := 4) rfl).1
  unfold OwnS at o14
  rw [HZ.out] at o14
  rw [HC.out]
  have O14 := Lib.hid o14
  clear o14
  clear O13
  go_wp2_with fail
  refine (eqOwnS_b _ _ _ _ _ _ hl2 O14.out O3.out).mono ?_
  rintro e w15 ⟨rfl, g15⟩
  clear hza0 a0_0 a0_1 a0_2 a0_3 a0_4
  replace HA0 := Lib.hid ((g15.block _ (blk_lt HA0.out)).trans HA0.out)
  replace O3 := Lib.hid (own_below O3.out g15)
  replace HK := Lib.hid (markedS_below HK.out g15 (Nat.le_refl _))
  replace O14 := Lib.hid (own_below O14.out g15)
  replace HW := Lib.hid (bseq HW.out g15)
  clear g15
  have hza0 := blk_lt HA0.out
  have a0_0 := (cell_of_arr HA0.out (j := 0) rfl).1
  have a0_1 := (cell_of_arr HA0.out (j := 1) rfl).1
  have a0_2 := (cell_of_arr HA0.out (j := 2) rfl).1
  have a0_3 := (cell_of_arr HA0.out (j := 3) rfl).1
  have a0_4 := (cell_of_arr HA0.out (j := 4) rfl).1
  go_wp2_with fail
  refine (heldOwnS _ _ _ _ hl3 HK.out).mono ?_
  rintro e w16 ⟨rfl, g16⟩
  clear hza0 a0_0 a0_1 a0_2 a0_3 a0_4
  replace HA0 := Lib.hid ((g16.block _ (blk_lt HA0.out)).trans HA0.out)
  replace O3 := Lib.hid (own_below O3.out g16)
  replace HK := Lib.hid (markedS_below HK.out g16 (Nat.le_refl _))
  replace O14 := Lib.hid (own_below O14.out g16)
  replace HW := Lib.hid (bseq HW.out g16)
  clear g16
  have hza0 := blk_lt HA0.out
  have a0_0 := (cell_of_arr HA0.out (j := 0) rfl).1
  have a0_1 := (cell_of_arr HA0.out (j := 1) rfl).1
  have a0_2 := (cell_of_arr HA0.out (j := 2) rfl).1
  have a0_3 := (cell_of_arr HA0.out (j := 3) rfl).1
  have a0_4 := (cell_of_arr HA0.out (j := 4) rfl).1
  go_wp2
  go_ret
  exact ⟨rfl, HW.out⟩
set_option maxRecDepth 100000 in
set_option maxHeartbeats 4000000 in
theorem walk (v0 : Value) (z0 : Pc) (w : World) (ht : TabAt w) (hv0 : PcL w v0 z0) :
    Calls Tryz.prog 4 #[v0] w fun e w' => e = .returned (.bool true) ∧ Below w.heap.size w w' := by
  by_cases hz0 : (PcSz z0) ≤ 1048576
  rotate_left
  · have HT := Lib.hid ht
    clear ht
    have HV0 := Lib.hid hv0
    obtain ⟨ao0_0, bo0_0, n0_0, c0_0, m0_0, d0_0, ao1_0, n1_0, c1_0, rfl, _, _, _⟩ := hv0.out
    clear hv0
    go_enter Tryz.func4, Tryz.ntmps4
    have HW := Lib.hid (show Below w.heap.size w (w.alloc (.cells #[.int .i64 z0.dr.wd, .int .i64 z0.dr.hg, .slice ao0_0 n0_0 c0_0, .slice bo0_0 m0_0 d0_0, .slice ao1_0 n1_0 c1_0] 28)) from one_alloc _)
    have ha := World.alloc_heap_new w (.cells #[.int .i64 z0.dr.wd, .int .i64 z0.dr.hg, .slice ao0_0 n0_0 c0_0, .slice bo0_0 m0_0 d0_0, .slice ao1_0 n1_0 c1_0] 28)
    have HA0 := Lib.hid ha
    clear ha
    have HL0 := Lib.hid (lft_no (l := (1048576 : Int)) (n := (PcSz z0)) (by omega))
    go_wp2_with fail
    refine (szPc_any _ z0 ((1048576 : Int)) _ (by omega) (by omega) (HV0.out.below HW.out)).mono ?_
    rintro e w1 ⟨rfl, g1⟩
    replace HA0 := Lib.hid ((g1.block _ (blk_lt HA0.out)).trans HA0.out)
    replace HW := Lib.hid (bseq HW.out g1)
    clear g1
    have hza0 := blk_lt HA0.out
    have a0_0 := (cell_of_arr HA0.out (j := 0) rfl).1
    have a0_1 := (cell_of_arr HA0.out (j := 1) rfl).1
    have a0_2 := (cell_of_arr HA0.out (j := 2) rfl).1
    have a0_3 := (cell_of_arr HA0.out (j := 3) rfl).1
    have a0_4 := (cell_of_arr HA0.out (j := 4) rfl).1
    rw [HL0.out]
    go_wp2
    go_ret
    exact ⟨rfl, HW.out⟩
  exact walk_in v0 z0 w ht (by omega) hv0

set_option maxRecDepth 100000 in
theorem contract (H : Type) (enc : TypeId × Value → H) (W : World) (base : Nat) (args : Array Value) (ds gs : List (DataW H)) (before : List MemPlace)
    (hval : ∀ (j : Nat) t v, Tryz.f4.params[j]? = some t → args[j]? = some v → Value.okWide Tryz.prog W .any base t v)
    (hW : DataW.Whole enc Tryz.prog Tryz.f4.params.toList Rows.fnExactSpeciesUsedSpec.vars false W args.toList ds gs before) (hL : laidMetH Tryz.prog Rows.fnExactSpeciesUsedRow.laid W) (hsh : W.ShapedOpen Tryz.prog) :
    Calls Tryz.prog 4 args W fun e W' => ∃ v, e = .returned v ∧ Rows.fnExactSpeciesUsedSpec.post enc Tryz.prog Tryz.f4 false true false false W args v W' := by
  have hW' := hW
  obtain ⟨p, q, hA0, hV, rfl, hfz, hnd⟩ := hW
  have hV' : DataW.TrodVars enc Tryz.prog W (fun _ => true) ["loop.example/g00956/impl.speciesTable"] gs q := hV
  have hA : DataW.TrodAll enc Tryz.prog W 0 (fun _ => true) true Tryz.f4.params.toList args.toList ds p := hA0
  rw [Tryz.params4] at hA hval
  obtain ⟨v0, vs0, d0, ds0, p0, q0, hargs, rfl, rfl, h0, r0⟩ := trodAll_cons hA
  obtain ⟨rfl, rfl, rfl⟩ := trodAll_nil r0
  obtain rfl : args = #[v0] := by cases args; simp_all
  clear hA0
  have ht : TabAt W := by
    have hL1 := hL
    rw [MakeChecks.laidMetH_plain _ _ _ (by kernel_rfl)] at hL1
    exact tabAt_of hL1 (by unfold Rows.fnExactSpeciesUsedRow; simp)
  obtain ⟨gg, hgs⟩ : ∃ gg, gs = [gg] := by
    obtain ⟨_, _, _, _, d, _, hh, _⟩ := trodVars_one hV'
    exact ⟨d, hh⟩
  subst hgs
  have l0 : ∀ x ∈ p0, x.block < W.heap.size := fun x hx => hW'.lt x (by simp [hx])
  have e0 := hval 0 28 v0 rfl rfl
  obtain ⟨z0, lv0⟩ := open_Pc e0 h0
  have hc := walk v0 z0 W ht  lv0
  refine hc.mono fun e W' ⟨he, hg⟩ => ?_
  subst he
  exact ⟨_, rfl, post_below (pa := (p0 ++ [])) (pv := q) hW' (fun _ _ _ => (trodAll_cons_mk (shut_bool Tryz.underlying4 _) trodAll_mk0)) (fun sp hsp => (trodAll_cons_mk (trod_again (by decide) h0 l0 hg sp (fun x hx => hsp x (by simp [hx]))) trodAll_mk0)) (fun sp hsp => species_stay hg hV' (fun x hx => hsp x (by first | exact hx | simp [hx]))) (by simp)
    hg (ok_one (by kernel_rfl) rfl (okWide_bool_mk Tryz.underlying4 _))⟩

set_option maxRecDepth 100000 in
theorem lifted (os : Os) (started : os.Started) (H : Type) (enc : TypeId × Value → H) (F : Stop.Interp) :
    ReturnsInHanded {} Tryz.checked os 4 .any ((OpenSpec.ofChange Rows.fnExactSpeciesUsedSpec).preRow enc Tryz.prog Tryz.f4 Rows.fnExactSpeciesUsedRow.domain false Rows.fnExactSpeciesUsedRow.laid) (((OpenSpec.ofChange Rows.fnExactSpeciesUsedSpec).at F).post enc Tryz.prog Tryz.f4 false true false false) := by
  refine returnsInHanded_of_row (C := Tryz.checked) (s := OpenSpec.ofChange Rows.fnExactSpeciesUsedSpec) own started (by kernel_rfl) Tryz.func4
    (ChangeSpec.witness_shaped (enc := enc) (C := Tryz.checked) (os := os) (X := fun w _ => laidMetH Tryz.prog Rows.fnExactSpeciesUsedRow.laid w) false (World.laidAll Tryz.prog os Rows.fnExactSpeciesUsedRow.laid) #[.agg #[.int .i64 0, .int .i64 0, .slice none 0 0, .slice none 0 0, .slice none 0 0]] 8 (World.laidAll_os _ _ _)
      (World.shaped_of_ZipB (by kernel_rfl) (by kernel_rfl)) (by kernel_rfl) (by kernel_rfl) (by kernel_rfl)
      (by rw [MakeChecks.laidMetH_plain _ _ _ (by kernel_rfl)]; exact laidMet_laidAll _ (by kernel_rfl) (by kernel_rfl))) ?_
  intro W base args ds gs before hval hW _ _ _ hL hsh _
  exact contract H enc W base args ds gs before hval hW hL hsh

theorem said : Rows.FnExactSpeciesUsedSaid :=
  OpenClaim.holds_of_cond 4 Tryz.f4 rfl rfl rfl rfl rfl rfl rfl ⟨rfl, rfl, rfl, rfl, rfl⟩ rfl rfl rfl rfl rfl (by kernel_rfl) Tryz.func4 (by kernel_rfl)
    (of_decide_eq_true (by kernel_rfl)) (by unfold Func.isWrapper; first | (rw [if_pos (by decide +kernel)]; kernel_rfl) | (rw [if_neg (by decide +kernel)]; exact ⟨rfl, rfl⟩))
    (fun os started H enc _ F => by rw [OpenClaim.pre_eq_preRow]; exact lifted os started H enc F)

theorem plain (f : FuncId) (fn : Func) (hf : Tryz.pinned.checked.prog.funcNamed Rows.fnExactSpeciesUsedRow.func = some f) (hfn : Tryz.pinned.checked.prog.funcs[f]? = some fn) :
    Rows.fnExactSpeciesUsedCard.stood.looks = Tryz.pinned.checked.prog.looks [] ∧ ∀ (j : Nat) t, fn.params[j]? = some t → Tryz.pinned.checked.prog.wantsStandIn t = false := by
  obtain rfl : f = 4 := Option.some.inj ((show Tryz.prog.funcNamed Rows.fnExactSpeciesUsedRow.func = some 4 by kernel_rfl).symm.trans hf) |>.symm
  obtain rfl : fn = Tryz.f4 := (Option.some.inj (Tryz.func4.symm.trans hfn)).symm
  refine ⟨by kernel_rfl, fun j t ht => ?_⟩
  rw [Tryz.params4] at ht
  have hm : t ∈ [28] := by simpa using Array.mem_of_getElem? ht
  have hall : ([28].all fun u => !Tryz.prog.wantsStandIn u) = true := by kernel_rfl
  exact (show Tryz.prog.wantsStandIn t = false by simpa using List.all_eq_true.1 hall t hm)

theorem card : Rows.FnExactSpeciesUsedCardSaid :=
  Claim7.holds_tied_plain_at .later [] _ _ _ _ said (fun _ h => by cases h) (by kernel_rfl) (fun _ h => by cases h) fnExactSpeciesUsed_row_tie rfl ⟨rfl, rfl⟩ (by kernel_rfl) rfl plain (by kernel_rfl)
#print axioms card
end Go.Proofs.YtkmmhkhbpfkmcaaGreatDoor.fnExactSpeciesUsed
