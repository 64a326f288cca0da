/- The struct Picture in laws: marks in a copy. -/
import Derived.Test.YtkmmhkhbpfkmcaaGreatDoorSbPicture
import Derived.Test.YtkmmhkhbpfkmcaaGreatDoorFmVeneer
namespace Go.Proofs.YtkmmhkhbpfkmcaaGreatDoor
open Go.ChangeShapes Go.WideShapes Go.ChangeAt Go.RowKit
set_option linter.unusedVariables false
set_option linter.unusedSimpArgs false

/-- A copy that can be written. -/
structure PcX (lo hi : Nat) (w : World) (v : Value) (z : Pc) : Prop where
  out : ∃ (op0 ob0 oh0 : Nat) (og1 oh1 : Nat), v = .agg #[.int .i64 z.dr.wd, .int .i64 z.dr.hg, .slice (some ⟨op0, 0, none⟩) z.dr.ps.length z.dr.ps.length, .slice (some ⟨ob0, 0, none⟩) z.dr.fs.length z.dr.fs.length, .slice (some ⟨og1, 0, none⟩) z.vs.length z.vs.length] ∧ PcSz z ≤ 1048576 ∧ oh1 ≤ hi ∧ DX lo oh0 w (.agg #[.int .i64 z.dr.wd, .int .i64 z.dr.hg, .slice (some ⟨op0, 0, none⟩) z.dr.ps.length z.dr.ps.length, .slice (some ⟨ob0, 0, none⟩) z.dr.fs.length z.dr.fs.length]) z.dr ∧ oh0 ≤ w.heap.size ∧ oh0 ≤ og1 ∧ og1 < oh1 ∧ oh1 ≤ w.heap.size ∧ w.rowIs og1 54 (z.vs.length * 3) (VnF z.vs z.vs.length)
theorem PcX.of {lo : Nat} {w : World} {v : Value} {z : Pc} (h : PcO lo w v z) : PcX lo w.heap.size w v z := by
  obtain ⟨op0, ob0, oh0, og1, oh1, h0, hs, o0_0, o0_1, o0_2, o1_0, o1_1, o1_2, o1_3⟩ := h.out
  exact ⟨op0, ob0, oh0, og1, oh1, h0, hs, o1_2, o0_1, o0_2, o1_0, o1_1, o1_2, o1_3⟩
theorem PcX.below {lo hi : Nat} {w w' : World} {v : Value} {z : Pc} (h : PcX lo hi w v z) (hb : Below w.heap.size w w') : PcX lo hi w' v z := by
  obtain ⟨op0, ob0, oh0, og1, oh1, h0, hs, hh, x0_0, x0_1, x1_0, x1_1, x1_2, x1_3⟩ := h.out
  exact ⟨op0, ob0, oh0, og1, oh1, h0, hs, hh, x0_0.below hb, Nat.le_trans x0_1 hb.size, x1_0, x1_1, Nat.le_trans x1_2 hb.size, rowIs_below x1_3 hb⟩
set_option maxRecDepth 100000 in
set_option maxHeartbeats 4000000 in
theorem markPc_any (lo hi : Nat) (v : Value) (z : Pc) (w : World) (h : PcX lo hi w v z) :
    Calls Tryz.prog 16 #[v, .int .i64 1] w fun e w' => ∃ k : Nat, e = .returned (.int .i64 (k : Int)) ∧ (1 ≤ k ∧ k ≤ 100000000) ∧ Btw lo hi w w' := by
  obtain ⟨op0, ob0, oh0, og1, oh1, rfl, hs, hh, x0_0, x0_1, x1_0, x1_1, x1_2, x1_3⟩ := h.out
  have HB0 := Lib.hid (one_alloc (w := w) (.cells #[.int .i64 z.dr.wd, .int .i64 z.dr.hg, .slice (some ⟨op0, 0, none⟩) z.dr.ps.length z.dr.ps.length, .slice (some ⟨ob0, 0, none⟩) z.dr.fs.length z.dr.fs.length, .slice (some ⟨og1, 0, none⟩) z.vs.length z.vs.length] 37))
  have HX := Lib.hid (World.alloc_heap_new w (.cells #[.int .i64 z.dr.wd, .int .i64 z.dr.hg, .slice (some ⟨op0, 0, none⟩) z.dr.ps.length z.dr.ps.length, .slice (some ⟨ob0, 0, none⟩) z.dr.fs.length z.dr.fs.length, .slice (some ⟨og1, 0, none⟩) z.vs.length z.vs.length] 37))
  have HT := Lib.hid (Btw.of_below (lo := lo) (hi := hi) (HB0.out))
  have HS := Lib.hid hs
  have HF0 := Lib.hid (x0_0.below HB0.out)
  have bl0 : lo ≤ oh0 := by
    obtain ⟨_, _, _, _, _, _, hf⟩ := x0_0.out
    have := hf.ge
    have := hf.lt
    omega
  have hn0 : dSz z.dr ≤ 1048576 := by unfold PcSz at hs; omega
  have HF1 := Lib.hid (Lay.row (rowIs_below x1_3 HB0.out))
  have hn1 : z.vs.length ≤ 1048576 := by unfold PcSz at hs; unfold VnSz at hs; omega
  have b0_1 := x0_1
  have b1_0 := x1_0
  have b1_1 := x1_1
  have b1_2 := x1_2
  clear h hs x0_0 x0_1 x1_0 x1_1 x1_2 x1_3
  go_enter Tryz.func16, Tryz.ntmps16
  go_wp2_with fail
  refine (markDr_any _ _ _ z.dr _ HF0.out).mono ?_
  rintro e w1 ⟨k1, rfl, hk1, g1⟩
  have G1 := Lib.hid (g1.wide (lo' := lo) (hi' := hi) (by omega) (by omega))
  replace HX := Lib.hid ((g1.block _ (blk_lt HX.out) (by omega)).trans HX.out)
  replace HF1 := Lib.hid (HF1.out.btw g1 (by omega))
  replace HT := Lib.hid (HT.out.trans G1.out)
  clear g1 G1
  have hz := blk_lt HX.out
  have a_0 := (cell_of_arr HX.out (j := 0) rfl).1
  have a_1 := (cell_of_arr HX.out (j := 1) rfl).1
  have a_2 := (cell_of_arr HX.out (j := 2) rfl).1
  have a_3 := (cell_of_arr HX.out (j := 3) rfl).1
  have a_4 := (cell_of_arr HX.out (j := 4) rfl).1
  go_wp2_with fail
  refine (markVns_lay og1 _ _ k1 _ (Nat.le_refl _) hn1 (by omega) (by omega) HF1.out).mono ?_
  rintro e w2 ⟨rfl, _, g2⟩
  obtain ⟨k2, hkk2⟩ : ∃ k, k1 + z.vs.length * 3 = k := ⟨_, rfl⟩
  rw [hkk2]
  have hk2 : 1 ≤ k2 ∧ k2 ≤ 10000000 := by omega
  have G2 := Lib.hid (g2.wide (lo' := lo) (hi' := hi) (by omega) (by omega))
  clear hz a_0 a_1 a_2 a_3 a_4
  replace HX := Lib.hid ((g2.block _ (blk_lt HX.out) (by omega)).trans HX.out)
  replace HT := Lib.hid (HT.out.trans G2.out)
  clear g2 G2
  have hz := blk_lt HX.out
  have a_0 := (cell_of_arr HX.out (j := 0) rfl).1
  have a_1 := (cell_of_arr HX.out (j := 1) rfl).1
  have a_2 := (cell_of_arr HX.out (j := 2) rfl).1
  have a_3 := (cell_of_arr HX.out (j := 3) rfl).1
  have a_4 := (cell_of_arr HX.out (j := 4) rfl).1
  go_wp2
  go_ret
  exact ⟨k2, rfl, by omega, HT.out⟩
end Go.Proofs.YtkmmhkhbpfkmcaaGreatDoor
