/- The struct Picture in laws: what came in, sizes. -/
import Derived.Test.YtkmmhkhbpfkmcaaGreatDoorFlVeneer
import Derived.Test.YtkmmhkhbpfkmcaaGreatDoorK11
namespace Go.Proofs.YtkmmhkhbpfkmcaaGreatDoor
open Go.ChangeShapes Go.WideShapes Go.ChangeAt Go.RowKit Go.Joins Go.Deep
set_option linter.unusedVariables false
set_option linter.unusedSimpArgs false

structure Pc where
  dr : Drw
  vs : List Vn
theorem cLPc : Tryz.prog.cellsOf 28 = 5 := by kernel_rfl
theorem cSlVn : Tryz.prog.cellsOf 26 = 1 := by kernel_rfl
/-- One that came in, as a value and in memory. -/
structure PcL (w : World) (v : Value) (z : Pc) : Prop where
  out : ∃ (ao0 bo0 : Option Addr) (n0 c0 m0 d0 : Nat) (ao1 : Option Addr) (n1 c1 : Nat), v = .agg #[.int .i64 z.dr.wd, .int .i64 z.dr.hg, .slice ao0 n0 c0, .slice bo0 m0 d0, .slice ao1 n1 c1] ∧ DL w (.agg #[.int .i64 z.dr.wd, .int .i64 z.dr.hg, .slice ao0 n0 c0, .slice bo0 m0 d0]) z.dr ∧ n1 ≤ 9223372036854775807 ∧ VnL w ao1 n1 z.vs
theorem PcL.below {w w' : World} {v : Value} {z : Pc} (h : PcL w v z) (hb : Below w.heap.size w w') : PcL w' v z := by
  obtain ⟨ao0, bo0, n0, c0, m0, d0, ao1, n1, c1, h0, q0_0, q1_0, q1_1⟩ := h.out
  exact ⟨ao0, bo0, n0, c0, m0, d0, ao1, n1, c1, h0, q0_0.below hb, q1_0, q1_1.below hb⟩
section
set_option maxRecDepth 100000 in
/-- The four cells of a drawing. -/
theorem draw_cells {H : Type} {enc : TypeId × Value → H} {W : World} {base : Nat} {sp : Nat → Bool} {fuel : Nat} {cs : List Value} {x : DataW H × List MemPlace} (h : DataW.trod enc Tryz.prog W base sp true fuel 25 cs = some x) :
    ∃ (D : Drw) (ao : Option Addr) (n c : Nat) (bo : Option Addr) (m d : Nat), cs = [.int .i64 D.wd, .int .i64 D.hg, .slice ao n c, .slice bo m d] ∧ DL W (.agg #[.int .i64 D.wd, .int .i64 D.hg, .slice ao n c, .slice bo m d]) D := by
  obtain ⟨xs, m, _, hx, hl, hlen, hf⟩ := DataW.trod_struct Tryz.underlying25 h
  rw [cLD] at hl
  match cs, hl with
  | [c0, c1, c2, c3], _ =>
    match xs, hlen with
    | [y0, y1, y2, y3], _ =>
      have h0 := hf 0 _ rfl
      have h1 := hf 1 _ rfl
      have h2 := hf 2 _ rfl
      have h3 := hf 3 _ rfl
      change DataW.trod enc Tryz.prog W base sp true m 2 (([c0, c1, c2, c3].drop 0).take (Tryz.prog.cellsOf 2)) = _ at h0
      change DataW.trod enc Tryz.prog W base sp true m 2 (([c0, c1, c2, c3].drop 1).take (Tryz.prog.cellsOf 2)) = _ at h1
      change DataW.trod enc Tryz.prog W base sp true m 22 (([c0, c1, c2, c3].drop 2).take (Tryz.prog.cellsOf 22)) = _ at h2
      change DataW.trod enc Tryz.prog W base sp true m 23 (([c0, c1, c2, c3].drop 3).take (Tryz.prog.cellsOf 23)) = _ at h3
      rw [cI64] at h0 h1
      rw [cSP] at h2
      rw [cSF] at h3
      obtain ⟨a, e0, _, wa⟩ := DataW.trod_int Tryz.underlying2 h0
      obtain ⟨b, e1, _, wb⟩ := DataW.trod_int Tryz.underlying2 h1
      obtain ⟨ao, n, c, zs, e2, hn, hv⟩ := pts_open h2
      obtain ⟨bo, m', d', fs, e3, hm, hw⟩ := faces_open h3
      simp at e0 e1 e2 e3
      subst e0 e1 e2 e3
      exact ⟨⟨a, b, zs, fs⟩, ao, n, c, bo, m', d', rfl, ao, n, c, bo, m', d', rfl, wa, wb, hn, hm, hv, hw⟩
end
section
variable {H : Type} {enc : TypeId × Value → H} {W : World} {base : Nat} {sp : Nat → Bool}
set_option maxRecDepth 100000 in
theorem Pc_open {fuel : Nat} {cs : List Value} {x : DataW H × List MemPlace} (h : DataW.trod enc Tryz.prog W base sp true fuel 28 cs = some x) :
    ∃ (z : Pc) (ao0 bo0 : Option Addr) (n0 c0 m0 d0 : Nat) (ao1 : Option Addr) (n1 c1 : Nat), cs = [.int .i64 z.dr.wd, .int .i64 z.dr.hg, .slice ao0 n0 c0, .slice bo0 m0 d0, .slice ao1 n1 c1] ∧ DL W (.agg #[.int .i64 z.dr.wd, .int .i64 z.dr.hg, .slice ao0 n0 c0, .slice bo0 m0 d0]) z.dr ∧ n1 ≤ 9223372036854775807 ∧ VnL W ao1 n1 z.vs := by
  obtain ⟨xs, m, _, hx, hl, hlen, hf⟩ := DataW.trod_struct Tryz.underlying28 h
  rw [cLPc] at hl
  match cs, hl with
  | [c0_, c1_, c2_, c3_, c4_], _ =>
    match xs, hlen with
    | [y0, y1], _ =>
      have h0 := hf 0 _ rfl
      have h1 := hf 1 _ rfl
      change DataW.trod enc Tryz.prog W base sp true m 25 (([c0_, c1_, c2_, c3_, c4_].drop 0).take (Tryz.prog.cellsOf 25)) = some y0 at h0
      rw [cLD] at h0
      change DataW.trod enc Tryz.prog W base sp true m 26 (([c0_, c1_, c2_, c3_, c4_].drop 4).take (Tryz.prog.cellsOf 26)) = some y1 at h1
      rw [cSlVn] at h1
      obtain ⟨x0, ao0, n0, c0, bo0, m0, d0, e0, q0_0⟩ := draw_cells h0
      obtain ⟨ao1, n1, c1, x1, e1, q1_0, q1_1⟩ := Vns_open h1
      simp at e0
      obtain ⟨rfl, rfl, rfl, rfl⟩ := e0
      simp at e1
      subst e1
      exact ⟨⟨x0, x1⟩, ao0, bo0, n0, c0, m0, d0, ao1, n1, c1, rfl, q0_0, q1_0, q1_1⟩
end
set_option maxRecDepth 100000 in
theorem open_Pc {H : Type} {enc : TypeId × Value → H} {W : World} {base : Nat} {v : Value} {d : DataW H} {p : List MemPlace} (hval : Value.okWide Tryz.prog W .any base 28 v)
    (h : DataW.Trod enc Tryz.prog W 0 (fun _ => true) true 28 v d p) : ∃ z : Pc, PcL W v z := by
  obtain ⟨cs, rfl, hcs⟩ := okWide_struct Tryz.underlying28 hval
  obtain ⟨fuel, hf0⟩ := h
  obtain ⟨l, rfl⟩ : ∃ l : List Value, cs = l.toArray := ⟨cs.toList, by simp⟩
  obtain ⟨z, ao0, bo0, n0, c0, m0, d0, ao1, n1, c1, e, q0_0, q1_0, q1_1⟩ := Pc_open hf0
  have e' : l = [.int .i64 z.dr.wd, .int .i64 z.dr.hg, .slice ao0 n0 c0, .slice bo0 m0 d0, .slice ao1 n1 c1] := by simpa [Value.cells] using e
  subst e'
  exact ⟨z, ⟨ao0, bo0, n0, c0, m0, d0, ao1, n1, c1, rfl, q0_0, q1_0, q1_1⟩⟩
def PcSz (z : Pc) : Nat := dSz z.dr + VnSz z.vs
set_option maxRecDepth 100000 in
set_option maxHeartbeats 1000000 in
theorem szPc_any (v : Value) (z : Pc) (l : Int) (w : World) (h0 : 0 ≤ l) (hl : l ≤ 1048576) (hv : PcL w v z) :
    Calls Tryz.prog 8 #[v, .int .i64 l] w fun e w' => e = .returned (.int .i64 (lft l (PcSz z))) ∧ Below w.heap.size w w' := by
  obtain ⟨ao0, bo0, n0, c0, m0, d0, ao1, n1, c1, rfl, q0_0, q1_0, q1_1⟩ := hv.out
  have HF0_0 := Lib.hid q0_0
  have HF1_0 := Lib.hid q1_0
  have HF1_1 := Lib.hid q1_1
  clear hv q0_0 q1_0 q1_1
  have HDS := Lib.hid (show PcSz z = dSz z.dr + VnSz z.vs from rfl)
  have HA := Lib.hid (one_alloc (w := w) (.cells #[.int .i64 z.dr.wd, .int .i64 z.dr.hg, .slice ao0 n0 c0, .slice bo0 m0 d0, .slice ao1 n1 c1] 28))
  by_cases hq0 : ((dSz z.dr : Nat) : Int) ≤ l
  · have HQ0 := Lib.hid (lft_ok hq0)
    by_cases hq1 : ((VnSz z.vs : Nat) : Int) ≤ l - ((dSz z.dr : Nat) : Int)
    · have HQ1 := Lib.hid (lft_ok hq1)
      have HR := Lib.hid (show lft l (PcSz z) = l - ((dSz z.dr : Nat) : Int) - ((VnSz z.vs : Nat) : Int) by rw [lft_ok (by rw [HDS.out]; omega)]; rw [HDS.out]; omega)
      have dd0 : decide (l - ((dSz z.dr : Nat) : Int) < 0) = false := by simp; omega
      have dd1 : decide (l - ((dSz z.dr : Nat) : Int) - ((VnSz z.vs : Nat) : Int) < 0) = false := by simp; omega
      go_enter Tryz.func8, Tryz.ntmps8
      have HB0 := HA
      have HX0 := Lib.hid (World.alloc_heap_new w (.cells #[.int .i64 z.dr.wd, .int .i64 z.dr.hg, .slice ao0 n0 c0, .slice bo0 m0 d0, .slice ao1 n1 c1] 28))
      go_wp2_with fail
      refine (szDr_any _ z.dr l _ (by omega) (by omega) (HF0_0.out.below HB0.out)).mono ?_
      rintro e w1 ⟨rfl, g1⟩
      have HB1 := Lib.hid (bseq HB0.out g1)
      have HX1 := Lib.hid ((g1.block _ (blk_lt HX0.out)).trans HX0.out)
      clear g1
      have hz := blk_lt HX1.out
      have a_0 := (cell_of_arr HX1.out (j := 0) rfl).1
      have a_1 := (cell_of_arr HX1.out (j := 1) rfl).1
      have a_2 := (cell_of_arr HX1.out (j := 2) rfl).1
      have a_3 := (cell_of_arr HX1.out (j := 3) rfl).1
      have a_4 := (cell_of_arr HX1.out (j := 4) rfl).1
      rw [HQ0.out]
      go_wp2_with fail
      refine (szVns_any ao1 n1 c1 z.vs (l - ((dSz z.dr : Nat) : Int)) _ (by omega) (by omega) HF1_0.out (HF1_1.out.below HB1.out)).mono ?_
      rintro e w2 ⟨rfl, g2⟩
      have HB2 := Lib.hid (bseq HB1.out g2)
      have HX2 := Lib.hid ((g2.block _ (blk_lt HX1.out)).trans HX1.out)
      clear g2 hz a_0 a_1 a_2 a_3 a_4
      have hz := blk_lt HX2.out
      have a_0 := (cell_of_arr HX2.out (j := 0) rfl).1
      have a_1 := (cell_of_arr HX2.out (j := 1) rfl).1
      have a_2 := (cell_of_arr HX2.out (j := 2) rfl).1
      have a_3 := (cell_of_arr HX2.out (j := 3) rfl).1
      have a_4 := (cell_of_arr HX2.out (j := 4) rfl).1
      rw [HQ1.out]
      go_wp2
      go_ret
      exact ⟨ret_int HR.out.symm, HB2.out⟩
    · have HQ1 := Lib.hid (lft_no hq1)
      have HR := Lib.hid (show lft l (PcSz z) = -1 by refine lft_no ?_; rw [HDS.out]; omega)
      have dd0 : decide (l - ((dSz z.dr : Nat) : Int) < 0) = false := by simp; omega
      go_enter Tryz.func8, Tryz.ntmps8
      have HB0 := HA
      have HX0 := Lib.hid (World.alloc_heap_new w (.cells #[.int .i64 z.dr.wd, .int .i64 z.dr.hg, .slice ao0 n0 c0, .slice bo0 m0 d0, .slice ao1 n1 c1] 28))
      go_wp2_with fail
      refine (szDr_any _ z.dr l _ (by omega) (by omega) (HF0_0.out.below HB0.out)).mono ?_
      rintro e w1 ⟨rfl, g1⟩
      have HB1 := Lib.hid (bseq HB0.out g1)
      have HX1 := Lib.hid ((g1.block _ (blk_lt HX0.out)).trans HX0.out)
      clear g1
      have hz := blk_lt HX1.out
      have a_0 := (cell_of_arr HX1.out (j := 0) rfl).1
      have a_1 := (cell_of_arr HX1.out (j := 1) rfl).1
      have a_2 := (cell_of_arr HX1.out (j := 2) rfl).1
      have a_3 := (cell_of_arr HX1.out (j := 3) rfl).1
      have a_4 := (cell_of_arr HX1.out (j := 4) rfl).1
      rw [HQ0.out]
      go_wp2_with fail
      refine (szVns_any ao1 n1 c1 z.vs (l - ((dSz z.dr : Nat) : Int)) _ (by omega) (by omega) HF1_0.out (HF1_1.out.below HB1.out)).mono ?_
      rintro e w2 ⟨rfl, g2⟩
      have HB2 := Lib.hid (bseq HB1.out g2)
      have HX2 := Lib.hid ((g2.block _ (blk_lt HX1.out)).trans HX1.out)
      clear g2 hz a_0 a_1 a_2 a_3 a_4
      have hz := blk_lt HX2.out
      have a_0 := (cell_of_arr HX2.out (j := 0) rfl).1
      have a_1 := (cell_of_arr HX2.out (j := 1) rfl).1
      have a_2 := (cell_of_arr HX2.out (j := 2) rfl).1
      have a_3 := (cell_of_arr HX2.out (j := 3) rfl).1
      have a_4 := (cell_of_arr HX2.out (j := 4) rfl).1
      rw [HQ1.out]
      go_wp2
      go_ret
      exact ⟨ret_int HR.out.symm, HB2.out⟩
  · have HQ0 := Lib.hid (lft_no hq0)
    have HR := Lib.hid (show lft l (PcSz z) = -1 by refine lft_no ?_; rw [HDS.out]; omega)
    go_enter Tryz.func8, Tryz.ntmps8
    have HB0 := HA
    have HX0 := Lib.hid (World.alloc_heap_new w (.cells #[.int .i64 z.dr.wd, .int .i64 z.dr.hg, .slice ao0 n0 c0, .slice bo0 m0 d0, .slice ao1 n1 c1] 28))
    go_wp2_with fail
    refine (szDr_any _ z.dr l _ (by omega) (by omega) (HF0_0.out.below HB0.out)).mono ?_
    rintro e w1 ⟨rfl, g1⟩
    have HB1 := Lib.hid (bseq HB0.out g1)
    have HX1 := Lib.hid ((g1.block _ (blk_lt HX0.out)).trans HX0.out)
    clear g1
    have hz := blk_lt HX1.out
    have a_0 := (cell_of_arr HX1.out (j := 0) rfl).1
    have a_1 := (cell_of_arr HX1.out (j := 1) rfl).1
    have a_2 := (cell_of_arr HX1.out (j := 2) rfl).1
    have a_3 := (cell_of_arr HX1.out (j := 3) rfl).1
    have a_4 := (cell_of_arr HX1.out (j := 4) rfl).1
    rw [HQ0.out]
    go_wp2
    go_ret
    exact ⟨ret_int HR.out.symm, HB1.out⟩
end Go.Proofs.YtkmmhkhbpfkmcaaGreatDoor
