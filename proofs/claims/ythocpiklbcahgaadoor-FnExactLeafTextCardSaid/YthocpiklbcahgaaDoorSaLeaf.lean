/- The struct Leaf in laws: what came in, sizes. -/
import Derived.Test.YthocpiklbcahgaaDoorFlVeneer
import Derived.Test.YthocpiklbcahgaaDoorFlBox
import Derived.Test.YthocpiklbcahgaaDoorK11
namespace Go.Proofs.YthocpiklbcahgaaDoor
open Go.ChangeShapes Go.WideShapes Go.ChangeAt Go.RowKit Go.Joins Go.Deep
set_option linter.unusedVariables false
set_option linter.unusedSimpArgs false

structure Lf where
  id : ByteArray
  fl : ByteArray
  nu : Int
  ve : Vn
  wd : Int
  ln : Int
  df : List Bx
theorem cLLf : Tryd.prog.cellsOf 38 = 9 := by kernel_rfl
theorem cSlBx : Tryd.prog.cellsOf 36 = 1 := by kernel_rfl
/-- One that came in, as a value and in memory. -/
structure LfL (w : World) (v : Value) (z : Lf) : Prop where
  out : ∃ (ao6 : Option Addr) (n6 c6 : Nat), v = .agg #[.string z.id, .string z.fl, .int .i64 z.nu, .string z.ve.1, .int .i64 z.ve.2.1, .int .i64 z.ve.2.2, .int .i64 z.wd, .int .i64 z.ln, .slice ao6 n6 c6] ∧ z.id.size ≤ 9223372036854775807 ∧ z.fl.size ≤ 9223372036854775807 ∧ (Lit.int .i64 z.nu).wf = true ∧ z.ve.1.size ≤ 9223372036854775807 ∧ (Lit.int .i64 z.wd).wf = true ∧ (Lit.int .i64 z.ln).wf = true ∧ n6 ≤ 9223372036854775807 ∧ BxL w ao6 n6 z.df
theorem LfL.below {w w' : World} {v : Value} {z : Lf} (h : LfL w v z) (hb : Below w.heap.size w w') : LfL w' v z := by
  obtain ⟨ao6, n6, c6, h0, q0_0, q1_0, q2_0, q3_0, q4_0, q5_0, q6_0, q6_1⟩ := h.out
  exact ⟨ao6, n6, c6, h0, q0_0, q1_0, q2_0, q3_0, q4_0, q5_0, q6_0, q6_1.below hb⟩
section
variable {H : Type} {enc : TypeId × Value → H} {W : World} {base : Nat} {sp : Nat → Bool}
set_option maxRecDepth 100000 in
theorem Lf_open {fuel : Nat} {cs : List Value} {x : DataW H × List MemPlace} (h : DataW.trod enc Tryd.prog W base sp true fuel 38 cs = some x) :
    ∃ (z : Lf) (ao6 : Option Addr) (n6 c6 : Nat), cs = [.string z.id, .string z.fl, .int .i64 z.nu, .string z.ve.1, .int .i64 z.ve.2.1, .int .i64 z.ve.2.2, .int .i64 z.wd, .int .i64 z.ln, .slice ao6 n6 c6] ∧ z.id.size ≤ 9223372036854775807 ∧ z.fl.size ≤ 9223372036854775807 ∧ (Lit.int .i64 z.nu).wf = true ∧ z.ve.1.size ≤ 9223372036854775807 ∧ (Lit.int .i64 z.wd).wf = true ∧ (Lit.int .i64 z.ln).wf = true ∧ n6 ≤ 9223372036854775807 ∧ BxL W ao6 n6 z.df := by
  obtain ⟨xs, m, _, hx, hl, hlen, hf⟩ := DataW.trod_struct Tryd.underlying38 h
  rw [cLLf] at hl
  match cs, hl with
  | [c0_, c1_, c2_, c3_, c4_, c5_, c6_, c7_, c8_], _ =>
    match xs, hlen with
    | [y0, y1, y2, y3, y4, y5, y6], _ =>
      have h0 := hf 0 _ rfl
      have h1 := hf 1 _ rfl
      have h2 := hf 2 _ rfl
      have h3 := hf 3 _ rfl
      have h4 := hf 4 _ rfl
      have h5 := hf 5 _ rfl
      have h6 := hf 6 _ rfl
      change DataW.trod enc Tryd.prog W base sp true m 9 (([c0_, c1_, c2_, c3_, c4_, c5_, c6_, c7_, c8_].drop 0).take (Tryd.prog.cellsOf 9)) = some y0 at h0
      rw [cStr] at h0
      change DataW.trod enc Tryd.prog W base sp true m 9 (([c0_, c1_, c2_, c3_, c4_, c5_, c6_, c7_, c8_].drop 1).take (Tryd.prog.cellsOf 9)) = some y1 at h1
      rw [cStr] at h1
      change DataW.trod enc Tryd.prog W base sp true m 2 (([c0_, c1_, c2_, c3_, c4_, c5_, c6_, c7_, c8_].drop 2).take (Tryd.prog.cellsOf 2)) = some y2 at h2
      rw [cI64] at h2
      change DataW.trod enc Tryd.prog W base sp true m 35 (([c0_, c1_, c2_, c3_, c4_, c5_, c6_, c7_, c8_].drop 3).take (Tryd.prog.cellsOf 35)) = some y3 at h3
      rw [cVn] at h3
      change DataW.trod enc Tryd.prog W base sp true m 2 (([c0_, c1_, c2_, c3_, c4_, c5_, c6_, c7_, c8_].drop 6).take (Tryd.prog.cellsOf 2)) = some y4 at h4
      rw [cI64] at h4
      change DataW.trod enc Tryd.prog W base sp true m 2 (([c0_, c1_, c2_, c3_, c4_, c5_, c6_, c7_, c8_].drop 7).take (Tryd.prog.cellsOf 2)) = some y5 at h5
      rw [cI64] at h5
      change DataW.trod enc Tryd.prog W base sp true m 36 (([c0_, c1_, c2_, c3_, c4_, c5_, c6_, c7_, c8_].drop 8).take (Tryd.prog.cellsOf 36)) = some y6 at h6
      rw [cSlBx] at h6
      obtain ⟨x0, e0, _, q0_0⟩ := DataW.trod_string Tryd.underlying9 h0
      obtain ⟨x1, e1, _, q1_0⟩ := DataW.trod_string Tryd.underlying9 h1
      obtain ⟨x2, e2, _, q2_0⟩ := DataW.trod_int Tryd.underlying2 h2
      obtain ⟨x3, e3, q3_0⟩ := Vn_cells h3
      obtain ⟨x4, e4, _, q4_0⟩ := DataW.trod_int Tryd.underlying2 h4
      obtain ⟨x5, e5, _, q5_0⟩ := DataW.trod_int Tryd.underlying2 h5
      obtain ⟨ao6, n6, c6, x6, e6, q6_0, q6_1⟩ := Bxs_open h6
      simp at e0
      subst e0
      simp at e1
      subst e1
      simp at e2
      subst e2
      simp at e3
      obtain ⟨rfl, rfl, rfl⟩ := e3
      simp at e4
      subst e4
      simp at e5
      subst e5
      simp at e6
      subst e6
      exact ⟨⟨x0, x1, x2, x3, x4, x5, x6⟩, ao6, n6, c6, rfl, q0_0, q1_0, q2_0, q3_0, q4_0, q5_0, q6_0, q6_1⟩
end
set_option maxRecDepth 100000 in
theorem open_Lf {H : Type} {enc : TypeId × Value → H} {W : World} {base : Nat} {v : Value} {d : DataW H} {p : List MemPlace} (hval : Value.okWide Tryd.prog W .any base 38 v)
    (h : DataW.Trod enc Tryd.prog W 0 (fun _ => true) true 38 v d p) : ∃ z : Lf, LfL W v z := by
  obtain ⟨cs, rfl, hcs⟩ := okWide_struct Tryd.underlying38 hval
  obtain ⟨fuel, hf0⟩ := h
  obtain ⟨l, rfl⟩ : ∃ l : List Value, cs = l.toArray := ⟨cs.toList, by simp⟩
  obtain ⟨z, ao6, n6, c6, e, q0_0, q1_0, q2_0, q3_0, q4_0, q5_0, q6_0, q6_1⟩ := Lf_open hf0
  have e' : l = [.string z.id, .string z.fl, .int .i64 z.nu, .string z.ve.1, .int .i64 z.ve.2.1, .int .i64 z.ve.2.2, .int .i64 z.wd, .int .i64 z.ln, .slice ao6 n6 c6] := by simpa [Value.cells] using e
  subst e'
  exact ⟨z, ⟨ao6, n6, c6, rfl, q0_0, q1_0, q2_0, q3_0, q4_0, q5_0, q6_0, q6_1⟩⟩
def LfSz (z : Lf) : Nat := z.id.size + z.fl.size + z.ve.1.size + BxSz z.df
set_option maxRecDepth 100000 in
set_option maxHeartbeats 1000000 in
theorem szLf_any (v : Value) (z : Lf) (l : Int) (w : World) (h0 : 0 ≤ l) (hl : l ≤ 1048576) (hv : LfL w v z) :
    Calls Tryd.prog 21 #[v, .int .i64 l] w fun e w' => e = .returned (.int .i64 (lft l (LfSz z))) ∧ Below w.heap.size w w' := by
  obtain ⟨ao6, n6, c6, rfl, q0_0, q1_0, q2_0, q3_0, q4_0, q5_0, q6_0, q6_1⟩ := hv.out
  have HF0_0 := Lib.hid q0_0
  have HF1_0 := Lib.hid q1_0
  have HF3_0 := Lib.hid q3_0
  have HF6_0 := Lib.hid q6_0
  have HF6_1 := Lib.hid q6_1
  clear hv q3_0 q6_0 q6_1
  have HDS := Lib.hid (show LfSz z = z.id.size + z.fl.size + z.ve.1.size + BxSz z.df from rfl)
  have HA := Lib.hid (one_alloc (w := w) (.cells #[.string z.id, .string z.fl, .int .i64 z.nu, .string z.ve.1, .int .i64 z.ve.2.1, .int .i64 z.ve.2.2, .int .i64 z.wd, .int .i64 z.ln, .slice ao6 n6 c6] 38))
  by_cases hq0 : ((z.id.size : Nat) : Int) ≤ l
  · have HQ0 := Lib.hid (lft_ok hq0)
    by_cases hq1 : ((z.fl.size : Nat) : Int) ≤ l - ((z.id.size : Nat) : Int)
    · have HQ1 := Lib.hid (lft_ok hq1)
      by_cases hq2 : ((z.ve.1.size : Nat) : Int) ≤ l - ((z.id.size : Nat) : Int) - ((z.fl.size : Nat) : Int)
      · have HQ2 := Lib.hid (lft_ok hq2)
        by_cases hq3 : ((BxSz z.df : Nat) : Int) ≤ l - ((z.id.size : Nat) : Int) - ((z.fl.size : Nat) : Int) - ((z.ve.1.size : Nat) : Int)
        · have HQ3 := Lib.hid (lft_ok hq3)
          have HR := Lib.hid (show lft l (LfSz z) = l - ((z.id.size : Nat) : Int) - ((z.fl.size : Nat) : Int) - ((z.ve.1.size : Nat) : Int) - ((BxSz z.df : Nat) : Int) by rw [lft_ok (by rw [HDS.out]; omega)]; rw [HDS.out]; omega)
          have dd0 : decide (l - ((z.id.size : Nat) : Int) < 0) = false := by simp; omega
          have ii0 : IntKind.i64.wrap (l - ((z.id.size : Nat) : Int)) = l - ((z.id.size : Nat) : Int) := IntWalk.i64_in _ (by omega)
          have dd1 : decide (l - ((z.id.size : Nat) : Int) - ((z.fl.size : Nat) : Int) < 0) = false := by simp; omega
          have ii1 : IntKind.i64.wrap (l - ((z.id.size : Nat) : Int) - ((z.fl.size : Nat) : Int)) = l - ((z.id.size : Nat) : Int) - ((z.fl.size : Nat) : Int) := IntWalk.i64_in _ (by omega)
          have dd2 : decide (l - ((z.id.size : Nat) : Int) - ((z.fl.size : Nat) : Int) - ((z.ve.1.size : Nat) : Int) < 0) = false := by simp; omega
          have dd3 : decide (l - ((z.id.size : Nat) : Int) - ((z.fl.size : Nat) : Int) - ((z.ve.1.size : Nat) : Int) - ((BxSz z.df : Nat) : Int) < 0) = false := by simp; omega
          go_enter Tryd.func21, Tryd.ntmps21
          have HB0 := HA
          have HX0 := Lib.hid (World.alloc_heap_new w (.cells #[.string z.id, .string z.fl, .int .i64 z.nu, .string z.ve.1, .int .i64 z.ve.2.1, .int .i64 z.ve.2.2, .int .i64 z.wd, .int .i64 z.ln, .slice ao6 n6 c6] 38))
          go_wp2_with fail
          refine (szVn_any (z.ve.1) (z.ve.2.1) (z.ve.2.2) (l - ((z.id.size : Nat) : Int) - ((z.fl.size : Nat) : Int)) _ (by omega) (by omega) HF3_0.out).mono ?_
          rintro e w1 ⟨rfl, g1⟩
          have HB1 := Lib.hid (bseq HB0.out g1)
          have HX1 := Lib.hid ((g1.block _ (blk_lt HX0.out)).trans HX0.out)
          clear g1
          have hz := blk_lt HX1.out
          have a_0 := (cell_of_arr HX1.out (j := 0) rfl).1
          have a_1 := (cell_of_arr HX1.out (j := 1) rfl).1
          have a_2 := (cell_of_arr HX1.out (j := 2) rfl).1
          have a_3 := (cell_of_arr HX1.out (j := 3) rfl).1
          have a_4 := (cell_of_arr HX1.out (j := 4) rfl).1
          have a_5 := (cell_of_arr HX1.out (j := 5) rfl).1
          have a_6 := (cell_of_arr HX1.out (j := 6) rfl).1
          have a_7 := (cell_of_arr HX1.out (j := 7) rfl).1
          have a_8 := (cell_of_arr HX1.out (j := 8) rfl).1
          rw [HQ2.out]
          go_wp2_with fail
          refine (szBxs_any ao6 n6 c6 z.df (l - ((z.id.size : Nat) : Int) - ((z.fl.size : Nat) : Int) - ((z.ve.1.size : Nat) : Int)) _ (by omega) (by omega) HF6_0.out (HF6_1.out.below HB1.out)).mono ?_
          rintro e w2 ⟨rfl, g2⟩
          have HB2 := Lib.hid (bseq HB1.out g2)
          have HX2 := Lib.hid ((g2.block _ (blk_lt HX1.out)).trans HX1.out)
          clear g2 hz a_0 a_1 a_2 a_3 a_4 a_5 a_6 a_7 a_8
          have hz := blk_lt HX2.out
          have a_0 := (cell_of_arr HX2.out (j := 0) rfl).1
          have a_1 := (cell_of_arr HX2.out (j := 1) rfl).1
          have a_2 := (cell_of_arr HX2.out (j := 2) rfl).1
          have a_3 := (cell_of_arr HX2.out (j := 3) rfl).1
          have a_4 := (cell_of_arr HX2.out (j := 4) rfl).1
          have a_5 := (cell_of_arr HX2.out (j := 5) rfl).1
          have a_6 := (cell_of_arr HX2.out (j := 6) rfl).1
          have a_7 := (cell_of_arr HX2.out (j := 7) rfl).1
          have a_8 := (cell_of_arr HX2.out (j := 8) rfl).1
          rw [HQ3.out]
          go_wp2
          go_ret
          exact ⟨ret_int HR.out.symm, HB2.out⟩
        · have HQ3 := Lib.hid (lft_no hq3)
          have HR := Lib.hid (show lft l (LfSz z) = -1 by refine lft_no ?_; rw [HDS.out]; omega)
          have dd0 : decide (l - ((z.id.size : Nat) : Int) < 0) = false := by simp; omega
          have ii0 : IntKind.i64.wrap (l - ((z.id.size : Nat) : Int)) = l - ((z.id.size : Nat) : Int) := IntWalk.i64_in _ (by omega)
          have dd1 : decide (l - ((z.id.size : Nat) : Int) - ((z.fl.size : Nat) : Int) < 0) = false := by simp; omega
          have ii1 : IntKind.i64.wrap (l - ((z.id.size : Nat) : Int) - ((z.fl.size : Nat) : Int)) = l - ((z.id.size : Nat) : Int) - ((z.fl.size : Nat) : Int) := IntWalk.i64_in _ (by omega)
          have dd2 : decide (l - ((z.id.size : Nat) : Int) - ((z.fl.size : Nat) : Int) - ((z.ve.1.size : Nat) : Int) < 0) = false := by simp; omega
          go_enter Tryd.func21, Tryd.ntmps21
          have HB0 := HA
          have HX0 := Lib.hid (World.alloc_heap_new w (.cells #[.string z.id, .string z.fl, .int .i64 z.nu, .string z.ve.1, .int .i64 z.ve.2.1, .int .i64 z.ve.2.2, .int .i64 z.wd, .int .i64 z.ln, .slice ao6 n6 c6] 38))
          go_wp2_with fail
          refine (szVn_any (z.ve.1) (z.ve.2.1) (z.ve.2.2) (l - ((z.id.size : Nat) : Int) - ((z.fl.size : Nat) : Int)) _ (by omega) (by omega) HF3_0.out).mono ?_
          rintro e w1 ⟨rfl, g1⟩
          have HB1 := Lib.hid (bseq HB0.out g1)
          have HX1 := Lib.hid ((g1.block _ (blk_lt HX0.out)).trans HX0.out)
          clear g1
          have hz := blk_lt HX1.out
          have a_0 := (cell_of_arr HX1.out (j := 0) rfl).1
          have a_1 := (cell_of_arr HX1.out (j := 1) rfl).1
          have a_2 := (cell_of_arr HX1.out (j := 2) rfl).1
          have a_3 := (cell_of_arr HX1.out (j := 3) rfl).1
          have a_4 := (cell_of_arr HX1.out (j := 4) rfl).1
          have a_5 := (cell_of_arr HX1.out (j := 5) rfl).1
          have a_6 := (cell_of_arr HX1.out (j := 6) rfl).1
          have a_7 := (cell_of_arr HX1.out (j := 7) rfl).1
          have a_8 := (cell_of_arr HX1.out (j := 8) rfl).1
          rw [HQ2.out]
          go_wp2_with fail
          refine (szBxs_any ao6 n6 c6 z.df (l - ((z.id.size : Nat) : Int) - ((z.fl.size : Nat) : Int) - ((z.ve.1.size : Nat) : Int)) _ (by omega) (by omega) HF6_0.out (HF6_1.out.below HB1.out)).mono ?_
          rintro e w2 ⟨rfl, g2⟩
          have HB2 := Lib.hid (bseq HB1.out g2)
          have HX2 := Lib.hid ((g2.block _ (blk_lt HX1.out)).trans HX1.out)
          clear g2 hz a_0 a_1 a_2 a_3 a_4 a_5 a_6 a_7 a_8
          have hz := blk_lt HX2.out
          have a_0 := (cell_of_arr HX2.out (j := 0) rfl).1
          have a_1 := (cell_of_arr HX2.out (j := 1) rfl).1
          have a_2 := (cell_of_arr HX2.out (j := 2) rfl).1
          have a_3 := (cell_of_arr HX2.out (j := 3) rfl).1
          have a_4 := (cell_of_arr HX2.out (j := 4) rfl).1
          have a_5 := (cell_of_arr HX2.out (j := 5) rfl).1
          have a_6 := (cell_of_arr HX2.out (j := 6) rfl).1
          have a_7 := (cell_of_arr HX2.out (j := 7) rfl).1
          have a_8 := (cell_of_arr HX2.out (j := 8) rfl).1
          rw [HQ3.out]
          go_wp2
          go_ret
          exact ⟨ret_int HR.out.symm, HB2.out⟩
      · have HQ2 := Lib.hid (lft_no hq2)
        have HR := Lib.hid (show lft l (LfSz z) = -1 by refine lft_no ?_; rw [HDS.out]; omega)
        have dd0 : decide (l - ((z.id.size : Nat) : Int) < 0) = false := by simp; omega
        have ii0 : IntKind.i64.wrap (l - ((z.id.size : Nat) : Int)) = l - ((z.id.size : Nat) : Int) := IntWalk.i64_in _ (by omega)
        have dd1 : decide (l - ((z.id.size : Nat) : Int) - ((z.fl.size : Nat) : Int) < 0) = false := by simp; omega
        have ii1 : IntKind.i64.wrap (l - ((z.id.size : Nat) : Int) - ((z.fl.size : Nat) : Int)) = l - ((z.id.size : Nat) : Int) - ((z.fl.size : Nat) : Int) := IntWalk.i64_in _ (by omega)
        go_enter Tryd.func21, Tryd.ntmps21
        have HB0 := HA
        have HX0 := Lib.hid (World.alloc_heap_new w (.cells #[.string z.id, .string z.fl, .int .i64 z.nu, .string z.ve.1, .int .i64 z.ve.2.1, .int .i64 z.ve.2.2, .int .i64 z.wd, .int .i64 z.ln, .slice ao6 n6 c6] 38))
        go_wp2_with fail
        refine (szVn_any (z.ve.1) (z.ve.2.1) (z.ve.2.2) (l - ((z.id.size : Nat) : Int) - ((z.fl.size : Nat) : Int)) _ (by omega) (by omega) HF3_0.out).mono ?_
        rintro e w1 ⟨rfl, g1⟩
        have HB1 := Lib.hid (bseq HB0.out g1)
        have HX1 := Lib.hid ((g1.block _ (blk_lt HX0.out)).trans HX0.out)
        clear g1
        have hz := blk_lt HX1.out
        have a_0 := (cell_of_arr HX1.out (j := 0) rfl).1
        have a_1 := (cell_of_arr HX1.out (j := 1) rfl).1
        have a_2 := (cell_of_arr HX1.out (j := 2) rfl).1
        have a_3 := (cell_of_arr HX1.out (j := 3) rfl).1
        have a_4 := (cell_of_arr HX1.out (j := 4) rfl).1
        have a_5 := (cell_of_arr HX1.out (j := 5) rfl).1
        have a_6 := (cell_of_arr HX1.out (j := 6) rfl).1
        have a_7 := (cell_of_arr HX1.out (j := 7) rfl).1
        have a_8 := (cell_of_arr HX1.out (j := 8) rfl).1
        rw [HQ2.out]
        go_wp2
        go_ret
        exact ⟨ret_int HR.out.symm, HB1.out⟩
    · have HQ1 := Lib.hid (lft_no hq1)
      have HR := Lib.hid (show lft l (LfSz z) = -1 by refine lft_no ?_; rw [HDS.out]; omega)
      have dd0 : decide (l - ((z.id.size : Nat) : Int) < 0) = false := by simp; omega
      have ii0 : IntKind.i64.wrap (l - ((z.id.size : Nat) : Int)) = l - ((z.id.size : Nat) : Int) := IntWalk.i64_in _ (by omega)
      have dd1 : decide (l - ((z.id.size : Nat) : Int) - ((z.fl.size : Nat) : Int) < 0) = true := by simp; omega
      have ii1 : IntKind.i64.wrap (l - ((z.id.size : Nat) : Int) - ((z.fl.size : Nat) : Int)) = l - ((z.id.size : Nat) : Int) - ((z.fl.size : Nat) : Int) := IntWalk.i64_in _ (by omega)
      go_enter Tryd.func21, Tryd.ntmps21
      have HB0 := HA
      have HX0 := Lib.hid (World.alloc_heap_new w (.cells #[.string z.id, .string z.fl, .int .i64 z.nu, .string z.ve.1, .int .i64 z.ve.2.1, .int .i64 z.ve.2.2, .int .i64 z.wd, .int .i64 z.ln, .slice ao6 n6 c6] 38))
      go_wp2
      go_ret
      exact ⟨ret_int HR.out.symm, HB0.out⟩
  · have HQ0 := Lib.hid (lft_no hq0)
    have HR := Lib.hid (show lft l (LfSz z) = -1 by refine lft_no ?_; rw [HDS.out]; omega)
    have dd0 : decide (l - ((z.id.size : Nat) : Int) < 0) = true := by simp; omega
    have ii0 : IntKind.i64.wrap (l - ((z.id.size : Nat) : Int)) = l - ((z.id.size : Nat) : Int) := IntWalk.i64_in _ (by omega)
    go_enter Tryd.func21, Tryd.ntmps21
    have HB0 := HA
    have HX0 := Lib.hid (World.alloc_heap_new w (.cells #[.string z.id, .string z.fl, .int .i64 z.nu, .string z.ve.1, .int .i64 z.ve.2.1, .int .i64 z.ve.2.2, .int .i64 z.wd, .int .i64 z.ln, .slice ao6 n6 c6] 38))
    go_wp2
    go_ret
    exact ⟨ret_int HR.out.symm, HB0.out⟩
end Go.Proofs.YthocpiklbcahgaaDoor
