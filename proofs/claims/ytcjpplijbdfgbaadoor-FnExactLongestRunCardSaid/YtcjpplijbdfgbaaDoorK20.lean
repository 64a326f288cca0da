/- Several texts in one: SaLeaf, SbLeaf, ScLeaf, SlLeaf, SmLeaf. -/
import Derived.Test.YtcjpplijbdfgbaaDoorFlVeneer
import Derived.Test.YtcjpplijbdfgbaaDoorFlBox
import Derived.Test.YtcjpplijbdfgbaaDoorK11
import Derived.Test.YtcjpplijbdfgbaaDoorLay
import Derived.Test.YtcjpplijbdfgbaaDoorFmBox
import Derived.Test.YtcjpplijbdfgbaaDoorAtV
namespace Go.Proofs.YtcjpplijbdfgbaaDoor
open Go.ChangeShapes Go.WideShapes Go.ChangeAt Go.RowKit Go.Joins Go.Deep
set_option linter.unusedVariables false
set_option linter.unusedSimpArgs false

structure Lf where
  id : ByteArray
  fl : ByteArray
  nu : Int
  ve : Vn
  wd : Int
  ln : Int
  df : List Bx
theorem cLLf : Tryd.prog.cellsOf 26 = 9 := by kernel_rfl
theorem cSlBx : Tryd.prog.cellsOf 24 = 1 := by kernel_rfl
/-- One that came in, as a value and in memory. -/
structure LfL (w : World) (v : Value) (z : Lf) : Prop where
  out : ∃ (ao6 : Option Addr) (n6 c6 : Nat), v = .agg #[.string z.id, .string z.fl, .int .i64 z.nu, .string z.ve.1, .int .i64 z.ve.2.1, .int .i64 z.ve.2.2, .int .i64 z.wd, .int .i64 z.ln, .slice ao6 n6 c6] ∧ z.id.size ≤ 9223372036854775807 ∧ z.fl.size ≤ 9223372036854775807 ∧ (Lit.int .i64 z.nu).wf = true ∧ z.ve.1.size ≤ 9223372036854775807 ∧ (Lit.int .i64 z.wd).wf = true ∧ (Lit.int .i64 z.ln).wf = true ∧ n6 ≤ 9223372036854775807 ∧ BxL w ao6 n6 z.df
theorem LfL.below {w w' : World} {v : Value} {z : Lf} (h : LfL w v z) (hb : Below w.heap.size w w') : LfL w' v z := by
  obtain ⟨ao6, n6, c6, h0, q0_0, q1_0, q2_0, q3_0, q4_0, q5_0, q6_0, q6_1⟩ := h.out
  exact ⟨ao6, n6, c6, h0, q0_0, q1_0, q2_0, q3_0, q4_0, q5_0, q6_0, q6_1.below hb⟩
section
variable {H : Type} {enc : TypeId × Value → H} {W : World} {base : Nat} {sp : Nat → Bool}
set_option maxRecDepth 100000 in
theorem Lf_open {fuel : Nat} {cs : List Value} {x : DataW H × List MemPlace} (h : DataW.trod enc Tryd.prog W base sp true fuel 26 cs = some x) :
    ∃ (z : Lf) (ao6 : Option Addr) (n6 c6 : Nat), cs = [.string z.id, .string z.fl, .int .i64 z.nu, .string z.ve.1, .int .i64 z.ve.2.1, .int .i64 z.ve.2.2, .int .i64 z.wd, .int .i64 z.ln, .slice ao6 n6 c6] ∧ z.id.size ≤ 9223372036854775807 ∧ z.fl.size ≤ 9223372036854775807 ∧ (Lit.int .i64 z.nu).wf = true ∧ z.ve.1.size ≤ 9223372036854775807 ∧ (Lit.int .i64 z.wd).wf = true ∧ (Lit.int .i64 z.ln).wf = true ∧ n6 ≤ 9223372036854775807 ∧ BxL W ao6 n6 z.df := by
  obtain ⟨xs, m, _, hx, hl, hlen, hf⟩ := DataW.trod_struct Tryd.underlying26 h
  rw [cLLf] at hl
  match cs, hl with
  | [c0_, c1_, c2_, c3_, c4_, c5_, c6_, c7_, c8_], _ =>
    match xs, hlen with
    | [y0, y1, y2, y3, y4, y5, y6], _ =>
      have h0 := hf 0 _ rfl
      have h1 := hf 1 _ rfl
      have h2 := hf 2 _ rfl
      have h3 := hf 3 _ rfl
      have h4 := hf 4 _ rfl
      have h5 := hf 5 _ rfl
      have h6 := hf 6 _ rfl
      change DataW.trod enc Tryd.prog W base sp true m 9 (([c0_, c1_, c2_, c3_, c4_, c5_, c6_, c7_, c8_].drop 0).take (Tryd.prog.cellsOf 9)) = some y0 at h0
      rw [cStr] at h0
      change DataW.trod enc Tryd.prog W base sp true m 9 (([c0_, c1_, c2_, c3_, c4_, c5_, c6_, c7_, c8_].drop 1).take (Tryd.prog.cellsOf 9)) = some y1 at h1
      rw [cStr] at h1
      change DataW.trod enc Tryd.prog W base sp true m 2 (([c0_, c1_, c2_, c3_, c4_, c5_, c6_, c7_, c8_].drop 2).take (Tryd.prog.cellsOf 2)) = some y2 at h2
      rw [cI64] at h2
      change DataW.trod enc Tryd.prog W base sp true m 23 (([c0_, c1_, c2_, c3_, c4_, c5_, c6_, c7_, c8_].drop 3).take (Tryd.prog.cellsOf 23)) = some y3 at h3
      rw [cVn] at h3
      change DataW.trod enc Tryd.prog W base sp true m 2 (([c0_, c1_, c2_, c3_, c4_, c5_, c6_, c7_, c8_].drop 6).take (Tryd.prog.cellsOf 2)) = some y4 at h4
      rw [cI64] at h4
      change DataW.trod enc Tryd.prog W base sp true m 2 (([c0_, c1_, c2_, c3_, c4_, c5_, c6_, c7_, c8_].drop 7).take (Tryd.prog.cellsOf 2)) = some y5 at h5
      rw [cI64] at h5
      change DataW.trod enc Tryd.prog W base sp true m 24 (([c0_, c1_, c2_, c3_, c4_, c5_, c6_, c7_, c8_].drop 8).take (Tryd.prog.cellsOf 24)) = some y6 at h6
      rw [cSlBx] at h6
      obtain ⟨x0, e0, _, q0_0⟩ := DataW.trod_string Tryd.underlying9 h0
      obtain ⟨x1, e1, _, q1_0⟩ := DataW.trod_string Tryd.underlying9 h1
      obtain ⟨x2, e2, _, q2_0⟩ := DataW.trod_int Tryd.underlying2 h2
      obtain ⟨x3, e3, q3_0⟩ := Vn_cells h3
      obtain ⟨x4, e4, _, q4_0⟩ := DataW.trod_int Tryd.underlying2 h4
      obtain ⟨x5, e5, _, q5_0⟩ := DataW.trod_int Tryd.underlying2 h5
      obtain ⟨ao6, n6, c6, x6, e6, q6_0, q6_1⟩ := Bxs_open h6
      simp at e0
      subst e0
      simp at e1
      subst e1
      simp at e2
      subst e2
      simp at e3
      obtain ⟨rfl, rfl, rfl⟩ := e3
      simp at e4
      subst e4
      simp at e5
      subst e5
      simp at e6
      subst e6
      exact ⟨⟨x0, x1, x2, x3, x4, x5, x6⟩, ao6, n6, c6, rfl, q0_0, q1_0, q2_0, q3_0, q4_0, q5_0, q6_0, q6_1⟩
end
set_option maxRecDepth 100000 in
theorem open_Lf {H : Type} {enc : TypeId × Value → H} {W : World} {base : Nat} {v : Value} {d : DataW H} {p : List MemPlace} (hval : Value.okWide Tryd.prog W .any base 26 v)
    (h : DataW.Trod enc Tryd.prog W 0 (fun _ => true) true 26 v d p) : ∃ z : Lf, LfL W v z := by
  obtain ⟨cs, rfl, hcs⟩ := okWide_struct Tryd.underlying26 hval
  obtain ⟨fuel, hf0⟩ := h
  obtain ⟨l, rfl⟩ : ∃ l : List Value, cs = l.toArray := ⟨cs.toList, by simp⟩
  obtain ⟨z, ao6, n6, c6, e, q0_0, q1_0, q2_0, q3_0, q4_0, q5_0, q6_0, q6_1⟩ := Lf_open hf0
  have e' : l = [.string z.id, .string z.fl, .int .i64 z.nu, .string z.ve.1, .int .i64 z.ve.2.1, .int .i64 z.ve.2.2, .int .i64 z.wd, .int .i64 z.ln, .slice ao6 n6 c6] := by simpa [Value.cells] using e
  subst e'
  exact ⟨z, ⟨ao6, n6, c6, rfl, q0_0, q1_0, q2_0, q3_0, q4_0, q5_0, q6_0, q6_1⟩⟩
def LfSz (z : Lf) : Nat := z.id.size + z.fl.size + z.ve.1.size + BxSz z.df
set_option maxRecDepth 100000 in
set_option maxHeartbeats 1000000 in
theorem szLf_any (v : Value) (z : Lf) (l : Int) (w : World) (h0 : 0 ≤ l) (hl : l ≤ 1048576) (hv : LfL w v z) :
    Calls Tryd.prog 11 #[v, .int .i64 l] w fun e w' => e = .returned (.int .i64 (lft l (LfSz z))) ∧ Below w.heap.size w w' := by
  obtain ⟨ao6, n6, c6, rfl, q0_0, q1_0, q2_0, q3_0, q4_0, q5_0, q6_0, q6_1⟩ := hv.out
  have HF0_0 := Lib.hid q0_0
  have HF1_0 := Lib.hid q1_0
  have HF3_0 := Lib.hid q3_0
  have HF6_0 := Lib.hid q6_0
  have HF6_1 := Lib.hid q6_1
  clear hv q3_0 q6_0 q6_1
  have HDS := Lib.hid (show LfSz z = z.id.size + z.fl.size + z.ve.1.size + BxSz z.df from rfl)
  have HA := Lib.hid (one_alloc (w := w) (.cells #[.string z.id, .string z.fl, .int .i64 z.nu, .string z.ve.1, .int .i64 z.ve.2.1, .int .i64 z.ve.2.2, .int .i64 z.wd, .int .i64 z.ln, .slice ao6 n6 c6] 26))
  by_cases hq0 : ((z.id.size : Nat) : Int) ≤ l
  · have HQ0 := Lib.hid (lft_ok hq0)
    by_cases hq1 : ((z.fl.size : Nat) : Int) ≤ l - ((z.id.size : Nat) : Int)
    · have HQ1 := Lib.hid (lft_ok hq1)
      by_cases hq2 : ((z.ve.1.size : Nat) : Int) ≤ l - ((z.id.size : Nat) : Int) - ((z.fl.size : Nat) : Int)
      · have HQ2 := Lib.hid (lft_ok hq2)
        by_cases hq3 : ((BxSz z.df : Nat) : Int) ≤ l - ((z.id.size : Nat) : Int) - ((z.fl.size : Nat) : Int) - ((z.ve.1.size : Nat) : Int)
        · have HQ3 := Lib.hid (lft_ok hq3)
          have HR := Lib.hid (show lft l (LfSz z) = l - ((z.id.size : Nat) : Int) - ((z.fl.size : Nat) : Int) - ((z.ve.1.size : Nat) : Int) - ((BxSz z.df : Nat) : Int) by rw [lft_ok (by rw [HDS.out]; omega)]; rw [HDS.out]; omega)
          have dd0 : decide (l - ((z.id.size : Nat) : Int) < 0) = false := by simp; omega
          have ii0 : IntKind.i64.wrap (l - ((z.id.size : Nat) : Int)) = l - ((z.id.size : Nat) : Int) := IntWalk.i64_in _ (by omega)
          have dd1 : decide (l - ((z.id.size : Nat) : Int) - ((z.fl.size : Nat) : Int) < 0) = false := by simp; omega
          have ii1 : IntKind.i64.wrap (l - ((z.id.size : Nat) : Int) - ((z.fl.size : Nat) : Int)) = l - ((z.id.size : Nat) : Int) - ((z.fl.size : Nat) : Int) := IntWalk.i64_in _ (by omega)
          have dd2 : decide (l - ((z.id.size : Nat) : Int) - ((z.fl.size : Nat) : Int) - ((z.ve.1.size : Nat) : Int) < 0) = false := by simp; omega
          have dd3 : decide (l - ((z.id.size : Nat) : Int) - ((z.fl.size : Nat) : Int) - ((z.ve.1.size : Nat) : Int) - ((BxSz z.df : Nat) : Int) < 0) = false := by simp; omega
          go_enter Tryd.func11, Tryd.ntmps11
          have HB0 := HA
          have HX0 := Lib.hid (World.alloc_heap_new w (.cells #[.string z.id, .string z.fl, .int .i64 z.nu, .string z.ve.1, .int .i64 z.ve.2.1, .int .i64 z.ve.2.2, .int .i64 z.wd, .int .i64 z.ln, .slice ao6 n6 c6] 26))
          go_wp2_with fail
          refine (szVn_any (z.ve.1) (z.ve.2.1) (z.ve.2.2) (l - ((z.id.size : Nat) : Int) - ((z.fl.size : Nat) : Int)) _ (by omega) (by omega) HF3_0.out).mono ?_
          rintro e w1 ⟨rfl, g1⟩
          have HB1 := Lib.hid (bseq HB0.out g1)
          have HX1 := Lib.hid ((g1.block _ (blk_lt HX0.out)).trans HX0.out)
          clear g1
          have hz := blk_lt HX1.out
          have a_0 := (cell_of_arr HX1.out (j := 0) rfl).1
          have a_1 := (cell_of_arr HX1.out (j := 1) rfl).1
          have a_2 := (cell_of_arr HX1.out (j := 2) rfl).1
          have a_3 := (cell_of_arr HX1.out (j := 3) rfl).1
          have a_4 := (cell_of_arr HX1.out (j := 4) rfl).1
          have a_5 := (cell_of_arr HX1.out (j := 5) rfl).1
          have a_6 := (cell_of_arr HX1.out (j := 6) rfl).1
          have a_7 := (cell_of_arr HX1.out (j := 7) rfl).1
          have a_8 := (cell_of_arr HX1.out (j := 8) rfl).1
          rw [HQ2.out]
          go_wp2_with fail
          refine (szBxs_any ao6 n6 c6 z.df (l - ((z.id.size : Nat) : Int) - ((z.fl.size : Nat) : Int) - ((z.ve.1.size : Nat) : Int)) _ (by omega) (by omega) HF6_0.out (HF6_1.out.below HB1.out)).mono ?_
          rintro e w2 ⟨rfl, g2⟩
          have HB2 := Lib.hid (bseq HB1.out g2)
          have HX2 := Lib.hid ((g2.block _ (blk_lt HX1.out)).trans HX1.out)
          clear g2 hz a_0 a_1 a_2 a_3 a_4 a_5 a_6 a_7 a_8
          have hz := blk_lt HX2.out
          have a_0 := (cell_of_arr HX2.out (j := 0) rfl).1
          have a_1 := (cell_of_arr HX2.out (j := 1) rfl).1
          have a_2 := (cell_of_arr HX2.out (j := 2) rfl).1
          have a_3 := (cell_of_arr HX2.out (j := 3) rfl).1
          have a_4 := (cell_of_arr HX2.out (j := 4) rfl).1
          have a_5 := (cell_of_arr HX2.out (j := 5) rfl).1
          have a_6 := (cell_of_arr HX2.out (j := 6) rfl).1
          have a_7 := (cell_of_arr HX2.out (j := 7) rfl).1
          have a_8 := (cell_of_arr HX2.out (j := 8) rfl).1
          rw [HQ3.out]
          go_wp2
          go_ret
          exact ⟨ret_int HR.out.symm, HB2.out⟩
        · have HQ3 := Lib.hid (lft_no hq3)
          have HR := Lib.hid (show lft l (LfSz z) = -1 by refine lft_no ?_; rw [HDS.out]; omega)
          have dd0 : decide (l - ((z.id.size : Nat) : Int) < 0) = false := by simp; omega
          have ii0 : IntKind.i64.wrap (l - ((z.id.size : Nat) : Int)) = l - ((z.id.size : Nat) : Int) := IntWalk.i64_in _ (by omega)
          have dd1 : decide (l - ((z.id.size : Nat) : Int) - ((z.fl.size : Nat) : Int) < 0) = false := by simp; omega
          have ii1 : IntKind.i64.wrap (l - ((z.id.size : Nat) : Int) - ((z.fl.size : Nat) : Int)) = l - ((z.id.size : Nat) : Int) - ((z.fl.size : Nat) : Int) := IntWalk.i64_in _ (by omega)
          have dd2 : decide (l - ((z.id.size : Nat) : Int) - ((z.fl.size : Nat) : Int) - ((z.ve.1.size : Nat) : Int) < 0) = false := by simp; omega
          go_enter Tryd.func11, Tryd.ntmps11
          have HB0 := HA
          have HX0 := Lib.hid (World.alloc_heap_new w (.cells #[.string z.id, .string z.fl, .int .i64 z.nu, .string z.ve.1, .int .i64 z.ve.2.1, .int .i64 z.ve.2.2, .int .i64 z.wd, .int .i64 z.ln, .slice ao6 n6 c6] 26))
          go_wp2_with fail
          refine (szVn_any (z.ve.1) (z.ve.2.1) (z.ve.2.2) (l - ((z.id.size : Nat) : Int) - ((z.fl.size : Nat) : Int)) _ (by omega) (by omega) HF3_0.out).mono ?_
          rintro e w1 ⟨rfl, g1⟩
          have HB1 := Lib.hid (bseq HB0.out g1)
          have HX1 := Lib.hid ((g1.block _ (blk_lt HX0.out)).trans HX0.out)
          clear g1
          have hz := blk_lt HX1.out
          have a_0 := (cell_of_arr HX1.out (j := 0) rfl).1
          have a_1 := (cell_of_arr HX1.out (j := 1) rfl).1
          have a_2 := (cell_of_arr HX1.out (j := 2) rfl).1
          have a_3 := (cell_of_arr HX1.out (j := 3) rfl).1
          have a_4 := (cell_of_arr HX1.out (j := 4) rfl).1
          have a_5 := (cell_of_arr HX1.out (j := 5) rfl).1
          have a_6 := (cell_of_arr HX1.out (j := 6) rfl).1
          have a_7 := (cell_of_arr HX1.out (j := 7) rfl).1
          have a_8 := (cell_of_arr HX1.out (j := 8) rfl).1
          rw [HQ2.out]
          go_wp2_with fail
          refine (szBxs_any ao6 n6 c6 z.df (l - ((z.id.size : Nat) : Int) - ((z.fl.size : Nat) : Int) - ((z.ve.1.size : Nat) : Int)) _ (by omega) (by omega) HF6_0.out (HF6_1.out.below HB1.out)).mono ?_
          rintro e w2 ⟨rfl, g2⟩
          have HB2 := Lib.hid (bseq HB1.out g2)
          have HX2 := Lib.hid ((g2.block _ (blk_lt HX1.out)).trans HX1.out)
          clear g2 hz a_0 a_1 a_2 a_3 a_4 a_5 a_6 a_7 a_8
          have hz := blk_lt HX2.out
          have a_0 := (cell_of_arr HX2.out (j := 0) rfl).1
          have a_1 := (cell_of_arr HX2.out (j := 1) rfl).1
          have a_2 := (cell_of_arr HX2.out (j := 2) rfl).1
          have a_3 := (cell_of_arr HX2.out (j := 3) rfl).1
          have a_4 := (cell_of_arr HX2.out (j := 4) rfl).1
          have a_5 := (cell_of_arr HX2.out (j := 5) rfl).1
          have a_6 := (cell_of_arr HX2.out (j := 6) rfl).1
          have a_7 := (cell_of_arr HX2.out (j := 7) rfl).1
          have a_8 := (cell_of_arr HX2.out (j := 8) rfl).1
          rw [HQ3.out]
          go_wp2
          go_ret
          exact ⟨ret_int HR.out.symm, HB2.out⟩
      · have HQ2 := Lib.hid (lft_no hq2)
        have HR := Lib.hid (show lft l (LfSz z) = -1 by refine lft_no ?_; rw [HDS.out]; omega)
        have dd0 : decide (l - ((z.id.size : Nat) : Int) < 0) = false := by simp; omega
        have ii0 : IntKind.i64.wrap (l - ((z.id.size : Nat) : Int)) = l - ((z.id.size : Nat) : Int) := IntWalk.i64_in _ (by omega)
        have dd1 : decide (l - ((z.id.size : Nat) : Int) - ((z.fl.size : Nat) : Int) < 0) = false := by simp; omega
        have ii1 : IntKind.i64.wrap (l - ((z.id.size : Nat) : Int) - ((z.fl.size : Nat) : Int)) = l - ((z.id.size : Nat) : Int) - ((z.fl.size : Nat) : Int) := IntWalk.i64_in _ (by omega)
        go_enter Tryd.func11, Tryd.ntmps11
        have HB0 := HA
        have HX0 := Lib.hid (World.alloc_heap_new w (.cells #[.string z.id, .string z.fl, .int .i64 z.nu, .string z.ve.1, .int .i64 z.ve.2.1, .int .i64 z.ve.2.2, .int .i64 z.wd, .int .i64 z.ln, .slice ao6 n6 c6] 26))
        go_wp2_with fail
        refine (szVn_any (z.ve.1) (z.ve.2.1) (z.ve.2.2) (l - ((z.id.size : Nat) : Int) - ((z.fl.size : Nat) : Int)) _ (by omega) (by omega) HF3_0.out).mono ?_
        rintro e w1 ⟨rfl, g1⟩
        have HB1 := Lib.hid (bseq HB0.out g1)
        have HX1 := Lib.hid ((g1.block _ (blk_lt HX0.out)).trans HX0.out)
        clear g1
        have hz := blk_lt HX1.out
        have a_0 := (cell_of_arr HX1.out (j := 0) rfl).1
        have a_1 := (cell_of_arr HX1.out (j := 1) rfl).1
        have a_2 := (cell_of_arr HX1.out (j := 2) rfl).1
        have a_3 := (cell_of_arr HX1.out (j := 3) rfl).1
        have a_4 := (cell_of_arr HX1.out (j := 4) rfl).1
        have a_5 := (cell_of_arr HX1.out (j := 5) rfl).1
        have a_6 := (cell_of_arr HX1.out (j := 6) rfl).1
        have a_7 := (cell_of_arr HX1.out (j := 7) rfl).1
        have a_8 := (cell_of_arr HX1.out (j := 8) rfl).1
        rw [HQ2.out]
        go_wp2
        go_ret
        exact ⟨ret_int HR.out.symm, HB1.out⟩
    · have HQ1 := Lib.hid (lft_no hq1)
      have HR := Lib.hid (show lft l (LfSz z) = -1 by refine lft_no ?_; rw [HDS.out]; omega)
      have dd0 : decide (l - ((z.id.size : Nat) : Int) < 0) = false := by simp; omega
      have ii0 : IntKind.i64.wrap (l - ((z.id.size : Nat) : Int)) = l - ((z.id.size : Nat) : Int) := IntWalk.i64_in _ (by omega)
      have dd1 : decide (l - ((z.id.size : Nat) : Int) - ((z.fl.size : Nat) : Int) < 0) = true := by simp; omega
      have ii1 : IntKind.i64.wrap (l - ((z.id.size : Nat) : Int) - ((z.fl.size : Nat) : Int)) = l - ((z.id.size : Nat) : Int) - ((z.fl.size : Nat) : Int) := IntWalk.i64_in _ (by omega)
      go_enter Tryd.func11, Tryd.ntmps11
      have HB0 := HA
      have HX0 := Lib.hid (World.alloc_heap_new w (.cells #[.string z.id, .string z.fl, .int .i64 z.nu, .string z.ve.1, .int .i64 z.ve.2.1, .int .i64 z.ve.2.2, .int .i64 z.wd, .int .i64 z.ln, .slice ao6 n6 c6] 26))
      go_wp2
      go_ret
      exact ⟨ret_int HR.out.symm, HB0.out⟩
  · have HQ0 := Lib.hid (lft_no hq0)
    have HR := Lib.hid (show lft l (LfSz z) = -1 by refine lft_no ?_; rw [HDS.out]; omega)
    have dd0 : decide (l - ((z.id.size : Nat) : Int) < 0) = true := by simp; omega
    have ii0 : IntKind.i64.wrap (l - ((z.id.size : Nat) : Int)) = l - ((z.id.size : Nat) : Int) := IntWalk.i64_in _ (by omega)
    go_enter Tryd.func11, Tryd.ntmps11
    have HB0 := HA
    have HX0 := Lib.hid (World.alloc_heap_new w (.cells #[.string z.id, .string z.fl, .int .i64 z.nu, .string z.ve.1, .int .i64 z.ve.2.1, .int .i64 z.ve.2.2, .int .i64 z.wd, .int .i64 z.ln, .slice ao6 n6 c6] 26))
    go_wp2
    go_ret
    exact ⟨ret_int HR.out.symm, HB0.out⟩
end Go.Proofs.YtcjpplijbdfgbaaDoor
namespace Go.Proofs.YtcjpplijbdfgbaaDoor
open Go.ChangeShapes Go.WideShapes Go.ChangeAt Go.RowKit
set_option linter.unusedVariables false
set_option linter.unusedSimpArgs false

/-- A copy of a law's own. -/
structure LfO (lo : Nat) (w : World) (v : Value) (z : Lf) : Prop where
  out : ∃ (og6 oh6 : Nat), v = .agg #[.string z.id, .string z.fl, .int .i64 z.nu, .string z.ve.1, .int .i64 z.ve.2.1, .int .i64 z.ve.2.2, .int .i64 z.wd, .int .i64 z.ln, .slice (some ⟨og6, 0, none⟩) z.df.length z.df.length] ∧ LfSz z ≤ 1048576 ∧ z.id.size ≤ 9223372036854775807 ∧ z.fl.size ≤ 9223372036854775807 ∧ (Lit.int .i64 z.nu).wf = true ∧ z.ve.1.size ≤ 9223372036854775807 ∧ (Lit.int .i64 z.wd).wf = true ∧ (Lit.int .i64 z.ln).wf = true ∧ lo ≤ og6 ∧ og6 < oh6 ∧ oh6 ≤ w.heap.size ∧ w.rowIs og6 37 (z.df.length * 4) (BxF z.df z.df.length)
theorem LfO.below {lo : Nat} {w w' : World} {v : Value} {z : Lf} (h : LfO lo w v z) (hb : Below w.heap.size w w') : LfO lo w' v z := by
  obtain ⟨og6, oh6, h0, hs, o0_0, o1_0, o2_0, o3_0, o4_0, o5_0, o6_0, o6_1, o6_2, o6_3⟩ := h.out
  exact ⟨og6, oh6, h0, hs, o0_0, o1_0, o2_0, o3_0, o4_0, o5_0, o6_0, o6_1, Nat.le_trans o6_2 hb.size, rowIs_below o6_3 hb⟩
/-- One that a call reads. -/
structure LfV (w : World) (v : Value) (z : Lf) : Prop where
  out : ∃ (ao6 : Option Addr) (n6 c6 : Nat), v = .agg #[.string z.id, .string z.fl, .int .i64 z.nu, .string z.ve.1, .int .i64 z.ve.2.1, .int .i64 z.ve.2.2, .int .i64 z.wd, .int .i64 z.ln, .slice ao6 n6 c6] ∧ LfSz z ≤ 1048576 ∧ z.id.size ≤ 9223372036854775807 ∧ z.fl.size ≤ 9223372036854775807 ∧ (Lit.int .i64 z.nu).wf = true ∧ z.ve.1.size ≤ 9223372036854775807 ∧ (Lit.int .i64 z.wd).wf = true ∧ (Lit.int .i64 z.ln).wf = true ∧ n6 ≤ 1048576 ∧ BxV w ao6 n6 z.df
theorem LfV.below {w w' : World} {v : Value} {z : Lf} (h : LfV w v z) (hb : Below w.heap.size w w') : LfV w' v z := by
  obtain ⟨ao6, n6, c6, h0, hs, v0_0, v1_0, v2_0, v3_0, v4_0, v5_0, v6_0, v6_1⟩ := h.out
  exact ⟨ao6, n6, c6, h0, hs, v0_0, v1_0, v2_0, v3_0, v4_0, v5_0, v6_0, v6_1.below hb⟩
theorem LfO.view {lo : Nat} {w : World} {v : Value} {z : Lf} (h : LfO lo w v z) : LfV w v z := by
  obtain ⟨og6, oh6, h0, hs, o0_0, o1_0, o2_0, o3_0, o4_0, o5_0, o6_0, o6_1, o6_2, o6_3⟩ := h.out
  exact ⟨_, _, _, h0, hs, o0_0, o1_0, o2_0, o3_0, o4_0, o5_0, (by unfold LfSz at hs; unfold BxSz at hs; omega), Bx_row rfl o6_3⟩
theorem row_set {w : World} {g n : Nat} {t : TypeId} {f : Nat → Value} (h : w.rowIs g t n f) (a : Addr) (u : Value) (ha : a.block < g) : (w.setCell a u).rowIs g t n f := h.of_block (Below.heap_setCell w a u g (by omega))
/-- What a copy stands at: the argument's box, the result's, the copy's. -/
structure ToSt (w W : World) (A R O : Obj) : Prop where
  bel : Below w.heap.size w W
  a : W.heap[w.heap.size]? = some A
  r : W.heap[w.heap.size + 1]? = some R
  o : W.heap[w.heap.size + 1 + 1]? = some O
theorem ToSt.start (w : World) (A R O : Obj) : ToSt w (((w.alloc A).alloc R).alloc O) A R O :=
  ⟨three_allocs _ _ _, (Below.heap_alloc _ _ _ (by simp <;> omega)).trans ((Below.heap_alloc _ _ _ (by simp)).trans (World.alloc_heap_new _ _)), (Below.heap_alloc _ _ _ (by simp)).trans (by have := World.alloc_heap_new (w.alloc A) R; simpa using this), by have := World.alloc_heap_new ((w.alloc A).alloc R) O; simpa using this⟩
theorem ToSt.big {w W : World} {A R O : Obj} (h : ToSt w W A R O) : w.heap.size + 3 ≤ W.heap.size := by
  have := (Array.getElem?_eq_some_iff.1 h.o).1
  omega
theorem ToSt.call {w W W' : World} {A R O : Obj} (h : ToSt w W A R O) (g : Below W.heap.size W W') : ToSt w W' A R O := by
  have hb := h.big
  exact ⟨h.bel.trans (g.mono (by omega)), (g.block _ (by omega)).trans h.a, (g.block _ (by omega)).trans h.r, (g.block _ (by omega)).trans h.o⟩
theorem ToSt.set {w W : World} {A R : Obj} {cur : Array Value} {t : TypeId} (h : ToSt w W A R (.cells cur t (0, 0))) (i : Nat) (u : Value) : ToSt w (W.setCell ⟨w.heap.size + 1 + 1, i, none⟩ u) A R (.cells (cur.setIfInBounds i u) t (0, 0)) :=
  ⟨h.bel.setCell (by show w.heap.size ≤ w.heap.size + 1 + 1; omega) _, (Below.heap_setCell _ _ _ _ (by show w.heap.size ≠ w.heap.size + 1 + 1; omega)).trans h.a, (Below.heap_setCell _ _ _ _ (by show w.heap.size + 1 ≠ w.heap.size + 1 + 1; omega)).trans h.r, heap_setCell_same _ _ _ _ _ _ h.o⟩
theorem ToSt.setr {w W : World} {A O : Obj} {cur : Array Value} {t : TypeId} (h : ToSt w W A (.cells cur t (0, 0)) O) (i : Nat) (u : Value) : ToSt w (W.setCell ⟨w.heap.size + 1, i, none⟩ u) A (.cells (cur.setIfInBounds i u) t (0, 0)) O :=
  ⟨h.bel.setCell (by show w.heap.size ≤ w.heap.size + 1; omega) _, (Below.heap_setCell _ _ _ _ (by show w.heap.size ≠ w.heap.size + 1; omega)).trans h.a, heap_setCell_same _ _ _ _ _ _ h.r, (Below.heap_setCell _ _ _ _ (by show w.heap.size + 1 + 1 ≠ w.heap.size + 1; omega)).trans h.o⟩
set_option maxRecDepth 100000 in
set_option maxHeartbeats 4000000 in
theorem toLf_own (v : Value) (z : Lf) (w : World) (hs : LfSz z ≤ 1048576) (hv : LfL w v z) :
    Calls Tryd.prog 13 #[v] w fun e w' => ∃ v', e = .returned v' ∧ LfO w.heap.size w' v' z ∧ Below w.heap.size w w' := by
  obtain ⟨ao6, n6, c6, rfl, q0_0, q1_0, q2_0, q3_0, q4_0, q5_0, q6_0, q6_1⟩ := hv.out
  obtain rfl : n6 = z.df.length := q6_1.1
  have HF0_0 := Lib.hid q0_0
  have HF1_0 := Lib.hid q1_0
  have HF2_0 := Lib.hid q2_0
  have HF3_0 := Lib.hid q3_0
  have HF4_0 := Lib.hid q4_0
  have HF5_0 := Lib.hid q5_0
  have HF6_0 := Lib.hid q6_0
  have HF6_1 := Lib.hid q6_1
  have HS := Lib.hid hs
  have HS6 := Lib.hid (show BxSz z.df ≤ 1048576 by unfold LfSz at hs; omega)
  clear hv hs q0_0 q1_0 q2_0 q3_0 q4_0 q5_0 q6_0 q6_1
  have ST0 := Lib.hid (ToSt.start w (.cells #[.string z.id, .string z.fl, .int .i64 z.nu, .string z.ve.1, .int .i64 z.ve.2.1, .int .i64 z.ve.2.2, .int .i64 z.wd, .int .i64 z.ln, .slice ao6 z.df.length c6] 26 (0, 0)) (.cells #[.string ⟨#[]⟩, .string ⟨#[]⟩, .int .i64 0, .string ⟨#[]⟩, .int .i64 0, .int .i64 0, .int .i64 0, .int .i64 0, .slice none 0 0] 33 (0, 0)) (.cells #[.string z.id, .string z.fl, .int .i64 z.nu, .string ⟨#[]⟩, .int .i64 0, .int .i64 0, .int .i64 0, .int .i64 0, .slice none 0 0] 33 (0, 0)))
  go_enter Tryd.func13, Tryd.ntmps13
  go_wp2_with fail
  have HSC := Lib.hid ST0.out
  refine (toVn_any (z.ve.1) (z.ve.2.1) (z.ve.2.2) _).mono ?_
  rintro e w1 ⟨rfl, g3⟩
  have ST1 := Lib.hid (HSC.out.call g3)
  clear g3 HSC
  have hz := (ST1.out).big
  have a_0 := (cell_of_arr ST1.out.a (j := 0) rfl).1
  have a_1 := (cell_of_arr ST1.out.a (j := 1) rfl).1
  have a_2 := (cell_of_arr ST1.out.a (j := 2) rfl).1
  have a_3 := (cell_of_arr ST1.out.a (j := 3) rfl).1
  have a_4 := (cell_of_arr ST1.out.a (j := 4) rfl).1
  have a_5 := (cell_of_arr ST1.out.a (j := 5) rfl).1
  have a_6 := (cell_of_arr ST1.out.a (j := 6) rfl).1
  have a_7 := (cell_of_arr ST1.out.a (j := 7) rfl).1
  have a_8 := (cell_of_arr ST1.out.a (j := 8) rfl).1
  have c_0 := cell_of_arr ST1.out.o (j := 0) rfl
  have f_0 := c_0.2
  replace c_0 := c_0.1
  have c_1 := cell_of_arr ST1.out.o (j := 1) rfl
  have f_1 := c_1.2
  replace c_1 := c_1.1
  have c_2 := cell_of_arr ST1.out.o (j := 2) rfl
  have f_2 := c_2.2
  replace c_2 := c_2.1
  have c_3 := cell_of_arr ST1.out.o (j := 3) rfl
  have f_3 := c_3.2
  replace c_3 := c_3.1
  have c_4 := cell_of_arr ST1.out.o (j := 4) rfl
  have f_4 := c_4.2
  replace c_4 := c_4.1
  have c_5 := cell_of_arr ST1.out.o (j := 5) rfl
  have f_5 := c_5.2
  replace c_5 := c_5.1
  have c_6 := cell_of_arr ST1.out.o (j := 6) rfl
  have f_6 := c_6.2
  replace c_6 := c_6.1
  have c_7 := cell_of_arr ST1.out.o (j := 7) rfl
  have f_7 := c_7.2
  replace c_7 := c_7.1
  have c_8 := cell_of_arr ST1.out.o (j := 8) rfl
  have f_8 := c_8.2
  replace c_8 := c_8.1
  have r_0 := cell_of_arr ST1.out.r (j := 0) rfl
  have s_0 := r_0.2
  replace r_0 := r_0.1
  have r_1 := cell_of_arr ST1.out.r (j := 1) rfl
  have s_1 := r_1.2
  replace r_1 := r_1.1
  have r_2 := cell_of_arr ST1.out.r (j := 2) rfl
  have s_2 := r_2.2
  replace r_2 := r_2.1
  have r_3 := cell_of_arr ST1.out.r (j := 3) rfl
  have s_3 := r_3.2
  replace r_3 := r_3.1
  have r_4 := cell_of_arr ST1.out.r (j := 4) rfl
  have s_4 := r_4.2
  replace r_4 := r_4.1
  have r_5 := cell_of_arr ST1.out.r (j := 5) rfl
  have s_5 := r_5.2
  replace r_5 := r_5.1
  have r_6 := cell_of_arr ST1.out.r (j := 6) rfl
  have s_6 := r_6.2
  replace r_6 := r_6.1
  have r_7 := cell_of_arr ST1.out.r (j := 7) rfl
  have s_7 := r_7.2
  replace r_7 := r_7.1
  have r_8 := cell_of_arr ST1.out.r (j := 8) rfl
  have s_8 := r_8.2
  replace r_8 := r_8.1
  have z0_ : w.heap.size < w1.heap.size := by omega
  have z1_ : w.heap.size + 1 < w1.heap.size := by omega
  have z2_ : w.heap.size + 1 + 1 < w1.heap.size := by omega
  go_wp2_with fail
  have HSC := Lib.hid (((((ST1.out.set 3 (.string z.ve.1)).set 4 (.int .i64 z.ve.2.1)).set 5 (.int .i64 z.ve.2.2)).set 6 (.int .i64 z.wd)).set 7 (.int .i64 z.ln))
  clear hz a_0 c_0 f_0 r_0 s_0 a_1 c_1 f_1 r_1 s_1 a_2 c_2 f_2 r_2 s_2 a_3 c_3 f_3 r_3 s_3 a_4 c_4 f_4 r_4 s_4 a_5 c_5 f_5 r_5 s_5 a_6 c_6 f_6 r_6 s_6 a_7 c_7 f_7 r_7 s_7 a_8 c_8 f_8 r_8 s_8 z0_ z1_ z2_
  refine (toBxs_own ao6 _ c6 z.df _ (by have := HS6.out; unfold BxSz at this; omega) (HF6_1.out.below HSC.out.bel)).mono ?_
  rintro e w2 ⟨og6, rfl, hl6, o6, g6⟩
  have HBG := HSC.out.big
  have hl6_ := hl6
  have ST2 := Lib.hid (HSC.out.call g6)
  have HSI2 := Lib.hid (show w1.heap.size ≤ w2.heap.size by have := g6.size; simpa using this)
  have HL6 := Lib.hid (show w.heap.size + 3 ≤ og6 by omega)
  have hl6 := HL6.out
  have HO6 := Lib.hid o6
  have HR6 := Lib.hid (show w1.heap.size ≤ og6 by simpa using hl6_)
  have HT6 := Lib.hid o6.lt
  clear g6 HBG HSC o6 hl6_
  have hz := (ST2.out).big
  have a_0 := (cell_of_arr ST2.out.a (j := 0) rfl).1
  have a_1 := (cell_of_arr ST2.out.a (j := 1) rfl).1
  have a_2 := (cell_of_arr ST2.out.a (j := 2) rfl).1
  have a_3 := (cell_of_arr ST2.out.a (j := 3) rfl).1
  have a_4 := (cell_of_arr ST2.out.a (j := 4) rfl).1
  have a_5 := (cell_of_arr ST2.out.a (j := 5) rfl).1
  have a_6 := (cell_of_arr ST2.out.a (j := 6) rfl).1
  have a_7 := (cell_of_arr ST2.out.a (j := 7) rfl).1
  have a_8 := (cell_of_arr ST2.out.a (j := 8) rfl).1
  have c_0 := cell_of_arr ST2.out.o (j := 0) rfl
  have f_0 := c_0.2
  replace c_0 := c_0.1
  have c_1 := cell_of_arr ST2.out.o (j := 1) rfl
  have f_1 := c_1.2
  replace c_1 := c_1.1
  have c_2 := cell_of_arr ST2.out.o (j := 2) rfl
  have f_2 := c_2.2
  replace c_2 := c_2.1
  have c_3 := cell_of_arr ST2.out.o (j := 3) rfl
  have f_3 := c_3.2
  replace c_3 := c_3.1
  have c_4 := cell_of_arr ST2.out.o (j := 4) rfl
  have f_4 := c_4.2
  replace c_4 := c_4.1
  have c_5 := cell_of_arr ST2.out.o (j := 5) rfl
  have f_5 := c_5.2
  replace c_5 := c_5.1
  have c_6 := cell_of_arr ST2.out.o (j := 6) rfl
  have f_6 := c_6.2
  replace c_6 := c_6.1
  have c_7 := cell_of_arr ST2.out.o (j := 7) rfl
  have f_7 := c_7.2
  replace c_7 := c_7.1
  have c_8 := cell_of_arr ST2.out.o (j := 8) rfl
  have f_8 := c_8.2
  replace c_8 := c_8.1
  have r_0 := cell_of_arr ST2.out.r (j := 0) rfl
  have s_0 := r_0.2
  replace r_0 := r_0.1
  have r_1 := cell_of_arr ST2.out.r (j := 1) rfl
  have s_1 := r_1.2
  replace r_1 := r_1.1
  have r_2 := cell_of_arr ST2.out.r (j := 2) rfl
  have s_2 := r_2.2
  replace r_2 := r_2.1
  have r_3 := cell_of_arr ST2.out.r (j := 3) rfl
  have s_3 := r_3.2
  replace r_3 := r_3.1
  have r_4 := cell_of_arr ST2.out.r (j := 4) rfl
  have s_4 := r_4.2
  replace r_4 := r_4.1
  have r_5 := cell_of_arr ST2.out.r (j := 5) rfl
  have s_5 := r_5.2
  replace r_5 := r_5.1
  have r_6 := cell_of_arr ST2.out.r (j := 6) rfl
  have s_6 := r_6.2
  replace r_6 := r_6.1
  have r_7 := cell_of_arr ST2.out.r (j := 7) rfl
  have s_7 := r_7.2
  replace r_7 := r_7.1
  have r_8 := cell_of_arr ST2.out.r (j := 8) rfl
  have s_8 := r_8.2
  replace r_8 := r_8.1
  have z0_ : w.heap.size < w2.heap.size := by omega
  have z1_ : w.heap.size + 1 < w2.heap.size := by omega
  have z2_ : w.heap.size + 1 + 1 < w2.heap.size := by omega
  go_wp2
  have HE := Lib.hid ((((((((((ST2.out.set 8 (.slice (some ⟨og6, 0, none⟩) z.df.length z.df.length)).setr 0 (.string z.id)).setr 1 (.string z.fl)).setr 2 (.int .i64 z.nu)).setr 3 (.string z.ve.1)).setr 4 (.int .i64 z.ve.2.1)).setr 5 (.int .i64 z.ve.2.2)).setr 6 (.int .i64 z.wd)).setr 7 (.int .i64 z.ln)).setr 8 (.slice (some ⟨og6, 0, none⟩) z.df.length z.df.length))
  have HQ6 := Lib.hid (row_set (row_set (row_set (row_set (row_set (row_set (row_set (row_set (row_set (row_set HO6.out ⟨w.heap.size + 1 + 1, 8, none⟩ (.slice (some ⟨og6, 0, none⟩) z.df.length z.df.length) (by show w.heap.size + 1 + 1 < _; omega)) ⟨w.heap.size + 1, 0, none⟩ (.string z.id) (by show w.heap.size + 1 < _; omega)) ⟨w.heap.size + 1, 1, none⟩ (.string z.fl) (by show w.heap.size + 1 < _; omega)) ⟨w.heap.size + 1, 2, none⟩ (.int .i64 z.nu) (by show w.heap.size + 1 < _; omega)) ⟨w.heap.size + 1, 3, none⟩ (.string z.ve.1) (by show w.heap.size + 1 < _; omega)) ⟨w.heap.size + 1, 4, none⟩ (.int .i64 z.ve.2.1) (by show w.heap.size + 1 < _; omega)) ⟨w.heap.size + 1, 5, none⟩ (.int .i64 z.ve.2.2) (by show w.heap.size + 1 < _; omega)) ⟨w.heap.size + 1, 6, none⟩ (.int .i64 z.wd) (by show w.heap.size + 1 < _; omega)) ⟨w.heap.size + 1, 7, none⟩ (.int .i64 z.ln) (by show w.heap.size + 1 < _; omega)) ⟨w.heap.size + 1, 8, none⟩ (.slice (some ⟨og6, 0, none⟩) z.df.length z.df.length) (by show w.heap.size + 1 < _; omega))
  refine bodyPost_ret (v := .agg #[.string z.id, .string z.fl, .int .i64 z.nu, .string z.ve.1, .int .i64 z.ve.2.1, .int .i64 z.ve.2.2, .int .i64 z.wd, .int .i64 z.ln, .slice (some ⟨og6, 0, none⟩) z.df.length z.df.length]) (by simp [results, Tryd.results13, go_sem, r_0, r_1, r_2, r_3, r_4, r_5, r_6, r_7, r_8, z1_]) rfl ⟨_, rfl, ⟨og6, w2.heap.size, rfl, HS.out, HF0_0.out, HF1_0.out, HF2_0.out, HF3_0.out, HF4_0.out, HF5_0.out, (by have := HL6.out; omega), HT6.out, (by simp), HQ6.out⟩, HE.out.bel⟩
set_option maxRecDepth 100000 in
set_option maxHeartbeats 1000000 in
theorem eqLf_same (u v : Value) (z : Lf) (w : World) (hu : LfV w u z) (hv : LfV w v z) :
    Calls Tryd.prog 16 #[u, v] w fun e w' => e = .returned (.bool true) ∧ Below w.heap.size w w' := by
  obtain ⟨ao6, n6, c6, rfl, hsp, p0_0, p1_0, p2_0, p3_0, p4_0, p5_0, p6_0, p6_1⟩ := hu.out
  obtain ⟨ao6y, n6y, c6y, rfl, hsr, r0_0, r1_0, r2_0, r3_0, r4_0, r5_0, r6_0, r6_1⟩ := hv.out
  obtain rfl : n6 = z.df.length := p6_1.1
  obtain rfl : n6y = z.df.length := r6_1.1
  have HN6 := Lib.hid p6_0
  have HSZ := Lib.hid hsp
  have h2 := two_allocs (w := w) (.cells #[.string z.id, .string z.fl, .int .i64 z.nu, .string z.ve.1, .int .i64 z.ve.2.1, .int .i64 z.ve.2.2, .int .i64 z.wd, .int .i64 z.ln, .slice ao6 z.df.length c6] 33) (.cells #[.string z.id, .string z.fl, .int .i64 z.nu, .string z.ve.1, .int .i64 z.ve.2.1, .int .i64 z.ve.2.2, .int .i64 z.wd, .int .i64 z.ln, .slice ao6y z.df.length c6y] 33)
  have HX := Lib.hid (Below.heap_alloc (w.alloc (.cells #[.string z.id, .string z.fl, .int .i64 z.nu, .string z.ve.1, .int .i64 z.ve.2.1, .int .i64 z.ve.2.2, .int .i64 z.wd, .int .i64 z.ln, .slice ao6 z.df.length c6] 33)) (.cells #[.string z.id, .string z.fl, .int .i64 z.nu, .string z.ve.1, .int .i64 z.ve.2.1, .int .i64 z.ve.2.2, .int .i64 z.wd, .int .i64 z.ln, .slice ao6y z.df.length c6y] 33) w.heap.size (by simp; try omega) |>.trans (World.alloc_heap_new w (.cells #[.string z.id, .string z.fl, .int .i64 z.nu, .string z.ve.1, .int .i64 z.ve.2.1, .int .i64 z.ve.2.2, .int .i64 z.wd, .int .i64 z.ln, .slice ao6 z.df.length c6] 33)))
  have HY := World.alloc_heap_new (w.alloc (.cells #[.string z.id, .string z.fl, .int .i64 z.nu, .string z.ve.1, .int .i64 z.ve.2.1, .int .i64 z.ve.2.2, .int .i64 z.wd, .int .i64 z.ln, .slice ao6 z.df.length c6] 33)) (.cells #[.string z.id, .string z.fl, .int .i64 z.nu, .string z.ve.1, .int .i64 z.ve.2.1, .int .i64 z.ve.2.2, .int .i64 z.wd, .int .i64 z.ln, .slice ao6y z.df.length c6y] 33)
  rw [show (w.alloc (.cells #[.string z.id, .string z.fl, .int .i64 z.nu, .string z.ve.1, .int .i64 z.ve.2.1, .int .i64 z.ve.2.2, .int .i64 z.wd, .int .i64 z.ln, .slice ao6 z.df.length c6] 33)).heap.size = w.heap.size + 1 by simp] at HY
  replace HY := Lib.hid HY
  have HU6 := Lib.hid (p6_1.below h2)
  have HV6 := Lib.hid (r6_1.below h2)
  have HG := Lib.hid h2
  clear h2 hu hv hsp hsr p6_0 p6_1 r6_0 r6_1
  go_enter Tryd.func16, Tryd.ntmps16
  go_wp2_with fail
  refine (eqVn_same (z.ve.1) (z.ve.2.1) (z.ve.2.2) _).mono ?_
  rintro e w1 ⟨rfl, g1⟩
  replace HX := Lib.hid ((g1.block _ (blk_lt HX.out)).trans HX.out)
  replace HY := Lib.hid ((g1.block _ (blk_lt HY.out)).trans HY.out)
  replace HG := Lib.hid (HG.out.trans (g1.mono HG.out.size))
  replace HU6 := Lib.hid (HU6.out.below g1)
  replace HV6 := Lib.hid (HV6.out.below g1)
  clear g1
  have hz := blk_lt HX.out
  have hy := blk_lt HY.out
  have a_0 := (cell_of_arr HX.out (j := 0) rfl).1
  have b_0 := (cell_of_arr HY.out (j := 0) rfl).1
  have a_1 := (cell_of_arr HX.out (j := 1) rfl).1
  have b_1 := (cell_of_arr HY.out (j := 1) rfl).1
  have a_2 := (cell_of_arr HX.out (j := 2) rfl).1
  have b_2 := (cell_of_arr HY.out (j := 2) rfl).1
  have a_3 := (cell_of_arr HX.out (j := 3) rfl).1
  have b_3 := (cell_of_arr HY.out (j := 3) rfl).1
  have a_4 := (cell_of_arr HX.out (j := 4) rfl).1
  have b_4 := (cell_of_arr HY.out (j := 4) rfl).1
  have a_5 := (cell_of_arr HX.out (j := 5) rfl).1
  have b_5 := (cell_of_arr HY.out (j := 5) rfl).1
  have a_6 := (cell_of_arr HX.out (j := 6) rfl).1
  have b_6 := (cell_of_arr HY.out (j := 6) rfl).1
  have a_7 := (cell_of_arr HX.out (j := 7) rfl).1
  have b_7 := (cell_of_arr HY.out (j := 7) rfl).1
  have a_8 := (cell_of_arr HX.out (j := 8) rfl).1
  have b_8 := (cell_of_arr HY.out (j := 8) rfl).1
  go_wp2_with fail
  refine (eqBxs_same _ _ _ _ _ z.df _ HN6.out HU6.out HV6.out).mono ?_
  rintro e w2 ⟨rfl, g2⟩
  clear hz hy a_0 b_0 a_1 b_1 a_2 b_2 a_3 b_3 a_4 b_4 a_5 b_5 a_6 b_6 a_7 b_7 a_8 b_8
  replace HX := Lib.hid ((g2.block _ (blk_lt HX.out)).trans HX.out)
  replace HY := Lib.hid ((g2.block _ (blk_lt HY.out)).trans HY.out)
  replace HG := Lib.hid (HG.out.trans (g2.mono HG.out.size))
  clear g2
  have hz := blk_lt HX.out
  have hy := blk_lt HY.out
  have a_0 := (cell_of_arr HX.out (j := 0) rfl).1
  have b_0 := (cell_of_arr HY.out (j := 0) rfl).1
  have a_1 := (cell_of_arr HX.out (j := 1) rfl).1
  have b_1 := (cell_of_arr HY.out (j := 1) rfl).1
  have a_2 := (cell_of_arr HX.out (j := 2) rfl).1
  have b_2 := (cell_of_arr HY.out (j := 2) rfl).1
  have a_3 := (cell_of_arr HX.out (j := 3) rfl).1
  have b_3 := (cell_of_arr HY.out (j := 3) rfl).1
  have a_4 := (cell_of_arr HX.out (j := 4) rfl).1
  have b_4 := (cell_of_arr HY.out (j := 4) rfl).1
  have a_5 := (cell_of_arr HX.out (j := 5) rfl).1
  have b_5 := (cell_of_arr HY.out (j := 5) rfl).1
  have a_6 := (cell_of_arr HX.out (j := 6) rfl).1
  have b_6 := (cell_of_arr HY.out (j := 6) rfl).1
  have a_7 := (cell_of_arr HX.out (j := 7) rfl).1
  have b_7 := (cell_of_arr HY.out (j := 7) rfl).1
  have a_8 := (cell_of_arr HX.out (j := 8) rfl).1
  have b_8 := (cell_of_arr HY.out (j := 8) rfl).1
  go_wp2
  go_ret
  exact ⟨rfl, HG.out⟩
end Go.Proofs.YtcjpplijbdfgbaaDoor
namespace Go.Proofs.YtcjpplijbdfgbaaDoor
open Go.ChangeShapes Go.WideShapes Go.ChangeAt Go.RowKit
set_option linter.unusedVariables false
set_option linter.unusedSimpArgs false

/-- A copy that can be written. -/
structure LfX (lo hi : Nat) (w : World) (v : Value) (z : Lf) : Prop where
  out : ∃ (og6 oh6 : Nat), v = .agg #[.string z.id, .string z.fl, .int .i64 z.nu, .string z.ve.1, .int .i64 z.ve.2.1, .int .i64 z.ve.2.2, .int .i64 z.wd, .int .i64 z.ln, .slice (some ⟨og6, 0, none⟩) z.df.length z.df.length] ∧ LfSz z ≤ 1048576 ∧ oh6 ≤ hi ∧ lo ≤ og6 ∧ og6 < oh6 ∧ oh6 ≤ w.heap.size ∧ w.rowIs og6 37 (z.df.length * 4) (BxF z.df z.df.length)
theorem LfX.of {lo : Nat} {w : World} {v : Value} {z : Lf} (h : LfO lo w v z) : LfX lo w.heap.size w v z := by
  obtain ⟨og6, oh6, h0, hs, o0_0, o1_0, o2_0, o3_0, o4_0, o5_0, o6_0, o6_1, o6_2, o6_3⟩ := h.out
  exact ⟨og6, oh6, h0, hs, o6_2, o6_0, o6_1, o6_2, o6_3⟩
theorem LfX.below {lo hi : Nat} {w w' : World} {v : Value} {z : Lf} (h : LfX lo hi w v z) (hb : Below w.heap.size w w') : LfX lo hi w' v z := by
  obtain ⟨og6, oh6, h0, hs, hh, x6_0, x6_1, x6_2, x6_3⟩ := h.out
  exact ⟨og6, oh6, h0, hs, hh, x6_0, x6_1, Nat.le_trans x6_2 hb.size, rowIs_below x6_3 hb⟩
set_option maxRecDepth 100000 in
set_option maxHeartbeats 4000000 in
theorem markLf_any (lo hi : Nat) (v : Value) (z : Lf) (w : World) (h : LfX lo hi w v z) :
    Calls Tryd.prog 17 #[v, .int .i64 1] w fun e w' => ∃ k : Nat, e = .returned (.int .i64 (k : Int)) ∧ (1 ≤ k ∧ k ≤ 100000000) ∧ Btw lo hi w w' := by
  obtain ⟨og6, oh6, rfl, hs, hh, x6_0, x6_1, x6_2, x6_3⟩ := h.out
  have HB0 := Lib.hid (one_alloc (w := w) (.cells #[.string z.id, .string z.fl, .int .i64 z.nu, .string z.ve.1, .int .i64 z.ve.2.1, .int .i64 z.ve.2.2, .int .i64 z.wd, .int .i64 z.ln, .slice (some ⟨og6, 0, none⟩) z.df.length z.df.length] 33))
  have HX := Lib.hid (World.alloc_heap_new w (.cells #[.string z.id, .string z.fl, .int .i64 z.nu, .string z.ve.1, .int .i64 z.ve.2.1, .int .i64 z.ve.2.2, .int .i64 z.wd, .int .i64 z.ln, .slice (some ⟨og6, 0, none⟩) z.df.length z.df.length] 33))
  have HT := Lib.hid (Btw.of_below (lo := lo) (hi := hi) (HB0.out))
  have HS := Lib.hid hs
  have HF6 := Lib.hid (Lay.row (rowIs_below x6_3 HB0.out))
  have hn6 : z.df.length ≤ 1048576 := by unfold LfSz at hs; unfold BxSz at hs; omega
  have b6_0 := x6_0
  have b6_1 := x6_1
  have b6_2 := x6_2
  clear h hs x6_0 x6_1 x6_2 x6_3
  go_enter Tryd.func17, Tryd.ntmps17
  go_wp2_with fail
  refine (markBxs_lay og6 _ _ 1 _ (Nat.le_refl _) hn6 (by omega) (by omega) HF6.out).mono ?_
  rintro e w1 ⟨rfl, _, g1⟩
  obtain ⟨k1, hkk1⟩ : ∃ k, 1 + z.df.length * 4 = k := ⟨_, rfl⟩
  rw [hkk1]
  have hk1 : 1 ≤ k1 ∧ k1 ≤ 5000000 := by omega
  have G1 := Lib.hid (g1.wide (lo' := lo) (hi' := hi) (by omega) (by omega))
  replace HX := Lib.hid ((g1.block _ (blk_lt HX.out) (by omega)).trans HX.out)
  replace HT := Lib.hid (HT.out.trans G1.out)
  clear g1 G1
  have hz := blk_lt HX.out
  have a_0 := (cell_of_arr HX.out (j := 0) rfl).1
  have a_1 := (cell_of_arr HX.out (j := 1) rfl).1
  have a_2 := (cell_of_arr HX.out (j := 2) rfl).1
  have a_3 := (cell_of_arr HX.out (j := 3) rfl).1
  have a_4 := (cell_of_arr HX.out (j := 4) rfl).1
  have a_5 := (cell_of_arr HX.out (j := 5) rfl).1
  have a_6 := (cell_of_arr HX.out (j := 6) rfl).1
  have a_7 := (cell_of_arr HX.out (j := 7) rfl).1
  have a_8 := (cell_of_arr HX.out (j := 8) rfl).1
  go_wp2
  go_ret
  exact ⟨k1, rfl, by omega, HT.out⟩
end Go.Proofs.YtcjpplijbdfgbaaDoor
namespace Go.Proofs.YtcjpplijbdfgbaaDoor
open Seq2 Go.ChangeShapes Go.WideShapes Go.ChangeAt Go.RowKit Go.ChangeMaps Go.Joins Go.Deep
set_option linter.unusedVariables false
set_option linter.unusedSimpArgs false

def lf0 : Lf := ⟨ByteArray.empty, ByteArray.empty, 0, vn0, 0, 0, []⟩
instance : Inhabited Lf := ⟨lf0⟩
/-- A slice that came in. -/
def LfsL (w : World) (ao : Option Addr) (n : Nat) (zs : List Lf) : Prop := n = zs.length ∧ (n = 0 ∨ ∃ b off, ao = some ⟨b, off, none⟩ ∧ ∀ j, j < n → ∃ v, LfL w v (zs.getD j lf0) ∧ AtV w b (off + j * 9) v)
theorem LfsL.below {w w' : World} {ao : Option Addr} {n : Nat} {zs : List Lf} (h : LfsL w ao n zs) (hb : Below w.heap.size w w') : LfsL w' ao n zs :=
  ⟨h.1, h.2.imp id fun ⟨b, off, e, h1⟩ => ⟨b, off, e, fun j hj => by obtain ⟨v, q1, q2⟩ := h1 j hj; exact ⟨v, q1.below hb, q2.below hb⟩⟩⟩
set_option maxRecDepth 100000 in
theorem Lfs_open {H : Type} {enc : TypeId × Value → H} {W : World} {base : Nat} {sp : Nat → Bool} {fuel : Nat} {cs : List Value} {x : DataW H × List MemPlace} (h : DataW.trod enc Tryd.prog W base sp true fuel 47 cs = some x) : ∃ ao n cap zs, cs = [.slice ao n cap] ∧ n ≤ 9223372036854775807 ∧ LfsL W ao n zs := by
  rcases open_slice Tryd.underlying47 h with ⟨rfl, _⟩ | ⟨a, n0, c0, m, n, D, Pl, rfl, _, hl, hm, hmm, _, hi⟩
  · exact ⟨none, 0, 0, [], rfl, by omega, rfl, Or.inl rfl⟩
  · rw [cLLf] at hi
    have hlm : n0 ≤ m := by rw [hmm]; split <;> omega
    have hi2 : ∀ i, i < n0 → ∃ q : Lf, ∃ v, LfL W v q ∧ v.cells.size = 9 ∧ ∀ j, j < 9 → W.cell? ((a.add (i * 9)).add j) = v.cells[j]? := fun i him => by
      obtain ⟨cs', hc, ht⟩ := hi i (by omega)
      obtain ⟨_, hcl, hat⟩ := World.cells?_some hc
      obtain ⟨z, ao6, n6, c6, rfl, q0_0, q1_0, q2_0, q3_0, q4_0, q5_0, q6_0, q6_1⟩ := Lf_open ht
      exact ⟨z, _, ⟨ao6, n6, c6, rfl, q0_0, q1_0, q2_0, q3_0, q4_0, q5_0, q6_0, q6_1⟩, rfl, fun j hj => (hat j hj).trans (by simp [Value.cells])⟩
    obtain ⟨f, hfn⟩ := choose_lt hi2
    refine ⟨some a, n0, c0, (List.range n0).map f, rfl, by unfold maxLen at hm; omega, by simp, ?_⟩
    by_cases h0 : n0 = 0
    · exact Or.inl h0
    · right
      obtain ⟨b, off, spot⟩ := a
      have hspot : spot = none := by
        obtain ⟨v, hv1, hv2, hv3⟩ := hfn 0 (by omega)
        have h4 := (hv3 0 (by omega)).trans (Array.getElem?_eq_getElem (by omega))
        have := World.cell?_spot h4
        simpa [Addr.add] using this
      subst hspot
      refine ⟨b, off, rfl, fun j hj => ?_⟩
      obtain ⟨v, hv1, hv2, hv3⟩ := hfn j hj
      have e : ((List.range n0).map f).getD j lf0 = f j := by simp [hj]
      rw [e]
      refine ⟨v, hv1, ?_, fun i hi => ?_⟩
      · have h4 := (hv3 0 (by omega)).trans (Array.getElem?_eq_getElem (by omega))
        rw [add_off, add_off] at h4
        exact cell_ltF h4
      · have h4 := hv3 i (by omega)
        rw [add_off, add_off] at h4
        exact h4
set_option maxRecDepth 100000 in
theorem open_Lfs {H : Type} {enc : TypeId × Value → H} {W : World} {base : Nat} {v : Value} {dd : DataW H} {p : List MemPlace} (hval : Value.okWide Tryd.prog W .any base 47 v)
    (h0 : DataW.Trod enc Tryd.prog W 0 (fun _ => true) true 47 v dd p) (hp : ∀ x ∈ p, x.block < W.heap.size) : ∃ ao n cap zs, v = .slice ao n cap ∧ n ≤ 9223372036854775807 ∧ LfsL W ao n zs := by
  obtain ⟨ao0, n0, c0, rfl⟩ := okWide_slice Tryd.underlying47 hval
  obtain ⟨fuel, h⟩ := h0
  have hc0 : (Value.slice ao0 n0 c0).cells.toList = [.slice ao0 n0 c0] := rfl
  rw [hc0] at h
  obtain ⟨ao, n, cap, zs, e, hn, hv⟩ := Lfs_open h
  cases e
  exact ⟨_, _, _, zs, rfl, hn, hv⟩
def LfSzA (zs : List Lf) (j : Nat) : Nat := LfSz (zs.getD j lf0)
def LfsSz (zs : List Lf) : Nat := zs.length + sumN (LfSzA zs) zs.length
theorem Lfs_le {zs : List Lf} (h : LfsSz zs ≤ 1048576) {j : Nat} (hj : j < zs.length) : LfSz (zs.getD j lf0) ≤ 1048576 := by
  have h1 := sumN_le (LfSzA zs) (show j + 1 ≤ zs.length by omega)
  have h2 : sumN (LfSzA zs) (j + 1) = sumN (LfSzA zs) j + LfSz (zs.getD j lf0) := rfl
  unfold LfsSz at h
  omega
set_option maxRecDepth 100000 in
set_option maxHeartbeats 1000000 in
theorem szLfs_any (ao : Option Addr) (m c : Nat) (zs : List Lf) (l : Int) (w : World) (h0 : 0 ≤ l) (hl : l ≤ 1048576) (hm : m ≤ 9223372036854775807) (hv : LfsL w ao m zs) :
    Calls Tryd.prog 23 #[.slice ao m c, .int .i64 l] w fun e w' => e = .returned (.int .i64 (lft l (LfsSz zs))) ∧ Below w.heap.size w w' := by
  have HV := Lib.hid hv
  have hmz := hv.1
  have e1 : IntKind.i64.wrap (l - (m : Int)) = l - (m : Int) := IntWalk.i64_in _ (by omega)
  by_cases hn : (m : Int) ≤ l
  · have e2 : decide (l - (m : Int) < 0) = false := by simp; omega
    have HF := Lib.hid (show LfsSz zs = m + sumN (LfSzA zs) m by unfold LfsSz; rw [← hmz])
    have HL := Lib.hid (fun k (h : k ≤ m) => sumN_le (LfSzA zs) h)
    generalize hg : LfSzA zs = g at *
    have HG := Lib.hid hg
    clear hv hg hmz
    go_enter Tryd.func23, Tryd.ntmps23
    go_wp2
    go_loopw [5, 1] (fun iv lv wr => ∃ k : Nat, k ≤ m ∧ iv = .int .i64 k ∧ Hid ((m : Int) + sumN g k ≤ l) ∧ lv = .int .i64 (l - m - sumN g k) ∧ Hid (Below w.heap.size w wr)) (fun i _ _ => m - (intOf i).toNat)
    case atStart => exact ⟨0, by omega, rfl, Lib.hid (by simp [sumN]; omega), by simp [sumN], Lib.hid (Below.refl _ _)⟩
    case round =>
      obtain ⟨k, hk, rfl, hs, rfl, hw⟩ := hrel
      have hs' := hs.out
      by_cases hlt : k < m
      · obtain ⟨b, off, rfl, hcs⟩ := (HV.out.below hw.out).2.resolve_left (by omega)
        obtain ⟨v, hvl, ha⟩ := hcs k hlt
        have HVL := Lib.hid hvl
        obtain ⟨ao6, n6, c6, rfl, _, _, _, _, _, _, _, _⟩ := hvl.out
        have c0 : wr.cell? ⟨b, off + k * 9, none⟩ = some _ := ha.at 0 rfl
        have c1 : wr.cell? ⟨b, off + k * 9 + 1, none⟩ = some _ := ha.at 1 rfl
        have c2 : wr.cell? ⟨b, off + k * 9 + 2, none⟩ = some _ := ha.at 2 rfl
        have c3 : wr.cell? ⟨b, off + k * 9 + 3, none⟩ = some _ := ha.at 3 rfl
        have c4 : wr.cell? ⟨b, off + k * 9 + 4, none⟩ = some _ := ha.at 4 rfl
        have c5 : wr.cell? ⟨b, off + k * 9 + 5, none⟩ = some _ := ha.at 5 rfl
        have c6 : wr.cell? ⟨b, off + k * 9 + 6, none⟩ = some _ := ha.at 6 rfl
        have c7 : wr.cell? ⟨b, off + k * 9 + 7, none⟩ = some _ := ha.at 7 rfl
        have c8 : wr.cell? ⟨b, off + k * 9 + 8, none⟩ = some _ := ha.at 8 rfl
        have hbw := ha.1
        obtain ⟨sz, hsz⟩ : ∃ q, LfSz (zs.getD k lf0) = q := ⟨_, rfl⟩
        have HS := Lib.hid (show sumN g (k + 1) = sumN g k + sz by
          show sumN g k + g k = _
          rw [← HG.out, ← hsz]; rfl)
        have HSZ := Lib.hid hsz
        clear hcs hsz ha hvl
        generalize zs.getD k lf0 = z at *
        generalize hsk : sumN g k = sk at *
        by_cases hq : ((sz : Nat) : Int) ≤ l - m - sk
        · have HQ := Lib.hid (lft_ok hq)
          have e3 : decide (l - (m : Int) - sk - ((sz : Nat) : Int) < 0) = false := by simp; omega
          go_wp2_with fail
          refine (szLf_any _ z _ _ (by omega) (by omega) HVL.out).mono ?_
          rintro e w1 ⟨rfl, g1⟩
          have HB := Lib.hid (bseq hw.out g1)
          clear g1
          rw [HSZ.out, HQ.out]
          go_wp2
          go_roundw
          case rel => exact ⟨k + 1, by omega, by go_num, Lib.hid (by rw [HS.out]; omega), by rw [HS.out]; exact val_int (by omega), HB⟩
          case measure => simp [intOf]; omega
        · have HQ := Lib.hid (lft_no hq)
          have HR := Lib.hid (show lft l (LfsSz zs) = -1 by
            refine lft_no ?_
            have h1 := HL.out (k + 1) (by omega)
            rw [HF.out]; rw [HS.out] at h1; omega)
          go_wp2_with fail
          refine (szLf_any _ z _ _ (by omega) (by omega) HVL.out).mono ?_
          rintro e w1 ⟨rfl, g1⟩
          have HB := Lib.hid (bseq hw.out g1)
          clear g1
          rw [HSZ.out, HQ.out]
          go_wp2
          go_ret
          exact ⟨ret_int HR.out.symm, HB.out⟩
      · obtain rfl : k = m := by omega
        have HR := Lib.hid (show lft l (LfsSz zs) = l - k - sumN g k by rw [lft_ok (by rw [HF.out]; omega), HF.out]; omega)
        go_wp2
        go_ret
        exact ⟨ret_int HR.out.symm, hw.out⟩
  · have HR := Lib.hid (show lft l (LfsSz zs) = -1 by refine lft_no ?_; unfold LfsSz; omega)
    have e2 : decide (l - (m : Int) < 0) = true := by simp; omega
    clear hv
    go_enter Tryd.func23, Tryd.ntmps23
    go_wp2
    go_ret
    exact ⟨ret_int HR.out.symm, Below.refl _ _⟩
theorem infoLfs : (Tryd.prog.info? 33).map (fun i => (i.zero, i.size, i.bytes)) = some (some (.agg #[.string ⟨#[]⟩, .string ⟨#[]⟩, .int .i64 0, .string ⟨#[]⟩, .int .i64 0, .int .i64 0, .int .i64 0, .int .i64 0, .slice none 0 0]), 9, 112) := by kernel_rfl
theorem makeLfs (n : Nat) (hn : n ≤ 1048576) (w : World) : (Instr.makeSlice 51 (.int .i64 (n : Int)) (.int .i64 (n : Int))).run Tryd.prog w = .ok (.slice (some ⟨w.heap.size, 0, none⟩) n n) (w.alloc (.cells (madeCells #[.string ⟨#[]⟩, .string ⟨#[]⟩, .int .i64 0, .string ⟨#[]⟩, .int .i64 0, .int .i64 0, .int .i64 0, .int .i64 0, .slice none 0 0] (n * 9)) 33)) := by
  obtain ⟨i0, hi, hz0, hz1, hz2⟩ := info_parts infoLfs
  have h := run_make (P := Tryd.prog) w 51 33 i0 _ Tryd.underlying51 hi hz0 .i64 .i64 n n (by omega) (by omega) (by rw [hz2]; omega) (by omega)
  rw [hz1, show (Value.agg #[.string ⟨#[]⟩, .string ⟨#[]⟩, .int .i64 0, .string ⟨#[]⟩, .int .i64 0, .int .i64 0, .int .i64 0, .int .i64 0, .slice none 0 0]).cells = #[.string ⟨#[]⟩, .string ⟨#[]⟩, .int .i64 0, .string ⟨#[]⟩, .int .i64 0, .int .i64 0, .int .i64 0, .int .i64 0, .slice none 0 0] from rfl] at h
  simpa using h
theorem Lfs_step {zc vs : Nat → Value} {k : Nat} {x0 x1 x2 x3 x4 x5 x6 x7 x8 : Value} (j : Nat) :
    (if j = k * 9 + 8 then x8 else if j = k * 9 + 7 then x7 else if j = k * 9 + 6 then x6 else if j = k * 9 + 5 then x5 else if j = k * 9 + 4 then x4 else if j = k * 9 + 3 then x3 else if j = k * 9 + 2 then x2 else if j = k * 9 + 1 then x1 else if j = k * 9 then x0 else rwF 9 zc vs k j) = rwF 9 zc (fun i => if i = k then .agg #[x0, x1, x2, x3, x4, x5, x6, x7, x8] else vs i) (k + 1) j := by
  by_cases h8 : j = k * 9 + 8
  · subst h8
    rw [if_pos rfl]
    exact (rwF_new (m := 9) (k := k) (q := 8) (zc := zc) (vs := vs) (v := .agg #[x0, x1, x2, x3, x4, x5, x6, x7, x8]) (by omega)).symm
  rw [if_neg h8]
  by_cases h7 : j = k * 9 + 7
  · subst h7
    rw [if_pos rfl]
    exact (rwF_new (m := 9) (k := k) (q := 7) (zc := zc) (vs := vs) (v := .agg #[x0, x1, x2, x3, x4, x5, x6, x7, x8]) (by omega)).symm
  rw [if_neg h7]
  by_cases h6 : j = k * 9 + 6
  · subst h6
    rw [if_pos rfl]
    exact (rwF_new (m := 9) (k := k) (q := 6) (zc := zc) (vs := vs) (v := .agg #[x0, x1, x2, x3, x4, x5, x6, x7, x8]) (by omega)).symm
  rw [if_neg h6]
  by_cases h5 : j = k * 9 + 5
  · subst h5
    rw [if_pos rfl]
    exact (rwF_new (m := 9) (k := k) (q := 5) (zc := zc) (vs := vs) (v := .agg #[x0, x1, x2, x3, x4, x5, x6, x7, x8]) (by omega)).symm
  rw [if_neg h5]
  by_cases h4 : j = k * 9 + 4
  · subst h4
    rw [if_pos rfl]
    exact (rwF_new (m := 9) (k := k) (q := 4) (zc := zc) (vs := vs) (v := .agg #[x0, x1, x2, x3, x4, x5, x6, x7, x8]) (by omega)).symm
  rw [if_neg h4]
  by_cases h3 : j = k * 9 + 3
  · subst h3
    rw [if_pos rfl]
    exact (rwF_new (m := 9) (k := k) (q := 3) (zc := zc) (vs := vs) (v := .agg #[x0, x1, x2, x3, x4, x5, x6, x7, x8]) (by omega)).symm
  rw [if_neg h3]
  by_cases h2 : j = k * 9 + 2
  · subst h2
    rw [if_pos rfl]
    exact (rwF_new (m := 9) (k := k) (q := 2) (zc := zc) (vs := vs) (v := .agg #[x0, x1, x2, x3, x4, x5, x6, x7, x8]) (by omega)).symm
  rw [if_neg h2]
  by_cases h1 : j = k * 9 + 1
  · subst h1
    rw [if_pos rfl]
    exact (rwF_new (m := 9) (k := k) (q := 1) (zc := zc) (vs := vs) (v := .agg #[x0, x1, x2, x3, x4, x5, x6, x7, x8]) (by omega)).symm
  rw [if_neg h1]
  by_cases h0 : j = k * 9
  · subst h0
    rw [if_pos rfl]
    exact (rwF_new (m := 9) (k := k) (q := 0) (zc := zc) (vs := vs) (v := .agg #[x0, x1, x2, x3, x4, x5, x6, x7, x8]) (by omega)).symm
  rw [if_neg h0]
  exact (rwF_same (by omega) (fun q hq => by omega)).symm
theorem LfO.lower {lo lo' : Nat} {w : World} {v : Value} {z : Lf} (h : LfO lo w v z) (hl : lo' ≤ lo) : LfO lo' w v z := by
  obtain ⟨og6, oh6, h0, hs, o0_0, o1_0, o2_0, o3_0, o4_0, o5_0, o6_0, o6_1, o6_2, o6_3⟩ := h.out
  exact ⟨og6, oh6, h0, hs, o0_0, o1_0, o2_0, o3_0, o4_0, o5_0, Nat.le_trans hl o6_0, o6_1, o6_2, o6_3⟩
theorem LfO.set {lo : Nat} {w : World} {v : Value} {z : Lf} (h : LfO lo w v z) (a : Addr) (u : Value) (ha : a.block < lo) : LfO lo (w.setCell a u) v z := by
  obtain ⟨og6, oh6, h0, hs, o0_0, o1_0, o2_0, o3_0, o4_0, o5_0, o6_0, o6_1, o6_2, o6_3⟩ := h.out
  exact ⟨og6, oh6, h0, hs, o0_0, o1_0, o2_0, o3_0, o4_0, o5_0, o6_0, o6_1, by rw [World.size_setCell]; exact o6_2, row_set o6_3 _ _ (by omega)⟩
theorem LfO.size {lo : Nat} {w : World} {v : Value} {z : Lf} (h : LfO lo w v z) : v.cells.size = 9 := by
  obtain ⟨og6, oh6, rfl, hs, o0_0, o1_0, o2_0, o3_0, o4_0, o5_0, o6_0, o6_1, o6_2, o6_3⟩ := h.out
  rfl
/-- A copy of a law's own: the structs lie in a block, what they lead to behind it. -/
def LfsO (lo : Nat) (w : World) (b : Nat) (zs : List Lf) : Prop := lo ≤ b ∧ ∃ vs : Nat → Value, w.rowIs b 33 (zs.length * 9) (rwF 9 (fun q => (#[.string ⟨#[]⟩, .string ⟨#[]⟩, .int .i64 0, .string ⟨#[]⟩, .int .i64 0, .int .i64 0, .int .i64 0, .int .i64 0, .slice none 0 0] : Array Value).getD q (.bool false)) vs zs.length) ∧ ∀ j, j < zs.length → LfO (b + 1) w (vs j) (zs.getD j lf0)
theorem LfsO.below {lo : Nat} {w w' : World} {b : Nat} {zs : List Lf} (h : LfsO lo w b zs) (hb : Below w.heap.size w w') : LfsO lo w' b zs := by
  obtain ⟨h1, vs, h2, h3⟩ := h
  exact ⟨h1, vs, rowIs_below h2 hb, fun j hj => (h3 j hj).below hb⟩
set_option maxRecDepth 100000 in
set_option maxHeartbeats 4000000 in
theorem toLfs_own (ao : Option Addr) (m c : Nat) (zs : List Lf) (w : World) (hm : LfsSz zs ≤ 1048576) (hv : LfsL w ao m zs) :
    Calls Tryd.prog 25 #[.slice ao m c] w fun e w' => ∃ b, e = .returned (.slice (some ⟨b, 0, none⟩) m m) ∧ LfsO w.heap.size w' b zs ∧ Below w.heap.size w w' := by
  have HV := Lib.hid hv
  have HZ := Lib.hid hv.1
  have HM := Lib.hid hm
  have hm1 : m ≤ 1048576 := by have := hv.1; unfold LfsSz at hm; omega
  clear hv hm
  have hmk := makeLfs m hm1
  obtain ⟨ZC, hZC⟩ : ∃ f, (fun q => (#[.string ⟨#[]⟩, .string ⟨#[]⟩, .int .i64 0, .string ⟨#[]⟩, .int .i64 0, .int .i64 0, .int .i64 0, .int .i64 0, .slice none 0 0] : Array Value).getD q (.bool false)) = f := ⟨_, rfl⟩
  have HZC := Lib.hid hZC
  clear hZC
  go_enter Tryd.func25, Tryd.ntmps25
  go_wp2
  clear hmk
  go_loopw [4] (fun iv wr => ∃ k : Nat, k ≤ m ∧ iv = .int .i64 k ∧ Hid (∃ vs : Nat → Value, wr.rowIs w.heap.size 33 (m * 9) (rwF 9 ZC vs k) ∧ ∀ j, j < k → LfO (w.heap.size + 1) wr (vs j) (zs.getD j lf0)) ∧ Hid (Below w.heap.size w wr)) (fun i _ => m - (intOf i).toNat)
  case atStart => exact ⟨0, by omega, rfl, Lib.hid ⟨fun _ => .bool false, by rw [← HZC.out]; exact made_rw w m 9 (by omega) _ rfl _ _, fun j hj => by omega⟩, Lib.hid (one_alloc _)⟩
  case round =>
    obtain ⟨k, hk, rfl, hr, hb⟩ := hrel
    by_cases hlt : k < m
    · obtain ⟨b, off, rfl, hcs⟩ := (HV.out.below hb.out).2.resolve_left (by omega)
      obtain ⟨v, hvl, ha⟩ := hcs k hlt
      have HVL := Lib.hid hvl
      have HLN := Lib.hid (Lfs_le HM.out (j := k) (by have := HZ.out; omega))
      obtain ⟨ao6, n6, c6, rfl, _, _, _, _, _, _, _, _⟩ := hvl.out
      have c0 : wr.cell? ⟨b, off + k * 9, none⟩ = some _ := ha.at 0 rfl
      have c1 : wr.cell? ⟨b, off + k * 9 + 1, none⟩ = some _ := ha.at 1 rfl
      have c2 : wr.cell? ⟨b, off + k * 9 + 2, none⟩ = some _ := ha.at 2 rfl
      have c3 : wr.cell? ⟨b, off + k * 9 + 3, none⟩ = some _ := ha.at 3 rfl
      have c4 : wr.cell? ⟨b, off + k * 9 + 4, none⟩ = some _ := ha.at 4 rfl
      have c5 : wr.cell? ⟨b, off + k * 9 + 5, none⟩ = some _ := ha.at 5 rfl
      have c6 : wr.cell? ⟨b, off + k * 9 + 6, none⟩ = some _ := ha.at 6 rfl
      have c7 : wr.cell? ⟨b, off + k * 9 + 7, none⟩ = some _ := ha.at 7 rfl
      have c8 : wr.cell? ⟨b, off + k * 9 + 8, none⟩ = some _ := ha.at 8 rfl
      have hbw := ha.1
      obtain ⟨vs, hrow, hown⟩ := hr.out
      have HO := Lib.hid hown
      have hgw := hrow.lt
      have HROW := Lib.hid hrow
      obtain ⟨z, hz⟩ : ∃ z, zs.getD k lf0 = z := ⟨_, rfl⟩
      have HZK := Lib.hid hz
      clear hcs hvl ha hrow hown hr
      rw [hz] at HVL HLN c0 c1 c2 c3 c4 c5 c6 c7 c8
      clear hz
      go_wp2_with fail
      refine (toLf_own _ z _ HLN.out HVL.out).mono ?_
      rintro e' w1 ⟨v', rfl, ho, hb1⟩
      have HO1 := Lib.hid ho
      obtain ⟨og6, oh6, rfl, _, _, _, _, _, _, _, _, _, _, _⟩ := ho.out
      have HB1 := Lib.hid hb1
      have hr1 := rowIs_below HROW.out hb1
      obtain ⟨u0, d0⟩ : ∃ u, w1.cell? ⟨w.heap.size, k * 9, none⟩ = some u := ⟨_, hr1.cell (by omega)⟩
      obtain ⟨u1, d1⟩ : ∃ u, w1.cell? ⟨w.heap.size, k * 9 + 1, none⟩ = some u := ⟨_, hr1.cell (by omega)⟩
      obtain ⟨u2, d2⟩ : ∃ u, w1.cell? ⟨w.heap.size, k * 9 + 2, none⟩ = some u := ⟨_, hr1.cell (by omega)⟩
      obtain ⟨u3, d3⟩ : ∃ u, w1.cell? ⟨w.heap.size, k * 9 + 3, none⟩ = some u := ⟨_, hr1.cell (by omega)⟩
      obtain ⟨u4, d4⟩ : ∃ u, w1.cell? ⟨w.heap.size, k * 9 + 4, none⟩ = some u := ⟨_, hr1.cell (by omega)⟩
      obtain ⟨u5, d5⟩ : ∃ u, w1.cell? ⟨w.heap.size, k * 9 + 5, none⟩ = some u := ⟨_, hr1.cell (by omega)⟩
      obtain ⟨u6, d6⟩ : ∃ u, w1.cell? ⟨w.heap.size, k * 9 + 6, none⟩ = some u := ⟨_, hr1.cell (by omega)⟩
      obtain ⟨u7, d7⟩ : ∃ u, w1.cell? ⟨w.heap.size, k * 9 + 7, none⟩ = some u := ⟨_, hr1.cell (by omega)⟩
      obtain ⟨u8, d8⟩ : ∃ u, w1.cell? ⟨w.heap.size, k * 9 + 8, none⟩ = some u := ⟨_, hr1.cell (by omega)⟩
      have f0 := hr1.frozen (k * 9)
      have f1 := hr1.frozen (k * 9 + 1)
      have f2 := hr1.frozen (k * 9 + 2)
      have f3 := hr1.frozen (k * 9 + 3)
      have f4 := hr1.frozen (k * 9 + 4)
      have f5 := hr1.frozen (k * 9 + 5)
      have f6 := hr1.frozen (k * 9 + 6)
      have f7 := hr1.frozen (k * 9 + 7)
      have f8 := hr1.frozen (k * 9 + 8)
      have HR1 := Lib.hid hr1
      have hw1 := hb1.size
      clear hb1 hr1 ho c0 c1 c2 c3 c4 c5 c6 c7 c8
      go_wp2
      go_roundw
      case rel =>
        refine ⟨k + 1, by omega, by go_num, Lib.hid ⟨fun i => if i = k then .agg #[.string z.id, .string z.fl, .int .i64 z.nu, .string z.ve.1, .int .i64 z.ve.2.1, .int .i64 z.ve.2.2, .int .i64 z.wd, .int .i64 z.ln, .slice (some ⟨og6, 0, none⟩) z.df.length z.df.length] else vs i, (((((((((HR1.out.set (k * 9) _).set (k * 9 + 1) _).set (k * 9 + 2) _).set (k * 9 + 3) _).set (k * 9 + 4) _).set (k * 9 + 5) _).set (k * 9 + 6) _).set (k * 9 + 7) _).set (k * 9 + 8) _).congr (fun j _ => Lfs_step j), fun j hj => ?_⟩, Lib.hid ((((((((((bseq hb.out HB1.out).setCell (Nat.le_refl _) _).setCell (Nat.le_refl _) _).setCell (Nat.le_refl _) _).setCell (Nat.le_refl _) _).setCell (Nat.le_refl _) _).setCell (Nat.le_refl _) _).setCell (Nat.le_refl _) _).setCell (Nat.le_refl _) _).setCell (Nat.le_refl _) _)⟩
        by_cases hjk : j = k
        · subst hjk
          dsimp only
          rw [if_pos rfl, HZK.out]
          exact (((((((((HO1.out.lower (by omega)).set _ _ (by simp)).set _ _ (by simp)).set _ _ (by simp)).set _ _ (by simp)).set _ _ (by simp)).set _ _ (by simp)).set _ _ (by simp)).set _ _ (by simp)).set _ _ (by simp)
        · dsimp only
          rw [if_neg hjk]
          exact ((((((((((HO.out j (by omega)).below HB1.out).set _ _ (by simp)).set _ _ (by simp)).set _ _ (by simp)).set _ _ (by simp)).set _ _ (by simp)).set _ _ (by simp)).set _ _ (by simp)).set _ _ (by simp)).set _ _ (by simp)
      case measure => simp [intOf]; omega
    · obtain rfl : k = m := by omega
      go_wp2
      go_ret
      obtain ⟨vs, hrow, hown⟩ := hr.out
      rw [← HZC.out] at hrow
      have e := HZ.out
      subst e
      exact ⟨_, rfl, ⟨Nat.le_refl _, vs, hrow, hown⟩, hb.out⟩
/-- A slice at the start of a block, or an empty one. -/
def LfsV (w : World) (ao : Option Addr) (n : Nat) (zs : List Lf) : Prop := n = zs.length ∧ (n = 0 ∨ ∃ b, ao = some ⟨b, 0, none⟩ ∧ ∀ j, j < n → ∃ v, LfV w v (zs.getD j lf0) ∧ AtV w b (j * 9) v)
theorem LfsV.below {w w' : World} {ao : Option Addr} {n : Nat} {zs : List Lf} (h : LfsV w ao n zs) (hb : Below w.heap.size w w') : LfsV w' ao n zs :=
  ⟨h.1, h.2.imp id fun ⟨b, e, h1⟩ => ⟨b, e, fun j hj => by obtain ⟨v, q1, q2⟩ := h1 j hj; exact ⟨v, q1.below hb, q2.below hb⟩⟩⟩
theorem LfsO.view {lo : Nat} {w : World} {b : Nat} {zs : List Lf} (h : LfsO lo w b zs) : LfsV w (some ⟨b, 0, none⟩) zs.length zs := by
  obtain ⟨h1, vs, h2, h3⟩ := h
  refine ⟨rfl, Or.inr ⟨b, rfl, fun j hj => ⟨vs j, (h3 j hj).view, h2.lt, fun i hi => ?_⟩⟩⟩
  rw [(h3 j hj).size] at hi
  have h4 := h2.cell (i := j * 9 + i) (by
    have := Nat.mul_le_mul_right 9 (show j + 1 ≤ zs.length by omega)
    omega)
  rw [rwF_at hi hj] at h4
  rw [h4, Array.getElem?_eq_getElem (by rw [(h3 j hj).size]; exact hi), Array.getD, dif_pos (by rw [(h3 j hj).size]; exact hi)]
  rfl
theorem LfsO.viewN {lo n : Nat} {w : World} {b : Nat} {zs : List Lf} (hz : n = zs.length) (h : LfsO lo w b zs) : LfsV w (some ⟨b, 0, none⟩) n zs := hz ▸ h.view
set_option maxRecDepth 100000 in
set_option maxHeartbeats 4000000 in
theorem eqLfs_same (ao bo : Option Addr) (m c d : Nat) (zs : List Lf) (w : World) (hm : m ≤ 1048576) (ha : LfsV w ao m zs) (hb : LfsV w bo m zs) :
    Calls Tryd.prog 27 #[.slice ao m c, .slice bo m d] w fun e w' => e = .returned (.bool true) ∧ Below w.heap.size w w' := by
  have HA := Lib.hid ha
  have HB := Lib.hid hb
  clear ha hb
  go_enter Tryd.func27, Tryd.ntmps27
  go_wp2
  go_loopw [5] (fun iv wr => ∃ k : Nat, k ≤ m ∧ iv = .int .i64 k ∧ Hid (Below w.heap.size w wr)) (fun i _ => m - (intOf i).toNat)
  case atStart => exact ⟨0, by omega, rfl, Lib.hid (Below.refl _ _)⟩
  case round =>
    obtain ⟨k, hk, rfl, hw⟩ := hrel
    by_cases hlt : k < m
    · obtain ⟨a, rfl, hca⟩ := (HA.out.below hw.out).2.resolve_left (by omega)
      obtain ⟨b, rfl, hcb⟩ := (HB.out.below hw.out).2.resolve_left (by omega)
      obtain ⟨va, hva, ha⟩ := hca k hlt
      obtain ⟨vb, hvb, hb⟩ := hcb k hlt
      have HVA := Lib.hid hva
      have HVB := Lib.hid hvb
      generalize zs.getD k lf0 = z at *
      obtain ⟨ao6a, n6a, c6a, rfl, _, _, _, _, _, _, _, _, _⟩ := hva.out
      obtain ⟨ao6b, n6b, c6b, rfl, _, _, _, _, _, _, _, _, _⟩ := hvb.out
      have c0 : wr.cell? ⟨a, k * 9, none⟩ = some _ := ha.at 0 rfl
      have c1 : wr.cell? ⟨a, k * 9 + 1, none⟩ = some _ := ha.at 1 rfl
      have c2 : wr.cell? ⟨a, k * 9 + 2, none⟩ = some _ := ha.at 2 rfl
      have c3 : wr.cell? ⟨a, k * 9 + 3, none⟩ = some _ := ha.at 3 rfl
      have c4 : wr.cell? ⟨a, k * 9 + 4, none⟩ = some _ := ha.at 4 rfl
      have c5 : wr.cell? ⟨a, k * 9 + 5, none⟩ = some _ := ha.at 5 rfl
      have c6 : wr.cell? ⟨a, k * 9 + 6, none⟩ = some _ := ha.at 6 rfl
      have c7 : wr.cell? ⟨a, k * 9 + 7, none⟩ = some _ := ha.at 7 rfl
      have c8 : wr.cell? ⟨a, k * 9 + 8, none⟩ = some _ := ha.at 8 rfl
      have d0 : wr.cell? ⟨b, k * 9, none⟩ = some _ := hb.at 0 rfl
      have d1 : wr.cell? ⟨b, k * 9 + 1, none⟩ = some _ := hb.at 1 rfl
      have d2 : wr.cell? ⟨b, k * 9 + 2, none⟩ = some _ := hb.at 2 rfl
      have d3 : wr.cell? ⟨b, k * 9 + 3, none⟩ = some _ := hb.at 3 rfl
      have d4 : wr.cell? ⟨b, k * 9 + 4, none⟩ = some _ := hb.at 4 rfl
      have d5 : wr.cell? ⟨b, k * 9 + 5, none⟩ = some _ := hb.at 5 rfl
      have d6 : wr.cell? ⟨b, k * 9 + 6, none⟩ = some _ := hb.at 6 rfl
      have d7 : wr.cell? ⟨b, k * 9 + 7, none⟩ = some _ := hb.at 7 rfl
      have d8 : wr.cell? ⟨b, k * 9 + 8, none⟩ = some _ := hb.at 8 rfl
      have hbw := hb.1
      have haw := ha.1
      clear hca hcb ha hb hva hvb
      go_wp2
      refine wp_region_below (by kernel_rfl) (by kernel_rfl) ?_
      repeat (first | (refine wq_skip ?_ ?_; (focus (go_simp; (first | done | (simp [undef]; done)))); (try simp only [Act.put, List.setIfInBounds_toArray, List.set_cons_zero, List.set_cons_succ])) | (refine wq_val ?_ ?_; (focus (go_simp; done)); apply Exists.intro; refine ⟨fun w1 hw1 => ?_, ?_⟩; (obtain ⟨hc, hf⟩ := bcell hw1; clear hw1; go_simp; (first | done | with_reducible rfl | (with_reducible exact eql2 _ _ _) | (with_reducible exact neq2 _ _ _))); (try simp only [Act.put, List.setIfInBounds_toArray, List.set_cons_zero, List.set_cons_succ])) | (refine wq_call 16 ?_ ?_; (focus (go_simp; done)); apply Exists.intro; refine ⟨fun w1 hw1 => ?_, ?_⟩; (focus (clear hw1; go_simp; (first | done | with_reducible rfl))); apply Exists.intro; refine ⟨fun w1 hw1 => ?_, ?_⟩; (focus (exact calls_below hw1 (eqLf_same _ _ z _ (HVA.out.below hw1) (HVB.out.below hw1)); done)); (try simp only [Act.put, List.setIfInBounds_toArray, List.set_cons_zero, List.set_cons_succ])))
      refine wq_nil ?_
      intro w1 hb1
      have HB1 := Lib.hid hb1
      clear hb1
      go_wp2
      go_roundw
      case rel => exact ⟨k + 1, by omega, by go_num, Lib.hid (bseq hw.out HB1.out)⟩
      case measure => simp [intOf]; omega
    · go_wp2
      go_ret
      exact ⟨rfl, hw.out⟩
end Go.Proofs.YtcjpplijbdfgbaaDoor
namespace Go.Proofs.YtcjpplijbdfgbaaDoor
open Seq2 Go.ChangeShapes Go.WideShapes Go.ChangeAt Go.RowKit
set_option linter.unusedVariables false
set_option linter.unusedSimpArgs false

theorem Lay.other {w : World} {b c : Nat} {t : TypeId} {i : Nat} {f : Nat → Value} (h : Lay w b c t i f) (k j : Nat) (v : Value) (hn : b ≠ k) : Lay (w.setCell ⟨k, j, none⟩ v) b c t i f := h.keep ((grown_setC w ⟨k, j, none⟩ v).block b h.lt (fun e => hn (by cases e; rfl)))
def LfD (zs : List Lf) (j : Nat) : Nat := (zs.getD j lf0).df.length
def LfMk (zs : List Lf) (j : Nat) : Nat := 8 + LfD zs j * 4
/-- A slice that can be written. -/
structure LfsX (lo hi : Nat) (w : World) (b : Nat) (zs : List Lf) : Prop where
  ge : lo ≤ b
  lt : b < hi
  sz : LfsSz zs ≤ 1048576
  out : ∃ cur, w.heap[b]? = some (.cells cur 33 (0, 0)) ∧ cur.size = zs.length * 9 ∧ ∀ j, j < zs.length → ∃ r, cur[j * 9 + 8]? = some (.slice (some ⟨r, 0, none⟩) (LfD zs j) (LfD zs j)) ∧ r ≠ b ∧ lo ≤ r ∧ r < hi ∧ Lay w r (LfD zs j * 4) 37 0 (fun _ => .bool false)
theorem LfsX.of {lo : Nat} {w : World} {b : Nat} {zs : List Lf} (hz : LfsSz zs ≤ 1048576) (h : LfsO lo w b zs) : LfsX lo w.heap.size w b zs := by
  obtain ⟨h1, vs, h2, h3⟩ := h
  obtain ⟨cur, c1, c2, c3⟩ := Lay.row h2
  refine ⟨h1, (Array.getElem?_eq_some_iff.1 c1).1, hz, cur, c1, c2, fun j hj => ?_⟩
  obtain ⟨og6, oh6, e, hs, _, _, _, _, _, _, o0, o1, o2, o3⟩ := (h3 j hj).out
  have h4 := c3 (j * 9 + 8) (by have := Nat.mul_le_mul_right 9 (show j + 1 ≤ zs.length by omega); omega)
  rw [rwF_at (by omega) hj, e] at h4
  exact ⟨og6, h4, by omega, by omega, by omega, (Lay.row o3).less (Nat.zero_le _) (fun j hj => absurd hj (by omega))⟩
theorem LfsX.below {lo hi : Nat} {w w' : World} {b : Nat} {zs : List Lf} (h : LfsX lo hi w b zs) (hb : Below w.heap.size w w') : LfsX lo hi w' b zs := by
  obtain ⟨h1, h2, hz, cur, h3, h4, h5⟩ := h
  refine ⟨h1, h2, hz, cur, (hb.block b (Array.getElem?_eq_some_iff.1 h3).1).trans h3, h4, fun j hj => ?_⟩
  obtain ⟨r, q1, q2, q3, q4, q5⟩ := h5 j hj
  exact ⟨r, q1, q2, q3, q4, q5.below hb⟩
theorem LfsX.put {lo hi : Nat} {w : World} {b : Nat} {zs : List Lf} (h : LfsX lo hi w b zs) (i : Nat) (v : Value) (hi' : ∀ j, i ≠ j * 9 + 8) : LfsX lo hi (w.setCell ⟨b, i, none⟩ v) b zs := by
  obtain ⟨h1, h2, hz, cur, h3, h4, h5⟩ := h
  refine ⟨h1, h2, hz, _, heap_setCell_same _ _ _ _ _ _ h3, by simpa using h4, fun j hj => ?_⟩
  obtain ⟨r, q1, q2, q3, q4, q5⟩ := h5 j hj
  refine ⟨r, ?_, q2, q3, q4, q5.other _ _ _ q2⟩
  rw [Array.getElem?_setIfInBounds_ne (hi' j)]
  exact q1
theorem LfsX.inner {lo hi : Nat} {w w' : World} {b r n i i' : Nat} {f f' : Nat → Value} {zs : List Lf} (h : LfsX lo hi w b zs) (hrb : r ≠ b) (h1 : Lay w r (n * 4) 37 i f) (h2 : Lay w' r (n * 4) 37 i' f') (hg : Btw r (r + 1) w w') : LfsX lo hi w' b zs := by
  obtain ⟨g1, g2, hz, cur, h3, h4, h5⟩ := h
  refine ⟨g1, g2, hz, cur, (hg.block b (Array.getElem?_eq_some_iff.1 h3).1 (by omega)).trans h3, h4, fun j hj => ?_⟩
  obtain ⟨r', q1, q2, q3, q4, q5⟩ := h5 j hj
  by_cases e : r' = r
  · subst e
    obtain ⟨c1, p1, s1, _⟩ := h1
    obtain ⟨c2, p2, s2, _⟩ := q5
    rw [p1] at p2
    cases p2
    exact ⟨r', q1, q2, q3, q4, by rw [← s2, s1]; exact h2.less (Nat.zero_le _) (fun j hj => absurd hj (by omega))⟩
  · exact ⟨r', q1, q2, q3, q4, q5.btw hg (by omega)⟩
theorem LfsX.any {lo hi : Nat} {w : World} {b i : Nat} {zs : List Lf} (h : LfsX lo hi w b zs) (hi' : i < zs.length * 9) : (∃ x, w.cell? ⟨b, i, none⟩ = some x) ∧ w.frozen? ⟨b, i, none⟩ = false := by
  obtain ⟨h1, h2, hz, cur, h3, h4, h5⟩ := h
  obtain ⟨x, hx⟩ := arr_some (cur := cur) (j := i) (by omega)
  exact ⟨⟨x, (cell_of_arr h3 hx).1⟩, (cell_of_arr h3 hx).2⟩
theorem LfsX.blk {lo hi : Nat} {w : World} {b : Nat} {zs : List Lf} (h : LfsX lo hi w b zs) : b < w.heap.size := by
  obtain ⟨h1, h2, hz, cur, h3, h4, h5⟩ := h
  exact (Array.getElem?_eq_some_iff.1 h3).1
theorem LfsX.at {lo hi : Nat} {w : World} {b j : Nat} {zs : List Lf} (h : LfsX lo hi w b zs) (hj : j < zs.length) : ∃ r, w.cell? ⟨b, j * 9 + 8, none⟩ = some (.slice (some ⟨r, 0, none⟩) (LfD zs j) (LfD zs j)) ∧ r ≠ b ∧ lo ≤ r ∧ r < hi ∧ Lay w r (LfD zs j * 4) 37 0 (fun _ => .bool false) := by
  obtain ⟨h1, h2, hz, cur, h3, h4, h5⟩ := h
  obtain ⟨r, q1, q2⟩ := h5 j hj
  exact ⟨r, (cell_of_arr h3 q1).1, q2⟩
theorem LfMk_le (zs : List Lf) (k : Nat) : sumN (LfMk zs) k ≤ 8 * k + 4 * sumN (LfSzA zs) k := by
  induction k with
  | zero => exact Nat.zero_le _
  | succ k ih =>
    have h1 : sumN (LfMk zs) (k + 1) = sumN (LfMk zs) k + (8 + LfD zs k * 4) := rfl
    have h2 : sumN (LfSzA zs) (k + 1) = sumN (LfSzA zs) k + LfSz (zs.getD k lf0) := rfl
    have h3 : LfD zs k ≤ LfSz (zs.getD k lf0) := by unfold LfD LfSz BxSz; omega
    omega
set_option maxRecDepth 100000 in
set_option maxHeartbeats 8000000 in
theorem markLfs_any (lo hi b m k0 : Nat) (zs : List Lf) (w : World) (hm : m = zs.length) (h1 : 1 ≤ k0) (hk : k0 ≤ 50000000) (h : LfsX lo hi w b zs) :
    Calls Tryd.prog 34 #[.slice (some ⟨b, 0, none⟩) m m, .int .i64 (k0 : Nat)] w fun e w' => ∃ k : Nat, e = .returned (.int .i64 (k : Int)) ∧ (1 ≤ k ∧ k ≤ 100000000) ∧ Btw lo hi w w' := by
  have HM := Lib.hid hm
  have H := Lib.hid h
  have HL := Lib.hid (show ∀ k, k ≤ m → sumN (LfMk zs) k ≤ 20000000 from fun k hk => by
    have h1 := LfMk_le zs k
    have h2 := sumN_le (LfSzA zs) (show k ≤ zs.length by omega)
    have h3 := h.sz
    unfold LfsSz at h3
    omega)
  have HLD := Lib.hid (show ∀ k, k < m → LfD zs k ≤ 1048576 from fun k hk => by
    have h1 := Lfs_le h.sz (j := k) (by omega)
    unfold LfSz BxSz at h1
    unfold LfD
    omega)
  have hm1 : m ≤ 1048576 := by have h3 := h.sz; unfold LfsSz at h3; omega
  clear h hm
  go_enter Tryd.func34, Tryd.ntmps34
  go_wp2
  go_loopw [5, 1] (fun iv kv wr => ∃ k K : Nat, k ≤ m ∧ iv = .int .i64 k ∧ kv = .int .i64 K ∧ Hid (K = k0 + sumN (LfMk zs) k) ∧ Hid (LfsX lo hi wr b zs) ∧ Hid (Btw lo hi w wr)) (fun i _ _ => m - (intOf i).toNat)
  case atStart => exact ⟨0, k0, by omega, rfl, rfl, Lib.hid rfl, H, Lib.hid (Btw.refl _ _ _)⟩
  case round =>
    obtain ⟨k, K, hk', rfl, rfl, hK, hf, hb⟩ := hrel
    by_cases hlt : k < m
    · have hbd := HL.out (k + 1) (by omega)
      have hst : sumN (LfMk zs) (k + 1) = sumN (LfMk zs) k + (8 + LfD zs k * 4) := rfl
      have hdl := HLD.out k hlt
      obtain ⟨d, hd⟩ : ∃ d, LfD zs k = d := ⟨_, rfl⟩
      have HD := Lib.hid hd
      rw [hd] at hst hdl
      have hK' := hK.out
      have HN := Lib.hid (show K + 8 + d * 4 = k0 + sumN (LfMk zs) (k + 1) by omega)
      have hK1 : 1 ≤ K := by omega
      have hK2 : K ≤ 70000000 := by omega
      have hkz : k < zs.length := by have := HM.out; omega
      clear hst hK' hbd hd
      have X0 := Lib.hid hf.out
      have B0 := Lib.hid hb.out
      go_wp2_with fail
      refine (Mk.markText_any K _ (by omega) (by omega)).mono ?_
      rintro e w1 ⟨rfl, g1⟩
      replace X0 := Lib.hid (X0.out.below g1)
      replace B0 := Lib.hid (B0.out.trans (Btw.of_below g1))
      clear g1
      obtain ⟨⟨p0_, c0_⟩, f0_⟩ := (X0.out).any (i := k * 9) (by omega)
      obtain ⟨⟨p1_, c1_⟩, f1_⟩ := (X0.out).any (i := k * 9 + 1) (by omega)
      obtain ⟨⟨p2_, c2_⟩, f2_⟩ := (X0.out).any (i := k * 9 + 2) (by omega)
      obtain ⟨⟨p3_, c3_⟩, f3_⟩ := (X0.out).any (i := k * 9 + 3) (by omega)
      obtain ⟨⟨p4_, c4_⟩, f4_⟩ := (X0.out).any (i := k * 9 + 4) (by omega)
      obtain ⟨⟨p5_, c5_⟩, f5_⟩ := (X0.out).any (i := k * 9 + 5) (by omega)
      obtain ⟨⟨p6_, c6_⟩, f6_⟩ := (X0.out).any (i := k * 9 + 6) (by omega)
      obtain ⟨⟨p7_, c7_⟩, f7_⟩ := (X0.out).any (i := k * 9 + 7) (by omega)
      have hbw := (X0.out).blk
      replace B0 := Lib.hid (B0.out.set b (k * 9) (.string (Mk.tb (Mk.mtL (K)))) X0.out.ge X0.out.lt)
      replace X0 := Lib.hid (X0.out.put (k * 9) (.string (Mk.tb (Mk.mtL (K)))) (by intro j; omega))
      have y0_ : IntKind.i64.wrap ((K : Int) + 1) = (K : Int) + 1 := IntWalk.i64_in _ (by omega)
      have q1_ := Lib.hid (show ((K : Int) + 1) = ((K + 1 : Nat) : Int) by omega)
      go_wp2_with fail
      rw [q1_.out]
      refine (Mk.markText_any (K + 1) _ (by omega) (by omega)).mono ?_
      rintro e w2 ⟨rfl, g2⟩
      replace X0 := Lib.hid (X0.out.below g2)
      replace B0 := Lib.hid (B0.out.trans (Btw.of_below g2))
      clear g2
      clear hbw c0_ f0_ c1_ f1_ c2_ f2_ c3_ f3_ c4_ f4_ c5_ f5_ c6_ f6_ c7_ f7_
      obtain ⟨⟨p0_, c0_⟩, f0_⟩ := (X0.out).any (i := k * 9) (by omega)
      obtain ⟨⟨p1_, c1_⟩, f1_⟩ := (X0.out).any (i := k * 9 + 1) (by omega)
      obtain ⟨⟨p2_, c2_⟩, f2_⟩ := (X0.out).any (i := k * 9 + 2) (by omega)
      obtain ⟨⟨p3_, c3_⟩, f3_⟩ := (X0.out).any (i := k * 9 + 3) (by omega)
      obtain ⟨⟨p4_, c4_⟩, f4_⟩ := (X0.out).any (i := k * 9 + 4) (by omega)
      obtain ⟨⟨p5_, c5_⟩, f5_⟩ := (X0.out).any (i := k * 9 + 5) (by omega)
      obtain ⟨⟨p6_, c6_⟩, f6_⟩ := (X0.out).any (i := k * 9 + 6) (by omega)
      obtain ⟨⟨p7_, c7_⟩, f7_⟩ := (X0.out).any (i := k * 9 + 7) (by omega)
      have hbw := (X0.out).blk
      replace B0 := Lib.hid (B0.out.set b (k * 9 + 1) (.string (Mk.tb (Mk.mtL (K + 1)))) X0.out.ge X0.out.lt)
      replace X0 := Lib.hid (X0.out.put (k * 9 + 1) (.string (Mk.tb (Mk.mtL (K + 1)))) (by intro j; omega))
      have y1_ : IntKind.i64.wrap ((K : Int) + 1 + 1) = (K : Int) + 1 + 1 := IntWalk.i64_in _ (by omega)
      replace B0 := Lib.hid (B0.out.set b (k * 9 + 2) (.int .i64 ((K : Int) + 1 + 1)) X0.out.ge X0.out.lt)
      replace X0 := Lib.hid (X0.out.put (k * 9 + 2) (.int .i64 ((K : Int) + 1 + 1)) (by intro j; omega))
      have y2_ : IntKind.i64.wrap ((K : Int) + 1 + 1 + 1) = (K : Int) + 1 + 1 + 1 := IntWalk.i64_in _ (by omega)
      have q3_ := Lib.hid (show ((K : Int) + 1 + 1 + 1) = ((K + 3 : Nat) : Int) by omega)
      go_wp2_with fail
      rw [q3_.out]
      refine (Mk.markText_any (K + 3) _ (by omega) (by omega)).mono ?_
      rintro e w3 ⟨rfl, g3⟩
      replace X0 := Lib.hid (X0.out.below g3)
      replace B0 := Lib.hid (B0.out.trans (Btw.of_below g3))
      clear g3
      clear hbw c0_ f0_ c1_ f1_ c2_ f2_ c3_ f3_ c4_ f4_ c5_ f5_ c6_ f6_ c7_ f7_
      obtain ⟨⟨p0_, c0_⟩, f0_⟩ := (X0.out).any (i := k * 9) (by omega)
      obtain ⟨⟨p1_, c1_⟩, f1_⟩ := (X0.out).any (i := k * 9 + 1) (by omega)
      obtain ⟨⟨p2_, c2_⟩, f2_⟩ := (X0.out).any (i := k * 9 + 2) (by omega)
      obtain ⟨⟨p3_, c3_⟩, f3_⟩ := (X0.out).any (i := k * 9 + 3) (by omega)
      obtain ⟨⟨p4_, c4_⟩, f4_⟩ := (X0.out).any (i := k * 9 + 4) (by omega)
      obtain ⟨⟨p5_, c5_⟩, f5_⟩ := (X0.out).any (i := k * 9 + 5) (by omega)
      obtain ⟨⟨p6_, c6_⟩, f6_⟩ := (X0.out).any (i := k * 9 + 6) (by omega)
      obtain ⟨⟨p7_, c7_⟩, f7_⟩ := (X0.out).any (i := k * 9 + 7) (by omega)
      have hbw := (X0.out).blk
      obtain ⟨r, x8, hrb, hrl, hrh, hlr⟩ := (X0.out).at hkz
      rw [HD.out] at x8 hlr
      have HRB := Lib.hid hrb
      have LR := Lib.hid hlr
      clear hrb hlr
      replace LR := Lib.hid (LR.out.other b (k * 9 + 3) (.string (Mk.tb (Mk.mtL (K + 3)))) HRB.out)
      replace B0 := Lib.hid (B0.out.set b (k * 9 + 3) (.string (Mk.tb (Mk.mtL (K + 3)))) X0.out.ge X0.out.lt)
      replace X0 := Lib.hid (X0.out.put (k * 9 + 3) (.string (Mk.tb (Mk.mtL (K + 3)))) (by intro j; omega))
      have y3_ : IntKind.i64.wrap ((K : Int) + 3 + 1) = (K : Int) + 3 + 1 := IntWalk.i64_in _ (by omega)
      replace LR := Lib.hid (LR.out.other b (k * 9 + 4) (.int .i64 ((K : Int) + 3 + 1)) HRB.out)
      replace B0 := Lib.hid (B0.out.set b (k * 9 + 4) (.int .i64 ((K : Int) + 3 + 1)) X0.out.ge X0.out.lt)
      replace X0 := Lib.hid (X0.out.put (k * 9 + 4) (.int .i64 ((K : Int) + 3 + 1)) (by intro j; omega))
      have y4_ : IntKind.i64.wrap ((K : Int) + 3 + 1 + 1) = (K : Int) + 3 + 1 + 1 := IntWalk.i64_in _ (by omega)
      replace LR := Lib.hid (LR.out.other b (k * 9 + 5) (.int .i64 ((K : Int) + 3 + 1 + 1)) HRB.out)
      replace B0 := Lib.hid (B0.out.set b (k * 9 + 5) (.int .i64 ((K : Int) + 3 + 1 + 1)) X0.out.ge X0.out.lt)
      replace X0 := Lib.hid (X0.out.put (k * 9 + 5) (.int .i64 ((K : Int) + 3 + 1 + 1)) (by intro j; omega))
      have y5_ : IntKind.i64.wrap ((K : Int) + 3 + 1 + 1 + 1) = (K : Int) + 3 + 1 + 1 + 1 := IntWalk.i64_in _ (by omega)
      replace LR := Lib.hid (LR.out.other b (k * 9 + 6) (.int .i64 ((K : Int) + 3 + 1 + 1 + 1)) HRB.out)
      replace B0 := Lib.hid (B0.out.set b (k * 9 + 6) (.int .i64 ((K : Int) + 3 + 1 + 1 + 1)) X0.out.ge X0.out.lt)
      replace X0 := Lib.hid (X0.out.put (k * 9 + 6) (.int .i64 ((K : Int) + 3 + 1 + 1 + 1)) (by intro j; omega))
      have y6_ : IntKind.i64.wrap ((K : Int) + 3 + 1 + 1 + 1 + 1) = (K : Int) + 3 + 1 + 1 + 1 + 1 := IntWalk.i64_in _ (by omega)
      replace LR := Lib.hid (LR.out.other b (k * 9 + 7) (.int .i64 ((K : Int) + 3 + 1 + 1 + 1 + 1)) HRB.out)
      replace B0 := Lib.hid (B0.out.set b (k * 9 + 7) (.int .i64 ((K : Int) + 3 + 1 + 1 + 1 + 1)) X0.out.ge X0.out.lt)
      replace X0 := Lib.hid (X0.out.put (k * 9 + 7) (.int .i64 ((K : Int) + 3 + 1 + 1 + 1 + 1)) (by intro j; omega))
      have y7_ : IntKind.i64.wrap ((K : Int) + 3 + 1 + 1 + 1 + 1 + 1) = (K : Int) + 3 + 1 + 1 + 1 + 1 + 1 := IntWalk.i64_in _ (by omega)
      have q8_ := Lib.hid (show ((K : Int) + 3 + 1 + 1 + 1 + 1 + 1) = ((K + 8 : Nat) : Int) by omega)
      go_wp2_with fail
      rw [q8_.out]
      refine (markBxs_lay r d d (K + 8) _ (Nat.le_refl _) hdl (by omega) (by omega) LR.out).mono ?_
      rintro e w4 ⟨rfl, l2, g4⟩
      replace X0 := Lib.hid (X0.out.inner HRB.out LR.out l2 g4)
      replace B0 := Lib.hid (B0.out.trans (g4.wide (by omega) (by omega)))
      clear g4 l2 LR x8 hbw c0_ f0_ c1_ f1_ c2_ f2_ c3_ f3_ c4_ f4_ c5_ f5_ c6_ f6_ c7_ f7_
      go_wp2
      go_roundw
      case rel => exact ⟨k + 1, K + 8 + d * 4, by omega, by go_num, by first | rfl | exact val_int (by omega), HN, X0, B0⟩
      case measure => simp [intOf]; omega
    · obtain rfl : k = m := by omega
      have hK' := hK.out
      have hbd := HL.out k (Nat.le_refl _)
      go_wp2
      go_ret
      exact ⟨K, rfl, by omega, hb.out⟩
end Go.Proofs.YtcjpplijbdfgbaaDoor
