/- Several texts in one: SaLeaf, SbLeaf, ScLeaf, SlLeaf, SmLeaf. -/
import Derived.Test.YtmfchcaidfloaaaDoorFlVeneer
import Derived.Test.YtmfchcaidfloaaaDoorFlBox
import Derived.Test.YtmfchcaidfloaaaDoorK11
import Derived.Test.YtmfchcaidfloaaaDoorLay
import Derived.Test.YtmfchcaidfloaaaDoorFmBox
import Derived.Test.YtmfchcaidfloaaaDoorAtV
namespace Go.Proofs.YtmfchcaidfloaaaDoor
open Go.ChangeShapes Go.WideShapes Go.ChangeAt Go.RowKit Go.Joins Go.Deep
set_option linter.unusedVariables false
set_option linter.unusedSimpArgs false

structure Lf where
  id : ByteArray
  fl : ByteArray
  nu : Int
  ve : Vn
  wd : Int
  ln : Int
  df : List Bx
theorem cLLf : Tryd.prog.cellsOf 36 = 9 := by kernel_rfl
theorem cSlBx : Tryd.prog.cellsOf 34 = 1 := by kernel_rfl
/-- One that came in, as a value and in memory. -/
structure LfL (w : World) (v : Value) (z : Lf) : Prop where
  out : ∃ (ao6 : Option Addr) (n6 c6 : Nat), v = .agg #[.string z.id, .string z.fl, .int .i64 z.nu, .string z.ve.1, .int .i64 z.ve.2.1, .int .i64 z.ve.2.2, .int .i64 z.wd, .int .i64 z.ln, .slice ao6 n6 c6] ∧ z.id.size ≤ 9223372036854775807 ∧ z.fl.size ≤ 9223372036854775807 ∧ (Lit.int .i64 z.nu).wf = true ∧ z.ve.1.size ≤ 9223372036854775807 ∧ (Lit.int .i64 z.wd).wf = true ∧ (Lit.int .i64 z.ln).wf = true ∧ n6 ≤ 9223372036854775807 ∧ BxL w ao6 n6 z.df
theorem LfL.below {w w' : World} {v : Value} {z : Lf} (h : LfL w v z) (hb : Below w.heap.size w w') : LfL w' v z := by
  obtain ⟨ao6, n6, c6, h0, q0_0, q1_0, q2_0, q3_0, q4_0, q5_0, q6_0, q6_1⟩ := h.out
  exact ⟨ao6, n6, c6, h0, q0_0, q1_0, q2_0, q3_0, q4_0, q5_0, q6_0, q6_1.below hb⟩
section
variable {H : Type} {enc : TypeId × Value → H} {W : World} {base : Nat} {sp : Nat → Bool}
set_option maxRecDepth 100000 in
theorem Lf_open {fuel : Nat} {cs : List Value} {x : DataW H × List MemPlace} (h : DataW.trod enc Tryd.prog W base sp true fuel 36 cs = some x) :
    ∃ (z : Lf) (ao6 : Option Addr) (n6 c6 : Nat), cs = [.string z.id, .string z.fl, .int .i64 z.nu, .string z.ve.1, .int .i64 z.ve.2.1, .int .i64 z.ve.2.2, .int .i64 z.wd, .int .i64 z.ln, .slice ao6 n6 c6] ∧ z.id.size ≤ 9223372036854775807 ∧ z.fl.size ≤ 9223372036854775807 ∧ (Lit.int .i64 z.nu).wf = true ∧ z.ve.1.size ≤ 9223372036854775807 ∧ (Lit.int .i64 z.wd).wf = true ∧ (Lit.int .i64 z.ln).wf = true ∧ n6 ≤ 9223372036854775807 ∧ BxL W ao6 n6 z.df := by
  obtain ⟨xs, m, _, hx, hl, hlen, hf⟩ := DataW.trod_struct Tryd.underlying36 h
  rw [cLLf] at hl
  match cs, hl with
  | [c0_, c1_, c2_, c3_, c4_, c5_, c6_, c7_, c8_], _ =>
    match xs, hlen with
    | [y0, y1, y2, y3, y4, y5, y6], _ =>
      have h0 := hf 0 _ rfl
      have h1 := hf 1 _ rfl
      have h2 := hf 2 _ rfl
      have h3 := hf 3 _ rfl
      have h4 := hf 4 _ rfl
      have h5 := hf 5 _ rfl
      have h6 := hf 6 _ rfl
      change DataW.trod enc Tryd.prog W base sp true m 9 (([c0_, c1_, c2_, c3_, c4_, c5_, c6_, c7_, c8_].drop 0).take (Tryd.prog.cellsOf 9)) = some y0 at h0
      rw [cStr] at h0
      change DataW.trod enc Tryd.prog W base sp true m 9 (([c0_, c1_, c2_, c3_, c4_, c5_, c6_, c7_, c8_].drop 1).take (Tryd.prog.cellsOf 9)) = some y1 at h1
      rw [cStr] at h1
      change DataW.trod enc Tryd.prog W base sp true m 2 (([c0_, c1_, c2_, c3_, c4_, c5_, c6_, c7_, c8_].drop 2).take (Tryd.prog.cellsOf 2)) = some y2 at h2
      rw [cI64] at h2
      change DataW.trod enc Tryd.prog W base sp true m 33 (([c0_, c1_, c2_, c3_, c4_, c5_, c6_, c7_, c8_].drop 3).take (Tryd.prog.cellsOf 33)) = some y3 at h3
      rw [cVn] at h3
      change DataW.trod enc Tryd.prog W base sp true m 2 (([c0_, c1_, c2_, c3_, c4_, c5_, c6_, c7_, c8_].drop 6).take (Tryd.prog.cellsOf 2)) = some y4 at h4
      rw [cI64] at h4
      change DataW.trod enc Tryd.prog W base sp true m 2 (([c0_, c1_, c2_, c3_, c4_, c5_, c6_, c7_, c8_].drop 7).take (Tryd.prog.cellsOf 2)) = some y5 at h5
      rw [cI64] at h5
      change DataW.trod enc Tryd.prog W base sp true m 34 (([c0_, c1_, c2_, c3_, c4_, c5_, c6_, c7_, c8_].drop 8).take (Tryd.prog.cellsOf 34)) = some y6 at h6
      rw [cSlBx] at h6
      obtain ⟨x0, e0, _, q0_0⟩ := DataW.trod_string Tryd.underlying9 h0
      obtain ⟨x1, e1, _, q1_0⟩ := DataW.trod_string Tryd.underlying9 h1
      obtain ⟨x2, e2, _, q2_0⟩ := DataW.trod_int Tryd.underlying2 h2
      obtain ⟨x3, e3, q3_0⟩ := Vn_cells h3
      obtain ⟨x4, e4, _, q4_0⟩ := DataW.trod_int Tryd.underlying2 h4
      obtain ⟨x5, e5, _, q5_0⟩ := DataW.trod_int Tryd.underlying2 h5
      obtain ⟨ao6, n6, c6, x6, e6, q6_0, q6_1⟩ := Bxs_open h6
      simp at e0
      subst e0
      simp at e1
      subst e1
      simp at e2
      subst e2
      simp at e3
      obtain ⟨rfl, rfl, rfl⟩ := e3
      simp at e4
      subst e4
      simp at e5
      subst e5
      simp at e6
      subst e6
      exact ⟨⟨x0, x1, x2, x3, x4, x5, x6⟩, ao6, n6, c6, rfl, q0_0, q1_0, q2_0, q3_0, q4_0, q5_0, q6_0, q6_1⟩
end
set_option maxRecDepth 100000 in
theorem open_Lf {H : Type} {enc : TypeId × Value → H} {W : World} {base : Nat} {v : Value} {d : DataW H} {p : List MemPlace} (hval : Value.okWide Tryd.prog W .any base 36 v)
    (h : DataW.Trod enc Tryd.prog W 0 (fun _ => true) true 36 v d p) : ∃ z : Lf, LfL W v z := by
  obtain ⟨cs, rfl, hcs⟩ := okWide_struct Tryd.underlying36 hval
  obtain ⟨fuel, hf0⟩ := h
  obtain ⟨l, rfl⟩ : ∃ l : List Value, cs = l.toArray := ⟨cs.toList, by simp⟩
  obtain ⟨z, ao6, n6, c6, e, q0_0, q1_0, q2_0, q3_0, q4_0, q5_0, q6_0, q6_1⟩ := Lf_open hf0
  have e' : l = [.string z.id, .string z.fl, .int .i64 z.nu, .string z.ve.1, .int .i64 z.ve.2.1, .int .i64 z.ve.2.2, .int .i64 z.wd, .int .i64 z.ln, .slice ao6 n6 c6] := by simpa [Value.cells] using e
  subst e'
  exact ⟨z, ⟨ao6, n6, c6, rfl, q0_0, q1_0, q2_0, q3_0, q4_0, q5_0, q6_0, q6_1⟩⟩
def LfSz (z : Lf) : Nat := z.id.size + z.fl.size + z.ve.1.size + BxSz z.df
set_option maxRecDepth 100000 in
set_option maxHeartbeats 1000000 in
theorem szLf_any (v : Value) (z : Lf) (l : Int) (w : World) (h0 : 0 ≤ l) (hl : l ≤ 1048576) (hv : LfL w v z) :
    Calls Tryd.prog 14 #[v, .int .i64 l] w fun e w' => e = .returned (.int .i64 (lft l (LfSz z))) ∧ Below w.heap.size w w' := by
  obtain ⟨ao6, n6, c6, rfl, q0_0, q1_0, q2_0, q3_0, q4_0, q5_0, q6_0, q6_1⟩ := hv.out
  have HF0_0 := Lib.hid q0_0
  have HF1_0 := Lib.hid q1_0
  have HF3_0 := Lib.hid q3_0
  have HF6_0 := Lib.hid q6_0
  have HF6_1 := Lib.hid q6_1
  clear hv q3_0 q6_0 q6_1
  have HDS := Lib.hid (show LfSz z = z.id.size + z.fl.size + z.ve.1.size + BxSz z.df from rfl)
  have HA := Lib.hid (one_alloc (w := w) (.cells #[.string z.id, .string z.fl, .int .i64 z.nu, .string z.ve.1, .int .i64 z.ve.2.1, .int .i64 z.ve.2.2, .int .i64 z.wd, .int .i64 z.ln, .slice ao6 n6 c6] 36))
  by_cases hq0 : ((z.id.size : Nat) : Int) ≤ l
  · have HQ0 := Lib.hid (lft_ok hq0)
    by_cases hq1 : ((z.fl.size : Nat) : Int) ≤ l - ((z.id.size : Nat) : Int)
    · have HQ1 := Lib.hid (lft_ok hq1)
      by_cases hq2 : ((z.ve.1.size : Nat) : Int) ≤ l - ((z.id.size : Nat) : Int) - ((z.fl.size : Nat) : Int)
      · have HQ2 := Lib.hid (lft_ok hq2)
        by_cases hq3 : ((BxSz z.df : Nat) : Int) ≤ l - ((z.id.size : Nat) : Int) - ((z.fl.size : Nat) : Int) - ((z.ve.1.size : Nat) : Int)
        · have HQ3 := Lib.hid (lft_ok hq3)
          have HR := Lib.hid (show lft l (LfSz z) = l - ((z.id.size : Nat) : Int) - ((z.fl.size : Nat) : Int) - ((z.ve.1.size : Nat) : Int) - ((BxSz z.df : Nat) : Int) by rw [lft_ok (by rw [HDS.out]; omega)]; rw [HDS.out]; omega)
          have dd0 : decide (l - ((z.id.size : Nat) : Int) < 0) = false := by simp; omega
          have ii0 : IntKind.i64.wrap (l - ((z.id.size : Nat) : Int)) = l - ((z.id.size : Nat) : Int) := IntWalk.i64_in _ (by omega)
          have dd1 : decide (l - ((z.id.size : Nat) : Int) - ((z.fl.size : Nat) : Int) < 0) = false := by simp; omega
          have ii1 : IntKind.i64.wrap (l - ((z.id.size : Nat) : Int) - ((z.fl.size : Nat) : Int)) = l - ((z.id.size : Nat) : Int) - ((z.fl.size : Nat) : Int) := IntWalk.i64_in _ (by omega)
          have dd2 : decide (l - ((z.id.size : Nat) : Int) - ((z.fl.size : Nat) : Int) - ((z.ve.1.size : Nat) : Int) < 0) = false := by simp; omega
          have dd3 : decide (l - ((z.id.size : Nat) : Int) - ((z.fl.size : Nat) : Int) - ((z.ve.1.size : Nat) : Int) - ((BxSz z.df : Nat) : Int) < 0) = false := by simp; omega
          go_enter Tryd.func14, Tryd.ntmps14
          have HB0 := HA
          have HX0 := Lib.hid (World.alloc_heap_new w (.cells #[.string z.id, .string z.fl, .int .i64 z.nu, .string z.ve.1, .int .i64 z.ve.2.1, .int .i64 z.ve.2.2, .int .i64 z.wd, .int .i64 z.ln, .slice ao6 n6 c6] 36))
          go_wp2_with fail
          refine (szVn_any (z.ve.1) (z.ve.2.1) (z.ve.2.2) (l - ((z.id.size : Nat) : Int) - ((z.fl.size : Nat) : Int)) _ (by omega) (by omega) HF3_0.out).mono ?_
          rintro e w1 ⟨rfl, g1⟩
          have HB1 := Lib.hid (bseq HB0.out g1)
          have HX1 := Lib.hid ((g1.block _ (blk_lt HX0.out)).trans HX0.out)
          clear g1
          have hz := blk_lt HX1.out
          have a_0 := (cell_of_arr HX1.out (j := 0) rfl).1
          have a_1 := (cell_of_arr HX1.out (j := 1) rfl).1
          have a_2 := (cell_of_arr HX1.out (j := 2) rfl).1
          have a_3 := (cell_of_arr HX1.out (j := 3) rfl).1
          have a_4 := (cell_of_arr HX1.out (j := 4) rfl).1
          have a_5 := (cell_of_arr HX1.out (j := 5) rfl).1
          have a_6 := (cell_of_arr HX1.out (j := 6) rfl).1
          have a_7 := (cell_of_arr HX1.out (j := 7) rfl).1
          have a_8 := (cell_of_arr HX1.out (j := 8) rfl).1
          rw [HQ2.out]
          go_wp2_with fail
          refine (szBxs_any ao6 n6 c6 z.df (l - ((z.id.size : Nat) : Int) - ((z.fl.size : Nat) : Int) - ((z.ve.1.size : Nat) : Int)) _ (by omega) (by omega) HF6_0.out (HF6_1.out.below HB1.out)).mono ?_
          rintro e w2 ⟨rfl, g2⟩
          have HB2 := Lib.hid (bseq HB1.out g2)
          have HX2 := Lib.hid ((g2.block _ (blk_lt HX1.out)).trans HX1.out)
          clear g2 hz a_0 a_1 a_2 a_3 a_4 a_5 a_6 a_7 a_8
          have hz := blk_lt HX2.out
          have a_0 := (cell_of_arr HX2.out (j := 0) rfl).1
          have a_1 := (cell_of_arr HX2.out (j := 1) rfl).1
          have a_2 := (cell_of_arr HX2.out (j := 2) rfl).1
          have a_3 := (cell_of_arr HX2.out (j := 3) rfl).1
          have a_4 := (cell_of_arr HX2.out (j := 4) rfl).1
          have a_5 := (cell_of_arr HX2.out (j := 5) rfl).1
          have a_6 := (cell_of_arr HX2.out (j := 6) rfl).1
          have a_7 := (cell_of_arr HX2.out (j := 7) rfl).1
          have a_8 := (cell_of_arr HX2.out (j := 8) rfl).1
          rw [HQ3.out]
          go_wp2
          go_ret
          exact ⟨ret_int HR.out.symm, HB2.out⟩
        · have HQ3 := Lib.hid (lft_no hq3)
          have HR := Lib.hid (show lft l (LfSz z) = -1 by refine lft_no ?_; rw [HDS.out]; omega)
          have dd0 : decide (l - ((z.id.size : Nat) : Int) < 0) = false := by simp; omega
          have ii0 : IntKind.i64.wrap (l - ((z.id.size : Nat) : Int)) = l - ((z.id.size : Nat) : Int) := IntWalk.i64_in _ (by omega)
          have dd1 : decide (l - ((z.id.size : Nat) : Int) - ((z.fl.size : Nat) : Int) < 0) = false := by simp; omega
          have ii1 : IntKind.i64.wrap (l - ((z.id.size : Nat) : Int) - ((z.fl.size : Nat) : Int)) = l - ((z.id.size : Nat) : Int) - ((z.fl.size : Nat) : Int) := IntWalk.i64_in _ (by omega)
          have dd2 : decide (l - ((z.id.size : Nat) : Int) - ((z.fl.size : Nat) : Int) - ((z.ve.1.size : Nat) : Int) < 0) = false := by simp; omega
          go_enter Tryd.func14, Tryd.ntmps14
          have HB0 := HA
          have HX0 := Lib.hid (World.alloc_heap_new w (.cells #[.string z.id, .string z.fl, .int .i64 z.nu, .string z.ve.1, .int .i64 z.ve.2.1, .int .i64 z.ve.2.2, .int .i64 z.wd, .int .i64 z.ln, .slice ao6 n6 c6] 36))
          go_wp2_with fail
          refine (szVn_any (z.ve.1) (z.ve.2.1) (z.ve.2.2) (l - ((z.id.size : Nat) : Int) - ((z.fl.size : Nat) : Int)) _ (by omega) (by omega) HF3_0.out).mono ?_
          rintro e w1 ⟨rfl, g1⟩
          have HB1 := Lib.hid (bseq HB0.out g1)
          have HX1 := Lib.hid ((g1.block _ (blk_lt HX0.out)).trans HX0.out)
          clear g1
          have hz := blk_lt HX1.out
          have a_0 := (cell_of_arr HX1.out (j := 0) rfl).1
          have a_1 := (cell_of_arr HX1.out (j := 1) rfl).1
          have a_2 := (cell_of_arr HX1.out (j := 2) rfl).1
          have a_3 := (cell_of_arr HX1.out (j := 3) rfl).1
          have a_4 := (cell_of_arr HX1.out (j := 4) rfl).1
          have a_5 := (cell_of_arr HX1.out (j := 5) rfl).1
          have a_6 := (cell_of_arr HX1.out (j := 6) rfl).1
          have a_7 := (cell_of_arr HX1.out (j := 7) rfl).1
          have a_8 := (cell_of_arr HX1.out (j := 8) rfl).1
          rw [HQ2.out]
          go_wp2_with fail
          refine (szBxs_any ao6 n6 c6 z.df (l - ((z.id.size : Nat) : Int) - ((z.fl.size : Nat) : Int) - ((z.ve.1.size : Nat) : Int)) _ (by omega) (by omega) HF6_0.out (HF6_1.out.below HB1.out)).mono ?_
          rintro e w2 ⟨rfl, g2⟩
          have HB2 := Lib.hid (bseq HB1.out g2)
          have HX2 := Lib.hid ((g2.block _ (blk_lt HX1.out)).trans HX1.out)
          clear g2 hz a_0 a_1 a_2 a_3 a_4 a_5 a_6 a_7 a_8
          have hz := blk_lt HX2.out
          have a_0 := (cell_of_arr HX2.out (j := 0) rfl).1
          have a_1 := (cell_of_arr HX2.out (j := 1) rfl).1
          have a_2 := (cell_of_arr HX2.out (j := 2) rfl).1
          have a_3 := (cell_of_arr HX2.out (j := 3) rfl).1
          have a_4 := (cell_of_arr HX2.out (j := 4) rfl).1
          have a_5 := (cell_of_arr HX2.out (j := 5) rfl).1
          have a_6 := (cell_of_arr HX2.out (j := 6) rfl).1
          have a_7 := (cell_of_arr HX2.out (j := 7) rfl).1
          have a_8 := (cell_of_arr HX2.out (j := 8) rfl).1
          rw [HQ3.out]
          go_wp2
          go_ret
          exact ⟨ret_int HR.out.symm, HB2.out⟩
      · have HQ2 := Lib.hid (lft_no hq2)
        have HR := Lib.hid (show lft l (LfSz z) = -1 by refine lft_no ?_; rw [HDS.out]; omega)
        have dd0 : decide (l - ((z.id.size : Nat) : Int) < 0) = false := by simp; omega
        have ii0 : IntKind.i64.wrap (l - ((z.id.size : Nat) : Int)) = l - ((z.id.size : Nat) : Int) := IntWalk.i64_in _ (by omega)
        have dd1 : decide (l - ((z.id.size : Nat) : Int) - ((z.fl.size : Nat) : Int) < 0) = false := by simp; omega
        have ii1 : IntKind.i64.wrap (l - ((z.id.size : Nat) : Int) - ((z.fl.size : Nat) : Int)) = l - ((z.id.size : Nat) : Int) - ((z.fl.size : Nat) : Int) := IntWalk.i64_in _ (by omega)
        go_enter Tryd.func14, Tryd.ntmps14
        have HB0 := HA
        have HX0 := Lib.hid (World.alloc_heap_new w (.cells #[.string z.id, .string z.fl, .int .i64 z.nu, .string z.ve.1, .int .i64 z.ve.2.1, .int .i64 z.ve.2.2, .int .i64 z.wd, .int .i64 z.ln, .slice ao6 n6 c6] 36))
        go_wp2_with fail
        refine (szVn_any (z.ve.1) (z.ve.2.1) (z.ve.2.2) (l - ((z.id.size : Nat) : Int) - ((z.fl.size : Nat) : Int)) _ (by omega) (by omega) HF3_0.out).mono ?_
        rintro e w1 ⟨rfl, g1⟩
        have HB1 := Lib.hid (bseq HB0.out g1)
        have HX1 := Lib.hid ((g1.block _ (blk_lt HX0.out)).trans HX0.out)
        clear g1
        have hz := blk_lt HX1.out
        have a_0 := (cell_of_arr HX1.out (j := 0) rfl).1
        have a_1 := (cell_of_arr HX1.out (j := 1) rfl).1
        have a_2 := (cell_of_arr HX1.out (j := 2) rfl).1
        have a_3 := (cell_of_arr HX1.out (j := 3) rfl).1
        have a_4 := (cell_of_arr HX1.out (j := 4) rfl).1
        have a_5 := (cell_of_arr HX1.out (j := 5) rfl).1
        have a_6 := (cell_of_arr HX1.out (j := 6) rfl).1
        have a_7 := (cell_of_arr HX1.out (j := 7) rfl).1
        have a_8 := (cell_of_arr HX1.out (j := 8) rfl).1
        rw [HQ2.out]
        go_wp2
        go_ret
        exact ⟨ret_int HR.out.symm, HB1.out⟩
    · have HQ1 := Lib.hid (lft_no hq1)
      have HR := Lib.hid (show lft l (LfSz z) = -1 by refine lft_no ?_; rw [HDS.out]; omega)
      have dd0 : decide (l - ((z.id.size : Nat) : Int) < 0) = false := by simp; omega
      have ii0 : IntKind.i64.wrap (l - ((z.id.size : Nat) : Int)) = l - ((z.id.size : Nat) : Int) := IntWalk.i64_in _ (by omega)
      have dd1 : decide (l - ((z.id.size : Nat) : Int) - ((z.fl.size : Nat) : Int) < 0) = true := by simp; omega
      have ii1 : IntKind.i64.wrap (l - ((z.id.size : Nat) : Int) - ((z.fl.size : Nat) : Int)) = l - ((z.id.size : Nat) : Int) - ((z.fl.size : Nat) : Int) := IntWalk.i64_in _ (by omega)
      go_enter Tryd.func14, Tryd.ntmps14
      have HB0 := HA
      have HX0 := Lib.hid (World.alloc_heap_new w (.cells #[.string z.id, .string z.fl, .int .i64 z.nu, .string z.ve.1, .int .i64 z.ve.2.1, .int .i64 z.ve.2.2, .int .i64 z.wd, .int .i64 z.ln, .slice ao6 n6 c6] 36))
      go_wp2
      go_ret
      exact ⟨ret_int HR.out.symm, HB0.out⟩
  · have HQ0 := Lib.hid (lft_no hq0)
    have HR := Lib.hid (show lft l (LfSz z) = -1 by refine lft_no ?_; rw [HDS.out]; omega)
    have dd0 : decide (l - ((z.id.size : Nat) : Int) < 0) = true := by simp; omega
    have ii0 : IntKind.i64.wrap (l - ((z.id.size : Nat) : Int)) = l - ((z.id.size : Nat) : Int) := IntWalk.i64_in _ (by omega)
    go_enter Tryd.func14, Tryd.ntmps14
    have HB0 := HA
    have HX0 := Lib.hid (World.alloc_heap_new w (.cells #[.string z.id, .string z.fl, .int .i64 z.nu, .string z.ve.1, .int .i64 z.ve.2.1, .int .i64 z.ve.2.2, .int .i64 z.wd, .int .i64 z.ln, .slice ao6 n6 c6] 36))
    go_wp2
    go_ret
    exact ⟨ret_int HR.out.symm, HB0.out⟩
end Go.Proofs.YtmfchcaidfloaaaDoor
namespace Go.Proofs.YtmfchcaidfloaaaDoor
open Go.ChangeShapes Go.WideShapes Go.ChangeAt Go.RowKit
set_option linter.unusedVariables false
set_option linter.unusedSimpArgs false

/-- A copy of a law's own. -/
structure LfO (lo : Nat) (w : World) (v : Value) (z : Lf) : Prop where
  out : ∃ (og6 oh6 : Nat), v = .agg #[.string z.id, .string z.fl, .int .i64 z.nu, .string z.ve.1, .int .i64 z.ve.2.1, .int .i64 z.ve.2.2, .int .i64 z.wd, .int .i64 z.ln, .slice (some ⟨og6, 0, none⟩) z.df.length z.df.length] ∧ LfSz z ≤ 1048576 ∧ z.id.size ≤ 9223372036854775807 ∧ z.fl.size ≤ 9223372036854775807 ∧ (Lit.int .i64 z.nu).wf = true ∧ z.ve.1.size ≤ 9223372036854775807 ∧ (Lit.int .i64 z.wd).wf = true ∧ (Lit.int .i64 z.ln).wf = true ∧ lo ≤ og6 ∧ og6 < oh6 ∧ oh6 ≤ w.heap.size ∧ w.rowIs og6 111 (z.df.length * 4) (BxF z.df z.df.length)
theorem LfO.below {lo : Nat} {w w' : World} {v : Value} {z : Lf} (h : LfO lo w v z) (hb : Below w.heap.size w w') : LfO lo w' v z := by
  obtain ⟨og6, oh6, h0, hs, o0_0, o1_0, o2_0, o3_0, o4_0, o5_0, o6_0, o6_1, o6_2, o6_3⟩ := h.out
  exact ⟨og6, oh6, h0, hs, o0_0, o1_0, o2_0, o3_0, o4_0, o5_0, o6_0, o6_1, Nat.le_trans o6_2 hb.size, rowIs_below o6_3 hb⟩
/-- One that a call reads. -/
structure LfV (w : World) (v : Value) (z : Lf) : Prop where
  out : ∃ (ao6 : Option Addr) (n6 c6 : Nat), v = .agg #[.string z.id, .string z.fl, .int .i64 z.nu, .string z.ve.1, .int .i64 z.ve.2.1, .int .i64 z.ve.2.2, .int .i64 z.wd, .int .i64 z.ln, .slice ao6 n6 c6] ∧ LfSz z ≤ 1048576 ∧ z.id.size ≤ 9223372036854775807 ∧ z.fl.size ≤ 9223372036854775807 ∧ (Lit.int .i64 z.nu).wf = true ∧ z.ve.1.size ≤ 9223372036854775807 ∧ (Lit.int .i64 z.wd).wf = true ∧ (Lit.int .i64 z.ln).wf = true ∧ n6 ≤ 1048576 ∧ BxV w ao6 n6 z.df
theorem LfV.below {w w' : World} {v : Value} {z : Lf} (h : LfV w v z) (hb : Below w.heap.size w w') : LfV w' v z := by
  obtain ⟨ao6, n6, c6, h0, hs, v0_0, v1_0, v2_0, v3_0, v4_0, v5_0, v6_0, v6_1⟩ := h.out
  exact ⟨ao6, n6, c6, h0, hs, v0_0, v1_0, v2_0, v3_0, v4_0, v5_0, v6_0, v6_1.below hb⟩
theorem LfO.view {lo : Nat} {w : World} {v : Value} {z : Lf} (h : LfO lo w v z) : LfV w v z := by
  obtain ⟨og6, oh6, h0, hs, o0_0, o1_0, o2_0, o3_0, o4_0, o5_0, o6_0, o6_1, o6_2, o6_3⟩ := h.out
  exact ⟨_, _, _, h0, hs, o0_0, o1_0, o2_0, o3_0, o4_0, o5_0, (by unfold LfSz at hs; unfold BxSz at hs; omega), Bx_row rfl o6_3⟩
theorem row_set {w : World} {g n : Nat} {t : TypeId} {f : Nat → Value} (h : w.rowIs g t n f) (a : Addr) (u : Value) (ha : a.block < g) : (w.setCell a u).rowIs g t n f := h.of_block (Below.heap_setCell w a u g (by omega))
/-- What a copy stands at: the argument's box, the result's, the copy's. -/
structure ToSt (w W : World) (A R O : Obj) : Prop where
  bel : Below w.heap.size w W
  a : W.heap[w.heap.size]? = some A
  r : W.heap[w.heap.size + 1]? = some R
  o : W.heap[w.heap.size + 1 + 1]? = some O
theorem ToSt.start (w : World) (A R O : Obj) : ToSt w (((w.alloc A).alloc R).alloc O) A R O :=
  ⟨three_allocs _ _ _, (Below.heap_alloc _ _ _ (by simp <;> omega)).trans ((Below.heap_alloc _ _ _ (by simp)).trans (World.alloc_heap_new _ _)), (Below.heap_alloc _ _ _ (by simp)).trans (by have := World.alloc_heap_new (w.alloc A) R; simpa using this), by have := World.alloc_heap_new ((w.alloc A).alloc R) O; simpa using this⟩
theorem ToSt.big {w W : World} {A R O : Obj} (h : ToSt w W A R O) : w.heap.size + 3 ≤ W.heap.size := by
  have := (Array.getElem?_eq_some_iff.1 h.o).1
  omega
theorem ToSt.call {w W W' : World} {A R O : Obj} (h : ToSt w W A R O) (g : Below W.heap.size W W') : ToSt w W' A R O := by
  have hb := h.big
  exact ⟨h.bel.trans (g.mono (by omega)), (g.block _ (by omega)).trans h.a, (g.block _ (by omega)).trans h.r, (g.block _ (by omega)).trans h.o⟩
theorem ToSt.set {w W : World} {A R : Obj} {cur : Array Value} {t : TypeId} (h : ToSt w W A R (.cells cur t (0, 0))) (i : Nat) (u : Value) : ToSt w (W.setCell ⟨w.heap.size + 1 + 1, i, none⟩ u) A R (.cells (cur.setIfInBounds i u) t (0, 0)) :=
  ⟨h.bel.setCell (by show w.heap.size ≤ w.heap.size + 1 + 1; omega) _, (Below.heap_setCell _ _ _ _ (by show w.heap.size ≠ w.heap.size + 1 + 1; omega)).trans h.a, (Below.heap_setCell _ _ _ _ (by show w.heap.size + 1 ≠ w.heap.size + 1 + 1; omega)).trans h.r, heap_setCell_same _ _ _ _ _ _ h.o⟩
theorem ToSt.setr {w W : World} {A O : Obj} {cur : Array Value} {t : TypeId} (h : ToSt w W A (.cells cur t (0, 0)) O) (i : Nat) (u : Value) : ToSt w (W.setCell ⟨w.heap.size + 1, i, none⟩ u) A (.cells (cur.setIfInBounds i u) t (0, 0)) O :=
  ⟨h.bel.setCell (by show w.heap.size ≤ w.heap.size + 1; omega) _, (Below.heap_setCell _ _ _ _ (by show w.heap.size ≠ w.heap.size + 1; omega)).trans h.a, heap_setCell_same _ _ _ _ _ _ h.r, (Below.heap_setCell _ _ _ _ (by show w.heap.size + 1 + 1 ≠ w.heap.size + 1; omega)).trans h.o⟩
set_option maxRecDepth 100000 in
set_option maxHeartbeats 4000000 in
theorem toLf_own (v : Value) (z : Lf) (w : World) (hs : LfSz z ≤ 1048576) (hv : LfL w v z) :
    Calls Tryd.prog 17 #[v] w fun e w' => ∃ v', e = .returned v' ∧ LfO w.heap.size w' v' z ∧ Below w.heap.size w w' := by
  obtain ⟨ao6, n6, c6, rfl, q0_0, q1_0, q2_0, q3_0, q4_0, q5_0, q6_0, q6_1⟩ := hv.out
  obtain rfl : n6 = z.df.length := q6_1.1
  have HF0_0 := Lib.hid q0_0
  have HF1_0 := Lib.hid q1_0
  have HF2_0 := Lib.hid q2_0
  have HF3_0 := Lib.hid q3_0
  have HF4_0 := Lib.hid q4_0
  have HF5_0 := Lib.hid q5_0
  have HF6_0 := Lib.hid q6_0
  have HF6_1 := Lib.hid q6_1
  have HS := Lib.hid hs
  have HS6 := Lib.hid (show BxSz z.df ≤ 1048576 by unfold LfSz at hs; omega)
  clear hv hs q0_0 q1_0 q2_0 q3_0 q4_0 q5_0 q6_0 q6_1
  have ST0 := Lib.hid (ToSt.start w (.cells #[.string z.id, .string z.fl, .int .i64 z.nu, .string z.ve.1, .int .i64 z.ve.2.1, .int .i64 z.ve.2.2, .int .i64 z.wd, .int .i64 z.ln, .slice ao6 z.df.length c6] 36 (0, 0)) (.cells #[.string ⟨#[]⟩, .string ⟨#[]⟩, .int .i64 0, .string ⟨#[]⟩, .int .i64 0, .int .i64 0, .int .i64 0, .int .i64 0, .slice none 0 0] 47 (0, 0)) (.cells #[.string z.id, .string z.fl, .int .i64 z.nu, .string ⟨#[]⟩, .int .i64 0, .int .i64 0, .int .i64 0, .int .i64 0, .slice none 0 0] 47 (0, 0)))
  go_enter Tryd.func17, Tryd.ntmps17
  go_wp2_with fail
  have HSC := Lib.hid ST0.out
  refine (toVn_any (z.ve.1) (z.ve.2.1) (z.ve.2.2) _).mono ?_
  rintro e w1 ⟨rfl, g3⟩
  have ST1 := Lib.hid (HSC.out.call g3)
  clear g3 HSC
  have hz := (ST1.out).big
  have a_0 := (cell_of_arr ST1.out.a (j := 0) rfl).1
  have a_1 := (cell_of_arr ST1.out.a (j := 1) rfl).1
  have a_2 := (cell_of_arr ST1.out.a (j := 2) rfl).1
  have a_3 := (cell_of_arr ST1.out.a (j := 3) rfl).1
  have a_4 := (cell_of_arr ST1.out.a (j := 4) rfl).1
  have a_5 := (cell_of_arr ST1.out.a (j := 5) rfl).1
  have a_6 := (cell_of_arr ST1.out.a (j := 6) rfl).1
  have a_7 := (cell_of_arr ST1.out.a (j := 7) rfl).1
  have a_8 := (cell_of_arr ST1.out.a (j := 8) rfl).1
  have c_0 := cell_of_arr ST1.out.o (j := 0) rfl
  have f_0 := c_0.2
  replace c_0 := c_0.1
  have c_1 := cell_of_arr ST1.out.o (j := 1) rfl
  have f_1 := c_1.2
  replace c_1 := c_1.1
  have c_2 := cell_of_arr ST1.out.o (j := 2) rfl
  have f_2 := c_2.2
  replace c_2 := c_2.1
  have c_3 := cell_of_arr ST1.out.o (j := 3) rfl
  have f_3 := c_3.2
  replace c_3 := c_3.1
  have c_4 := cell_of_arr ST1.out.o (j := 4) rfl
  have f_4 := c_4.2
  replace c_4 := c_4.1
  have c_5 := cell_of_arr ST1.out.o (j := 5) rfl
  have f_5 := c_5.2
  replace c_5 := c_5.1
  have c_6 := cell_of_arr ST1.out.o (j := 6) rfl
  have f_6 := c_6.2
  replace c_6 := c_6.1
  have c_7 := cell_of_arr ST1.out.o (j := 7) rfl
  have f_7 := c_7.2
  replace c_7 := c_7.1
  have c_8 := cell_of_arr ST1.out.o (j := 8) rfl
  have f_8 := c_8.2
  replace c_8 := c_8.1
  have r_0 := cell_of_arr ST1.out.r (j := 0) rfl
  have s_0 := r_0.2
  replace r_0 := r_0.1
  have r_1 := cell_of_arr ST1.out.r (j := 1) rfl
  have s_1 := r_1.2
  replace r_1 := r_1.1
  have r_2 := cell_of_arr ST1.out.r (j := 2) rfl
  have s_2 := r_2.2
  replace r_2 := r_2.1
  have r_3 := cell_of_arr ST1.out.r (j := 3) rfl
  have s_3 := r_3.2
  replace r_3 := r_3.1
  have r_4 := cell_of_arr ST1.out.r (j := 4) rfl
  have s_4 := r_4.2
  replace r_4 := r_4.1
  have r_5 := cell_of_arr ST1.out.r (j := 5) rfl
  have s_5 := r_5.2
  replace r_5 := r_5.1
  have r_6 := cell_of_arr ST1.out.r (j := 6) rfl
  have s_6 := r_6.2
  replace r_6 := r_6.1
  have r_7 := cell_of_arr ST1.out.r (j := 7) rfl
  have s_7 := r_7.2
  replace r_7 := r_7.1
  have r_8 := cell_of_arr ST1.out.r (j := 8) rfl
  have s_8 := r_8.2
  replace r_8 := r_8.1
  have z0_ : w.heap.size < w1.heap.size := by omega
  have z1_ : w.heap.size + 1 < w1.heap.size := by omega
  have z2_ : w.heap.size + 1 + 1 < w1.heap.size := by omega
  go_wp2_with fail
  have HSC := Lib.hid (((((ST1.out.set 3 (.string z.ve.1)).set 4 (.int .i64 z.ve.2.1)).set 5 (.int .i64 z.ve.2.2)).set 6 (.int .i64 z.wd)).set 7 (.int .i64 z.ln))
  clear hz a_0 c_0 f_0 r_0 s_0 a_1 c_1 f_1 r_1 s_1 a_2 c_2 f_2 r_2 s_2 a_3 c_3 f_3 r_3 s_3 a_4 c_4 f_4 r_4 s_4 a_5 c_5 f_5 r_5 s_5 a_6 c_6 f_6 r_6 s_6 a_7 c_7 f_7 r_7 s_7 a_8 c_8 f_8 r_8 s_8 z0_ z1_ z2_
  refine (toBxs_own ao6 _ c6 z.df _ (by have := HS6.out; unfold BxSz at this; omega) (HF6_1.out.below HSC.out.bel)).mono ?_
  rintro e w2 ⟨og6, rfl, hl6, o6, g6⟩
  have HBG := HSC.out.big
  have hl6_ := hl6
  have ST2 := Lib.hid (HSC.out.call g6)
  have HSI2 := Lib.hid (show w1.heap.size ≤ w2.heap.size by have := g6.size; simpa using this)
  have HL6 := Lib.hid (show w.heap.size + 3 ≤ og6 by omega)
  have hl6 := HL6.out
  have HO6 := Lib.hid o6
  have HR6 := Lib.hid (show w1.heap.size ≤ og6 by simpa using hl6_)
  have HT6 := Lib.hid o6.lt
  clear g6 HBG HSC o6 hl6_
  have hz := (ST2.out).big
  have a_0 := (cell_of_arr ST2.out.a (j := 0) rfl).1
  have a_1 := (cell_of_arr ST2.out.a (j := 1) rfl).1
  have a_2 := (cell_of_arr ST2.out.a (j := 2) rfl).1
  have a_3 := (cell_of_arr ST2.out.a (j := 3) rfl).1
  have a_4 := (cell_of_arr ST2.out.a (j := 4) rfl).1
  have a_5 := (cell_of_arr ST2.out.a (j := 5) rfl).1
  have a_6 := (cell_of_arr ST2.out.a (j := 6) rfl).1
  have a_7 := (cell_of_arr ST2.out.a (j := 7) rfl).1
  have a_8 := (cell_of_arr ST2.out.a (j := 8) rfl).1
  have c_0 := cell_of_arr ST2.out.o (j := 0) rfl
  have f_0 := c_0.2
  replace c_0 := c_0.1
  have c_1 := cell_of_arr ST2.out.o (j := 1) rfl
  have f_1 := c_1.2
  replace c_1 := c_1.1
  have c_2 := cell_of_arr ST2.out.o (j := 2) rfl
  have f_2 := c_2.2
  replace c_2 := c_2.1
  have c_3 := cell_of_arr ST2.out.o (j := 3) rfl
  have f_3 := c_3.2
  replace c_3 := c_3.1
  have c_4 := cell_of_arr ST2.out.o (j := 4) rfl
  have f_4 := c_4.2
  replace c_4 := c_4.1
  have c_5 := cell_of_arr ST2.out.o (j := 5) rfl
  have f_5 := c_5.2
  replace c_5 := c_5.1
  have c_6 := cell_of_arr ST2.out.o (j := 6) rfl
  have f_6 := c_6.2
  replace c_6 := c_6.1
  have c_7 := cell_of_arr ST2.out.o (j := 7) rfl
  have f_7 := c_7.2
  replace c_7 := c_7.1
  have c_8 := cell_of_arr ST2.out.o (j := 8) rfl
  have f_8 := c_8.2
  replace c_8 := c_8.1
  have r_0 := cell_of_arr ST2.out.r (j := 0) rfl
  have s_0 := r_0.2
  replace r_0 := r_0.1
  have r_1 := cell_of_arr ST2.out.r (j := 1) rfl
  have s_1 := r_1.2
  replace r_1 := r_1.1
  have r_2 := cell_of_arr ST2.out.r (j := 2) rfl
  have s_2 := r_2.2
  replace r_2 := r_2.1
  have r_3 := cell_of_arr ST2.out.r (j := 3) rfl
  have s_3 := r_3.2
  replace r_3 := r_3.1
  have r_4 := cell_of_arr ST2.out.r (j := 4) rfl
  have s_4 := r_4.2
  replace r_4 := r_4.1
  have r_5 := cell_of_arr ST2.out.r (j := 5) rfl
  have s_5 := r_5.2
  replace r_5 := r_5.1
  have r_6 := cell_of_arr ST2.out.r (j := 6) rfl
  have s_6 := r_6.2
  replace r_6 := r_6.1
  have r_7 := cell_of_arr ST2.out.r (j := 7) rfl
  have s_7 := r_7.2
  replace r_7 := r_7.1
  have r_8 := cell_of_arr ST2.out.r (j := 8) rfl
  have s_8 := r_8.2
  replace r_8 := r_8.1
  have z0_ : w.heap.size < w2.heap.size := by omega
  have z1_ : w.heap.size + 1 < w2.heap.size := by omega
  have z2_ : w.heap.size + 1 + 1 < w2.heap.size := by omega
  go_wp2
  have HE := Lib.hid ((((((((((ST2.out.set 8 (.slice (some ⟨og6, 0, none⟩) z.df.length z.df.length)).setr 0 (.string z.id)).setr 1 (.string z.fl)).setr 2 (.int .i64 z.nu)).setr 3 (.string z.ve.1)).setr 4 (.int .i64 z.ve.2.1)).setr 5 (.int .i64 z.ve.2.2)).setr 6 (.int .i64 z.wd)).setr 7 (.int .i64 z.ln)).setr 8 (.slice (some ⟨og6, 0, none⟩) z.df.length z.df.length))
  have HQ6 := Lib.hid (row_set (row_set (row_set (row_set (row_set (row_set (row_set (row_set (row_set (row_set HO6.out ⟨w.heap.size + 1 + 1, 8, none⟩ (.slice (some ⟨og6, 0, none⟩) z.df.length z.df.length) (by show w.heap.size + 1 + 1 < _; omega)) ⟨w.heap.size + 1, 0, none⟩ (.string z.id) (by show w.heap.size + 1 < _; omega)) ⟨w.heap.size + 1, 1, none⟩ (.string z.fl) (by show w.heap.size + 1 < _; omega)) ⟨w.heap.size + 1, 2, none⟩ (.int .i64 z.nu) (by show w.heap.size + 1 < _; omega)) ⟨w.heap.size + 1, 3, none⟩ (.string z.ve.1) (by show w.heap.size + 1 < _; omega)) ⟨w.heap.size + 1, 4, none⟩ (.int .i64 z.ve.2.1) (by show w.heap.size + 1 < _; omega)) ⟨w.heap.size + 1, 5, none⟩ (.int .i64 z.ve.2.2) (by show w.heap.size + 1 < _; omega)) ⟨w.heap.size + 1, 6, none⟩ (.int .i64 z.wd) (by show w.heap.size + 1 < _; omega)) ⟨w.heap.size + 1, 7, none⟩ (.int .i64 z.ln) (by show w.heap.size + 1 < _; omega)) ⟨w.heap.size + 1, 8, none⟩ (.slice (some ⟨og6, 0, none⟩) z.df.length z.df.length) (by show w.heap.size + 1 < _; omega))
  refine bodyPost_ret (v := .agg #[.string z.id, .string z.fl, .int .i64 z.nu, .string z.ve.1, .int .i64 z.ve.2.1, .int .i64 z.ve.2.2, .int .i64 z.wd, .int .i64 z.ln, .slice (some ⟨og6, 0, none⟩) z.df.length z.df.length]) (by simp [results, Tryd.results17, go_sem, r_0, r_1, r_2, r_3, r_4, r_5, r_6, r_7, r_8, z1_]) rfl ⟨_, rfl, ⟨og6, w2.heap.size, rfl, HS.out, HF0_0.out, HF1_0.out, HF2_0.out, HF3_0.out, HF4_0.out, HF5_0.out, (by have := HL6.out; omega), HT6.out, (by simp), HQ6.out⟩, HE.out.bel⟩
set_option maxRecDepth 100000 in
set_option maxHeartbeats 1000000 in
theorem eqLf_same (u v : Value) (z : Lf) (w : World) (hu : LfV w u z) (hv : LfV w v z) :
    Calls Tryd.prog 20 #[u, v] w fun e w' => e = .returned (.bool true) ∧ Below w.heap.size w w' := by
  obtain ⟨ao6, n6, c6, rfl, hsp, p0_0, p1_0, p2_0, p3_0, p4_0, p5_0, p6_0, p6_1⟩ := hu.out
  obtain ⟨ao6y, n6y, c6y, rfl, hsr, r0_0, r1_0, r2_0, r3_0, r4_0, r5_0, r6_0, r6_1⟩ := hv.out
  obtain rfl : n6 = z.df.length := p6_1.1
  obtain rfl : n6y = z.df.length := r6_1.1
  have HN6 := Lib.hid p6_0
  have HSZ := Lib.hid hsp
  have h2 := two_allocs (w := w) (.cells #[.string z.id, .string z.fl, .int .i64 z.nu, .string z.ve.1, .int .i64 z.ve.2.1, .int .i64 z.ve.2.2, .int .i64 z.wd, .int .i64 z.ln, .slice ao6 z.df.length c6] 47) (.cells #[.string z.id, .string z.fl, .int .i64 z.nu, .string z.ve.1, .int .i64 z.ve.2.1, .int .i64 z.ve.2.2, .int .i64 z.wd, .int .i64 z.ln, .slice ao6y z.df.length c6y] 47)
  have HX := Lib.hid (Below.heap_alloc (w.alloc (.cells #[.string z.id, .string z.fl, .int .i64 z.nu, .string z.ve.1, .int .i64 z.ve.2.1, .int .i64 z.ve.2.2, .int .i64 z.wd, .int .i64 z.ln, .slice ao6 z.df.length c6] 47)) (.cells #[.string z.id, .string z.fl, .int .i64 z.nu, .string z.ve.1, .int .i64 z.ve.2.1, .int .i64 z.ve.2.2, .int .i64 z.wd, .int .i64 z.ln, .slice ao6y z.df.length c6y] 47) w.heap.size (by simp; try omega) |>.trans (World.alloc_heap_new w (.cells #[.string z.id, .string z.fl, .int .i64 z.nu, .string z.ve.1, .int .i64 z.ve.2.1, .int .i64 z.ve.2.2, .int .i64 z.wd, .int .i64 z.ln, .slice ao6 z.df.length c6] 47)))
  have HY := World.alloc_heap_new (w.alloc (.cells #[.string z.id, .string z.fl, .int .i64 z.nu, .string z.ve.1, .int .i64 z.ve.2.1, .int .i64 z.ve.2.2, .int .i64 z.wd, .int .i64 z.ln, .slice ao6 z.df.length c6] 47)) (.cells #[.string z.id, .string z.fl, .int .i64 z.nu, .string z.ve.1, .int .i64 z.ve.2.1, .int .i64 z.ve.2.2, .int .i64 z.wd, .int .i64 z.ln, .slice ao6y z.df.length c6y] 47)
  rw [show (w.alloc (.cells #[.string z.id, .string z.fl, .int .i64 z.nu, .string z.ve.1, .int .i64 z.ve.2.1, .int .i64 z.ve.2.2, .int .i64 z.wd, .int .i64 z.ln, .slice ao6 z.df.length c6] 47)).heap.size = w.heap.size + 1 by simp] at HY
  replace HY := Lib.hid HY
  have HU6 := Lib.hid (p6_1.below h2)
  have HV6 := Lib.hid (r6_1.below h2)
  have HG := Lib.hid h2
  clear h2 hu hv hsp hsr p6_0 p6_1 r6_0 r6_1
  go_enter Tryd.func20, Tryd.ntmps20
  go_wp2_with fail
  refine (eqVn_same (z.ve.1) (z.ve.2.1) (z.ve.2.2) _).mono ?_
  rintro e w1 ⟨rfl, g1⟩
  replace HX := Lib.hid ((g1.block _ (blk_lt HX.out)).trans HX.out)
  replace HY := Lib.hid ((g1.block _ (blk_lt HY.out)).trans HY.out)
  replace HG := Lib.hid (HG.out.trans (g1.mono HG.out.size))
  replace HU6 := Lib.hid (HU6.out.below g1)
  replace HV6 := Lib.hid (HV6.out.below g1)
  clear g1
  have hz := blk_lt HX.out
  have hy := blk_lt HY.out
  have a_0 := (cell_of_arr HX.out (j := 0) rfl).1
  have b_0 := (cell_of_arr HY.out (j := 0) rfl).1
  have a_1 := (cell_of_arr HX.out (j := 1) rfl).1
  have b_1 := (cell_of_arr HY.out (j := 1) rfl).1
  have a_2 := (cell_of_arr HX.out (j := 2) rfl).1
  have b_2 := (cell_of_arr HY.out (j := 2) rfl).1
  have a_3 := (cell_of_arr HX.out (j := 3) rfl).1
  have b_3 := (cell_of_arr HY.out (j := 3) rfl).1
  have a_4 := (cell_of_arr HX.out (j := 4) rfl).1
  have b_4 := (cell_of_arr HY.out (j := 4) rfl).1
  have a_5 := (cell_of_arr HX.out (j := 5) rfl).1
  have b_5 := (cell_of_arr HY.out (j := 5) rfl).1
  have a_6 := (cell_of_arr HX.out (j := 6) rfl).1
  have b_6 := (cell_of_arr HY.out (j := 6) rfl).1
  have a_7 := (cell_of_arr HX.out (j := 7) rfl).1
  have b_7 := (cell_of_arr HY.out (j := 7) rfl).1
  have a_8 := (cell_of_arr HX.out (j := 8) rfl).1
  have b_8 := (cell_of_arr HY.out (j := 8) rfl).1
  go_wp2_with fail
  refine (eqBxs_same _ _ _ _ _ z.df _ HN6.out HU6.out HV6.out).mono ?_
  rintro e w2 ⟨rfl, g2⟩
  clear hz hy a_0 b_0 a_1 b_1 a_2 b_2 a_3 b_3 a_4 b_4 a_5 b_5 a_6 b_6 a_7 b_7 a_8 b_8
  replace HX := Lib.hid ((g2.block _ (blk_lt HX.out)).trans HX.out)
  replace HY := Lib.hid ((g2.block _ (blk_lt HY.out)).trans HY.out)
  replace HG := Lib.hid (HG.out.trans (g2.mono HG.out.size))
  clear g2
  have hz := blk_lt HX.out
  have hy := blk_lt HY.out
  have a_0 := (cell_of_arr HX.out (j := 0) rfl).1
  have b_0 := (cell_of_arr HY.out (j := 0) rfl).1
  have a_1 := (cell_of_arr HX.out (j := 1) rfl).1
  have b_1 := (cell_of_arr HY.out (j := 1) rfl).1
  have a_2 := (cell_of_arr HX.out (j := 2) rfl).1
  have b_2 := (cell_of_arr HY.out (j := 2) rfl).1
  have a_3 := (cell_of_arr HX.out (j := 3) rfl).1
  have b_3 := (cell_of_arr HY.out (j := 3) rfl).1
  have a_4 := (cell_of_arr HX.out (j := 4) rfl).1
  have b_4 := (cell_of_arr HY.out (j := 4) rfl).1
  have a_5 := (cell_of_arr HX.out (j := 5) rfl).1
  have b_5 := (cell_of_arr HY.out (j := 5) rfl).1
  have a_6 := (cell_of_arr HX.out (j := 6) rfl).1
  have b_6 := (cell_of_arr HY.out (j := 6) rfl).1
  have a_7 := (cell_of_arr HX.out (j := 7) rfl).1
  have b_7 := (cell_of_arr HY.out (j := 7) rfl).1
  have a_8 := (cell_of_arr HX.out (j := 8) rfl).1
  have b_8 := (cell_of_arr HY.out (j := 8) rfl).1
  go_wp2
  go_ret
  exact ⟨rfl, HG.out⟩
end Go.Proofs.YtmfchcaidfloaaaDoor
namespace Go.Proofs.YtmfchcaidfloaaaDoor
open Go.ChangeShapes Go.WideShapes Go.ChangeAt Go.RowKit
set_option linter.unusedVariables false
set_option linter.unusedSimpArgs false

/-- A copy that can be written. -/
structure LfX (lo hi : Nat) (w : World) (v : Value) (z : Lf) : Prop where
  out : ∃ (og6 oh6 : Nat), v = .agg #[.string z.id, .string z.fl, .int .i64 z.nu, .string z.ve.1, .int .i64 z.ve.2.1, .int .i64 z.ve.2.2, .int .i64 z.wd, .int .i64 z.ln, .slice (some ⟨og6, 0, none⟩) z.df.length z.df.length] ∧ LfSz z ≤ 1048576 ∧ oh6 ≤ hi ∧ lo ≤ og6 ∧ og6 < oh6 ∧ oh6 ≤ w.heap.size ∧ w.rowIs og6 111 (z.df.length * 4) (BxF z.df z.df.length)
theorem LfX.of {lo : Nat} {w : World} {v : Value} {z : Lf} (h : LfO lo w v z) : LfX lo w.heap.size w v z := by
  obtain ⟨og6, oh6, h0, hs, o0_0, o1_0, o2_0, o3_0, o4_0, o5_0, o6_0, o6_1, o6_2, o6_3⟩ := h.out
  exact ⟨og6, oh6, h0, hs, o6_2, o6_0, o6_1, o6_2, o6_3⟩
theorem LfX.below {lo hi : Nat} {w w' : World} {v : Value} {z : Lf} (h : LfX lo hi w v z) (hb : Below w.heap.size w w') : LfX lo hi w' v z := by
  obtain ⟨og6, oh6, h0, hs, hh, x6_0, x6_1, x6_2, x6_3⟩ := h.out
  exact ⟨og6, oh6, h0, hs, hh, x6_0, x6_1, Nat.le_trans x6_2 hb.size, rowIs_below x6_3 hb⟩
end Go.Proofs.YtmfchcaidfloaaaDoor
namespace Go.Proofs.YtmfchcaidfloaaaDoor
open Seq2 Go.ChangeShapes Go.WideShapes Go.ChangeAt Go.RowKit Go.ChangeMaps Go.Joins Go.Deep
set_option linter.unusedVariables false
set_option linter.unusedSimpArgs false

def lf0 : Lf := ⟨ByteArray.empty, ByteArray.empty, 0, vn0, 0, 0, []⟩
instance : Inhabited Lf := ⟨lf0⟩
/-- A slice that came in. -/
def LfsL (w : World) (ao : Option Addr) (n : Nat) (zs : List Lf) : Prop := n = zs.length ∧ (n = 0 ∨ ∃ b off, ao = some ⟨b, off, none⟩ ∧ ∀ j, j < n → ∃ v, LfL w v (zs.getD j lf0) ∧ AtV w b (off + j * 9) v)
theorem LfsL.below {w w' : World} {ao : Option Addr} {n : Nat} {zs : List Lf} (h : LfsL w ao n zs) (hb : Below w.heap.size w w') : LfsL w' ao n zs :=
  ⟨h.1, h.2.imp id fun ⟨b, off, e, h1⟩ => ⟨b, off, e, fun j hj => by obtain ⟨v, q1, q2⟩ := h1 j hj; exact ⟨v, q1.below hb, q2.below hb⟩⟩⟩
def LfSzA (zs : List Lf) (j : Nat) : Nat := LfSz (zs.getD j lf0)
def LfsSz (zs : List Lf) : Nat := zs.length + sumN (LfSzA zs) zs.length
theorem Lfs_le {zs : List Lf} (h : LfsSz zs ≤ 1048576) {j : Nat} (hj : j < zs.length) : LfSz (zs.getD j lf0) ≤ 1048576 := by
  have h1 := sumN_le (LfSzA zs) (show j + 1 ≤ zs.length by omega)
  have h2 : sumN (LfSzA zs) (j + 1) = sumN (LfSzA zs) j + LfSz (zs.getD j lf0) := rfl
  unfold LfsSz at h
  omega
theorem infoLfs : (Tryd.prog.info? 47).map (fun i => (i.zero, i.size, i.bytes)) = some (some (.agg #[.string ⟨#[]⟩, .string ⟨#[]⟩, .int .i64 0, .string ⟨#[]⟩, .int .i64 0, .int .i64 0, .int .i64 0, .int .i64 0, .slice none 0 0]), 9, 112) := by kernel_rfl
theorem Lfs_step {zc vs : Nat → Value} {k : Nat} {x0 x1 x2 x3 x4 x5 x6 x7 x8 : Value} (j : Nat) :
    (if j = k * 9 + 8 then x8 else if j = k * 9 + 7 then x7 else if j = k * 9 + 6 then x6 else if j = k * 9 + 5 then x5 else if j = k * 9 + 4 then x4 else if j = k * 9 + 3 then x3 else if j = k * 9 + 2 then x2 else if j = k * 9 + 1 then x1 else if j = k * 9 then x0 else rwF 9 zc vs k j) = rwF 9 zc (fun i => if i = k then .agg #[x0, x1, x2, x3, x4, x5, x6, x7, x8] else vs i) (k + 1) j := by
  by_cases h8 : j = k * 9 + 8
  · subst h8
    rw [if_pos rfl]
    exact (rwF_new (m := 9) (k := k) (q := 8) (zc := zc) (vs := vs) (v := .agg #[x0, x1, x2, x3, x4, x5, x6, x7, x8]) (by omega)).symm
  rw [if_neg h8]
  by_cases h7 : j = k * 9 + 7
  · subst h7
    rw [if_pos rfl]
    exact (rwF_new (m := 9) (k := k) (q := 7) (zc := zc) (vs := vs) (v := .agg #[x0, x1, x2, x3, x4, x5, x6, x7, x8]) (by omega)).symm
  rw [if_neg h7]
  by_cases h6 : j = k * 9 + 6
  · subst h6
    rw [if_pos rfl]
    exact (rwF_new (m := 9) (k := k) (q := 6) (zc := zc) (vs := vs) (v := .agg #[x0, x1, x2, x3, x4, x5, x6, x7, x8]) (by omega)).symm
  rw [if_neg h6]
  by_cases h5 : j = k * 9 + 5
  · subst h5
    rw [if_pos rfl]
    exact (rwF_new (m := 9) (k := k) (q := 5) (zc := zc) (vs := vs) (v := .agg #[x0, x1, x2, x3, x4, x5, x6, x7, x8]) (by omega)).symm
  rw [if_neg h5]
  by_cases h4 : j = k * 9 + 4
  · subst h4
    rw [if_pos rfl]
    exact (rwF_new (m := 9) (k := k) (q := 4) (zc := zc) (vs := vs) (v := .agg #[x0, x1, x2, x3, x4, x5, x6, x7, x8]) (by omega)).symm
  rw [if_neg h4]
  by_cases h3 : j = k * 9 + 3
  · subst h3
    rw [if_pos rfl]
    exact (rwF_new (m := 9) (k := k) (q := 3) (zc := zc) (vs := vs) (v := .agg #[x0, x1, x2, x3, x4, x5, x6, x7, x8]) (by omega)).symm
  rw [if_neg h3]
  by_cases h2 : j = k * 9 + 2
  · subst h2
    rw [if_pos rfl]
    exact (rwF_new (m := 9) (k := k) (q := 2) (zc := zc) (vs := vs) (v := .agg #[x0, x1, x2, x3, x4, x5, x6, x7, x8]) (by omega)).symm
  rw [if_neg h2]
  by_cases h1 : j = k * 9 + 1
  · subst h1
    rw [if_pos rfl]
    exact (rwF_new (m := 9) (k := k) (q := 1) (zc := zc) (vs := vs) (v := .agg #[x0, x1, x2, x3, x4, x5, x6, x7, x8]) (by omega)).symm
  rw [if_neg h1]
  by_cases h0 : j = k * 9
  · subst h0
    rw [if_pos rfl]
    exact (rwF_new (m := 9) (k := k) (q := 0) (zc := zc) (vs := vs) (v := .agg #[x0, x1, x2, x3, x4, x5, x6, x7, x8]) (by omega)).symm
  rw [if_neg h0]
  exact (rwF_same (by omega) (fun q hq => by omega)).symm
theorem LfO.lower {lo lo' : Nat} {w : World} {v : Value} {z : Lf} (h : LfO lo w v z) (hl : lo' ≤ lo) : LfO lo' w v z := by
  obtain ⟨og6, oh6, h0, hs, o0_0, o1_0, o2_0, o3_0, o4_0, o5_0, o6_0, o6_1, o6_2, o6_3⟩ := h.out
  exact ⟨og6, oh6, h0, hs, o0_0, o1_0, o2_0, o3_0, o4_0, o5_0, Nat.le_trans hl o6_0, o6_1, o6_2, o6_3⟩
theorem LfO.set {lo : Nat} {w : World} {v : Value} {z : Lf} (h : LfO lo w v z) (a : Addr) (u : Value) (ha : a.block < lo) : LfO lo (w.setCell a u) v z := by
  obtain ⟨og6, oh6, h0, hs, o0_0, o1_0, o2_0, o3_0, o4_0, o5_0, o6_0, o6_1, o6_2, o6_3⟩ := h.out
  exact ⟨og6, oh6, h0, hs, o0_0, o1_0, o2_0, o3_0, o4_0, o5_0, o6_0, o6_1, by rw [World.size_setCell]; exact o6_2, row_set o6_3 _ _ (by omega)⟩
theorem LfO.size {lo : Nat} {w : World} {v : Value} {z : Lf} (h : LfO lo w v z) : v.cells.size = 9 := by
  obtain ⟨og6, oh6, rfl, hs, o0_0, o1_0, o2_0, o3_0, o4_0, o5_0, o6_0, o6_1, o6_2, o6_3⟩ := h.out
  rfl
/-- A copy of a law's own: the structs lie in a block, what they lead to behind it. -/
def LfsO (lo : Nat) (w : World) (b : Nat) (zs : List Lf) : Prop := lo ≤ b ∧ ∃ vs : Nat → Value, w.rowIs b 47 (zs.length * 9) (rwF 9 (fun q => (#[.string ⟨#[]⟩, .string ⟨#[]⟩, .int .i64 0, .string ⟨#[]⟩, .int .i64 0, .int .i64 0, .int .i64 0, .int .i64 0, .slice none 0 0] : Array Value).getD q (.bool false)) vs zs.length) ∧ ∀ j, j < zs.length → LfO (b + 1) w (vs j) (zs.getD j lf0)
theorem LfsO.below {lo : Nat} {w w' : World} {b : Nat} {zs : List Lf} (h : LfsO lo w b zs) (hb : Below w.heap.size w w') : LfsO lo w' b zs := by
  obtain ⟨h1, vs, h2, h3⟩ := h
  exact ⟨h1, vs, rowIs_below h2 hb, fun j hj => (h3 j hj).below hb⟩
/-- A slice at the start of a block, or an empty one. -/
def LfsV (w : World) (ao : Option Addr) (n : Nat) (zs : List Lf) : Prop := n = zs.length ∧ (n = 0 ∨ ∃ b, ao = some ⟨b, 0, none⟩ ∧ ∀ j, j < n → ∃ v, LfV w v (zs.getD j lf0) ∧ AtV w b (j * 9) v)
theorem LfsV.below {w w' : World} {ao : Option Addr} {n : Nat} {zs : List Lf} (h : LfsV w ao n zs) (hb : Below w.heap.size w w') : LfsV w' ao n zs :=
  ⟨h.1, h.2.imp id fun ⟨b, e, h1⟩ => ⟨b, e, fun j hj => by obtain ⟨v, q1, q2⟩ := h1 j hj; exact ⟨v, q1.below hb, q2.below hb⟩⟩⟩
theorem LfsO.view {lo : Nat} {w : World} {b : Nat} {zs : List Lf} (h : LfsO lo w b zs) : LfsV w (some ⟨b, 0, none⟩) zs.length zs := by
  obtain ⟨h1, vs, h2, h3⟩ := h
  refine ⟨rfl, Or.inr ⟨b, rfl, fun j hj => ⟨vs j, (h3 j hj).view, h2.lt, fun i hi => ?_⟩⟩⟩
  rw [(h3 j hj).size] at hi
  have h4 := h2.cell (i := j * 9 + i) (by
    have := Nat.mul_le_mul_right 9 (show j + 1 ≤ zs.length by omega)
    omega)
  rw [rwF_at hi hj] at h4
  rw [h4, Array.getElem?_eq_getElem (by rw [(h3 j hj).size]; exact hi), Array.getD, dif_pos (by rw [(h3 j hj).size]; exact hi)]
  rfl
theorem LfsO.viewN {lo n : Nat} {w : World} {b : Nat} {zs : List Lf} (hz : n = zs.length) (h : LfsO lo w b zs) : LfsV w (some ⟨b, 0, none⟩) n zs := hz ▸ h.view
end Go.Proofs.YtmfchcaidfloaaaDoor
namespace Go.Proofs.YtmfchcaidfloaaaDoor
open Seq2 Go.ChangeShapes Go.WideShapes Go.ChangeAt Go.RowKit
set_option linter.unusedVariables false
set_option linter.unusedSimpArgs false

theorem Lay.other {w : World} {b c : Nat} {t : TypeId} {i : Nat} {f : Nat → Value} (h : Lay w b c t i f) (k j : Nat) (v : Value) (hn : b ≠ k) : Lay (w.setCell ⟨k, j, none⟩ v) b c t i f := h.keep ((grown_setC w ⟨k, j, none⟩ v).block b h.lt (fun e => hn (by cases e; rfl)))
def LfD (zs : List Lf) (j : Nat) : Nat := (zs.getD j lf0).df.length
def LfMk (zs : List Lf) (j : Nat) : Nat := 8 + LfD zs j * 4
/-- A slice that can be written. -/
structure LfsX (lo hi : Nat) (w : World) (b : Nat) (zs : List Lf) : Prop where
  ge : lo ≤ b
  lt : b < hi
  sz : LfsSz zs ≤ 1048576
  out : ∃ cur, w.heap[b]? = some (.cells cur 47 (0, 0)) ∧ cur.size = zs.length * 9 ∧ ∀ j, j < zs.length → ∃ r, cur[j * 9 + 8]? = some (.slice (some ⟨r, 0, none⟩) (LfD zs j) (LfD zs j)) ∧ r ≠ b ∧ lo ≤ r ∧ r < hi ∧ Lay w r (LfD zs j * 4) 111 0 (fun _ => .bool false)
theorem LfsX.of {lo : Nat} {w : World} {b : Nat} {zs : List Lf} (hz : LfsSz zs ≤ 1048576) (h : LfsO lo w b zs) : LfsX lo w.heap.size w b zs := by
  obtain ⟨h1, vs, h2, h3⟩ := h
  obtain ⟨cur, c1, c2, c3⟩ := Lay.row h2
  refine ⟨h1, (Array.getElem?_eq_some_iff.1 c1).1, hz, cur, c1, c2, fun j hj => ?_⟩
  obtain ⟨og6, oh6, e, hs, _, _, _, _, _, _, o0, o1, o2, o3⟩ := (h3 j hj).out
  have h4 := c3 (j * 9 + 8) (by have := Nat.mul_le_mul_right 9 (show j + 1 ≤ zs.length by omega); omega)
  rw [rwF_at (by omega) hj, e] at h4
  exact ⟨og6, h4, by omega, by omega, by omega, (Lay.row o3).less (Nat.zero_le _) (fun j hj => absurd hj (by omega))⟩
theorem LfsX.below {lo hi : Nat} {w w' : World} {b : Nat} {zs : List Lf} (h : LfsX lo hi w b zs) (hb : Below w.heap.size w w') : LfsX lo hi w' b zs := by
  obtain ⟨h1, h2, hz, cur, h3, h4, h5⟩ := h
  refine ⟨h1, h2, hz, cur, (hb.block b (Array.getElem?_eq_some_iff.1 h3).1).trans h3, h4, fun j hj => ?_⟩
  obtain ⟨r, q1, q2, q3, q4, q5⟩ := h5 j hj
  exact ⟨r, q1, q2, q3, q4, q5.below hb⟩
theorem LfsX.put {lo hi : Nat} {w : World} {b : Nat} {zs : List Lf} (h : LfsX lo hi w b zs) (i : Nat) (v : Value) (hi' : ∀ j, i ≠ j * 9 + 8) : LfsX lo hi (w.setCell ⟨b, i, none⟩ v) b zs := by
  obtain ⟨h1, h2, hz, cur, h3, h4, h5⟩ := h
  refine ⟨h1, h2, hz, _, heap_setCell_same _ _ _ _ _ _ h3, by simpa using h4, fun j hj => ?_⟩
  obtain ⟨r, q1, q2, q3, q4, q5⟩ := h5 j hj
  refine ⟨r, ?_, q2, q3, q4, q5.other _ _ _ q2⟩
  rw [Array.getElem?_setIfInBounds_ne (hi' j)]
  exact q1
theorem LfsX.inner {lo hi : Nat} {w w' : World} {b r n i i' : Nat} {f f' : Nat → Value} {zs : List Lf} (h : LfsX lo hi w b zs) (hrb : r ≠ b) (h1 : Lay w r (n * 4) 111 i f) (h2 : Lay w' r (n * 4) 111 i' f') (hg : Btw r (r + 1) w w') : LfsX lo hi w' b zs := by
  obtain ⟨g1, g2, hz, cur, h3, h4, h5⟩ := h
  refine ⟨g1, g2, hz, cur, (hg.block b (Array.getElem?_eq_some_iff.1 h3).1 (by omega)).trans h3, h4, fun j hj => ?_⟩
  obtain ⟨r', q1, q2, q3, q4, q5⟩ := h5 j hj
  by_cases e : r' = r
  · subst e
    obtain ⟨c1, p1, s1, _⟩ := h1
    obtain ⟨c2, p2, s2, _⟩ := q5
    rw [p1] at p2
    cases p2
    exact ⟨r', q1, q2, q3, q4, by rw [← s2, s1]; exact h2.less (Nat.zero_le _) (fun j hj => absurd hj (by omega))⟩
  · exact ⟨r', q1, q2, q3, q4, q5.btw hg (by omega)⟩
theorem LfsX.any {lo hi : Nat} {w : World} {b i : Nat} {zs : List Lf} (h : LfsX lo hi w b zs) (hi' : i < zs.length * 9) : (∃ x, w.cell? ⟨b, i, none⟩ = some x) ∧ w.frozen? ⟨b, i, none⟩ = false := by
  obtain ⟨h1, h2, hz, cur, h3, h4, h5⟩ := h
  obtain ⟨x, hx⟩ := arr_some (cur := cur) (j := i) (by omega)
  exact ⟨⟨x, (cell_of_arr h3 hx).1⟩, (cell_of_arr h3 hx).2⟩
theorem LfsX.blk {lo hi : Nat} {w : World} {b : Nat} {zs : List Lf} (h : LfsX lo hi w b zs) : b < w.heap.size := by
  obtain ⟨h1, h2, hz, cur, h3, h4, h5⟩ := h
  exact (Array.getElem?_eq_some_iff.1 h3).1
theorem LfsX.at {lo hi : Nat} {w : World} {b j : Nat} {zs : List Lf} (h : LfsX lo hi w b zs) (hj : j < zs.length) : ∃ r, w.cell? ⟨b, j * 9 + 8, none⟩ = some (.slice (some ⟨r, 0, none⟩) (LfD zs j) (LfD zs j)) ∧ r ≠ b ∧ lo ≤ r ∧ r < hi ∧ Lay w r (LfD zs j * 4) 111 0 (fun _ => .bool false) := by
  obtain ⟨h1, h2, hz, cur, h3, h4, h5⟩ := h
  obtain ⟨r, q1, q2⟩ := h5 j hj
  exact ⟨r, (cell_of_arr h3 q1).1, q2⟩
theorem LfMk_le (zs : List Lf) (k : Nat) : sumN (LfMk zs) k ≤ 8 * k + 4 * sumN (LfSzA zs) k := by
  induction k with
  | zero => exact Nat.zero_le _
  | succ k ih =>
    have h1 : sumN (LfMk zs) (k + 1) = sumN (LfMk zs) k + (8 + LfD zs k * 4) := rfl
    have h2 : sumN (LfSzA zs) (k + 1) = sumN (LfSzA zs) k + LfSz (zs.getD k lf0) := rfl
    have h3 : LfD zs k ≤ LfSz (zs.getD k lf0) := by unfold LfD LfSz BxSz; omega
    omega
end Go.Proofs.YtmfchcaidfloaaaDoor
