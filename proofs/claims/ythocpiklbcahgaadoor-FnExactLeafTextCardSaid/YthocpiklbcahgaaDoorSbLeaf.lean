/- The struct Leaf in laws: copies of its own, views, equality. -/
import Derived.Test.YthocpiklbcahgaaDoorSaLeaf
import Derived.Test.YthocpiklbcahgaaDoorLay
namespace Go.Proofs.YthocpiklbcahgaaDoor
open Go.ChangeShapes Go.WideShapes Go.ChangeAt Go.RowKit
set_option linter.unusedVariables false
set_option linter.unusedSimpArgs false

/-- A copy of a law's own. -/
structure LfO (lo : Nat) (w : World) (v : Value) (z : Lf) : Prop where
  out : ∃ (og6 oh6 : Nat), v = .agg #[.string z.id, .string z.fl, .int .i64 z.nu, .string z.ve.1, .int .i64 z.ve.2.1, .int .i64 z.ve.2.2, .int .i64 z.wd, .int .i64 z.ln, .slice (some ⟨og6, 0, none⟩) z.df.length z.df.length] ∧ LfSz z ≤ 1048576 ∧ z.id.size ≤ 9223372036854775807 ∧ z.fl.size ≤ 9223372036854775807 ∧ (Lit.int .i64 z.nu).wf = true ∧ z.ve.1.size ≤ 9223372036854775807 ∧ (Lit.int .i64 z.wd).wf = true ∧ (Lit.int .i64 z.ln).wf = true ∧ lo ≤ og6 ∧ og6 < oh6 ∧ oh6 ≤ w.heap.size ∧ w.rowIs og6 49 (z.df.length * 4) (BxF z.df z.df.length)
theorem LfO.below {lo : Nat} {w w' : World} {v : Value} {z : Lf} (h : LfO lo w v z) (hb : Below w.heap.size w w') : LfO lo w' v z := by
  obtain ⟨og6, oh6, h0, hs, o0_0, o1_0, o2_0, o3_0, o4_0, o5_0, o6_0, o6_1, o6_2, o6_3⟩ := h.out
  exact ⟨og6, oh6, h0, hs, o0_0, o1_0, o2_0, o3_0, o4_0, o5_0, o6_0, o6_1, Nat.le_trans o6_2 hb.size, rowIs_below o6_3 hb⟩
/-- One that a call reads. -/
structure LfV (w : World) (v : Value) (z : Lf) : Prop where
  out : ∃ (ao6 : Option Addr) (n6 c6 : Nat), v = .agg #[.string z.id, .string z.fl, .int .i64 z.nu, .string z.ve.1, .int .i64 z.ve.2.1, .int .i64 z.ve.2.2, .int .i64 z.wd, .int .i64 z.ln, .slice ao6 n6 c6] ∧ LfSz z ≤ 1048576 ∧ z.id.size ≤ 9223372036854775807 ∧ z.fl.size ≤ 9223372036854775807 ∧ (Lit.int .i64 z.nu).wf = true ∧ z.ve.1.size ≤ 9223372036854775807 ∧ (Lit.int .i64 z.wd).wf = true ∧ (Lit.int .i64 z.ln).wf = true ∧ n6 ≤ 1048576 ∧ BxV w ao6 n6 z.df
theorem LfV.below {w w' : World} {v : Value} {z : Lf} (h : LfV w v z) (hb : Below w.heap.size w w') : LfV w' v z := by
  obtain ⟨ao6, n6, c6, h0, hs, v0_0, v1_0, v2_0, v3_0, v4_0, v5_0, v6_0, v6_1⟩ := h.out
  exact ⟨ao6, n6, c6, h0, hs, v0_0, v1_0, v2_0, v3_0, v4_0, v5_0, v6_0, v6_1.below hb⟩
theorem LfO.view {lo : Nat} {w : World} {v : Value} {z : Lf} (h : LfO lo w v z) : LfV w v z := by
  obtain ⟨og6, oh6, h0, hs, o0_0, o1_0, o2_0, o3_0, o4_0, o5_0, o6_0, o6_1, o6_2, o6_3⟩ := h.out
  exact ⟨_, _, _, h0, hs, o0_0, o1_0, o2_0, o3_0, o4_0, o5_0, (by unfold LfSz at hs; unfold BxSz at hs; omega), Bx_row rfl o6_3⟩
theorem row_set {w : World} {g n : Nat} {t : TypeId} {f : Nat → Value} (h : w.rowIs g t n f) (a : Addr) (u : Value) (ha : a.block < g) : (w.setCell a u).rowIs g t n f := h.of_block (Below.heap_setCell w a u g (by omega))
/-- What a copy stands at: the argument's box, the result's, the copy's. -/
structure ToSt (w W : World) (A R O : Obj) : Prop where
  bel : Below w.heap.size w W
  a : W.heap[w.heap.size]? = some A
  r : W.heap[w.heap.size + 1]? = some R
  o : W.heap[w.heap.size + 1 + 1]? = some O
theorem ToSt.start (w : World) (A R O : Obj) : ToSt w (((w.alloc A).alloc R).alloc O) A R O :=
  ⟨three_allocs _ _ _, (Below.heap_alloc _ _ _ (by simp <;> omega)).trans ((Below.heap_alloc _ _ _ (by simp)).trans (World.alloc_heap_new _ _)), (Below.heap_alloc _ _ _ (by simp)).trans (by have := World.alloc_heap_new (w.alloc A) R; simpa using this), by have := World.alloc_heap_new ((w.alloc A).alloc R) O; simpa using this⟩
theorem ToSt.big {w W : World} {A R O : Obj} (h : ToSt w W A R O) : w.heap.size + 3 ≤ W.heap.size := by
  have := (Array.getElem?_eq_some_iff.1 h.o).1
  omega
theorem ToSt.call {w W W' : World} {A R O : Obj} (h : ToSt w W A R O) (g : Below W.heap.size W W') : ToSt w W' A R O := by
  have hb := h.big
  exact ⟨h.bel.trans (g.mono (by omega)), (g.block _ (by omega)).trans h.a, (g.block _ (by omega)).trans h.r, (g.block _ (by omega)).trans h.o⟩
theorem ToSt.set {w W : World} {A R : Obj} {cur : Array Value} {t : TypeId} (h : ToSt w W A R (.cells cur t (0, 0))) (i : Nat) (u : Value) : ToSt w (W.setCell ⟨w.heap.size + 1 + 1, i, none⟩ u) A R (.cells (cur.setIfInBounds i u) t (0, 0)) :=
  ⟨h.bel.setCell (by show w.heap.size ≤ w.heap.size + 1 + 1; omega) _, (Below.heap_setCell _ _ _ _ (by show w.heap.size ≠ w.heap.size + 1 + 1; omega)).trans h.a, (Below.heap_setCell _ _ _ _ (by show w.heap.size + 1 ≠ w.heap.size + 1 + 1; omega)).trans h.r, heap_setCell_same _ _ _ _ _ _ h.o⟩
theorem ToSt.setr {w W : World} {A O : Obj} {cur : Array Value} {t : TypeId} (h : ToSt w W A (.cells cur t (0, 0)) O) (i : Nat) (u : Value) : ToSt w (W.setCell ⟨w.heap.size + 1, i, none⟩ u) A (.cells (cur.setIfInBounds i u) t (0, 0)) O :=
  ⟨h.bel.setCell (by show w.heap.size ≤ w.heap.size + 1; omega) _, (Below.heap_setCell _ _ _ _ (by show w.heap.size ≠ w.heap.size + 1; omega)).trans h.a, heap_setCell_same _ _ _ _ _ _ h.r, (Below.heap_setCell _ _ _ _ (by show w.heap.size + 1 + 1 ≠ w.heap.size + 1; omega)).trans h.o⟩
set_option maxRecDepth 100000 in
set_option maxHeartbeats 4000000 in
theorem toLf_own (v : Value) (z : Lf) (w : World) (hs : LfSz z ≤ 1048576) (hv : LfL w v z) :
    Calls Tryd.prog 23 #[v] w fun e w' => ∃ v', e = .returned v' ∧ LfO w.heap.size w' v' z ∧ Below w.heap.size w w' := by
  obtain ⟨ao6, n6, c6, rfl, q0_0, q1_0, q2_0, q3_0, q4_0, q5_0, q6_0, q6_1⟩ := hv.out
  obtain rfl : n6 = z.df.length := q6_1.1
  have HF0_0 := Lib.hid q0_0
  have HF1_0 := Lib.hid q1_0
  have HF2_0 := Lib.hid q2_0
  have HF3_0 := Lib.hid q3_0
  have HF4_0 := Lib.hid q4_0
  have HF5_0 := Lib.hid q5_0
  have HF6_0 := Lib.hid q6_0
  have HF6_1 := Lib.hid q6_1
  have HS := Lib.hid hs
  have HS6 := Lib.hid (show BxSz z.df ≤ 1048576 by unfold LfSz at hs; omega)
  clear hv hs q0_0 q1_0 q2_0 q3_0 q4_0 q5_0 q6_0 q6_1
  have ST0 := Lib.hid (ToSt.start w (.cells #[.string z.id, .string z.fl, .int .i64 z.nu, .string z.ve.1, .int .i64 z.ve.2.1, .int .i64 z.ve.2.2, .int .i64 z.wd, .int .i64 z.ln, .slice ao6 z.df.length c6] 38 (0, 0)) (.cells #[.string ⟨#[]⟩, .string ⟨#[]⟩, .int .i64 0, .string ⟨#[]⟩, .int .i64 0, .int .i64 0, .int .i64 0, .int .i64 0, .slice none 0 0] 45 (0, 0)) (.cells #[.string z.id, .string z.fl, .int .i64 z.nu, .string ⟨#[]⟩, .int .i64 0, .int .i64 0, .int .i64 0, .int .i64 0, .slice none 0 0] 45 (0, 0)))
  go_enter Tryd.func23, Tryd.ntmps23
  go_wp2_with fail
  have HSC := Lib.hid ST0.out
  refine (toVn_any (z.ve.1) (z.ve.2.1) (z.ve.2.2) _).mono ?_
  rintro e w1 ⟨rfl, g3⟩
  have ST1 := Lib.hid (HSC.out.call g3)
  clear g3 HSC
  have hz := (ST1.out).big
  have a_0 := (cell_of_arr ST1.out.a (j := 0) rfl).1
  have a_1 := (cell_of_arr ST1.out.a (j := 1) rfl).1
  have a_2 := (cell_of_arr ST1.out.a (j := 2) rfl).1
  have a_3 := (cell_of_arr ST1.out.a (j := 3) rfl).1
  have a_4 := (cell_of_arr ST1.out.a (j := 4) rfl).1
  have a_5 := (cell_of_arr ST1.out.a (j := 5) rfl).1
  have a_6 := (cell_of_arr ST1.out.a (j := 6) rfl).1
  have a_7 := (cell_of_arr ST1.out.a (j := 7) rfl).1
  have a_8 := (cell_of_arr ST1.out.a (j := 8) rfl).1
  have c_0 := cell_of_arr ST1.out.o (j := 0) rfl
  have f_0 := c_0.2
  replace c_0 := c_0.1
  have c_1 := cell_of_arr ST1.out.o (j := 1) rfl
  have f_1 := c_1.2
  replace c_1 := c_1.1
  have c_2 := cell_of_arr ST1.out.o (j := 2) rfl
  have f_2 := c_2.2
  replace c_2 := c_2.1
  have c_3 := cell_of_arr ST1.out.o (j := 3) rfl
  have f_3 := c_3.2
  replace c_3 := c_3.1
  have c_4 := cell_of_arr ST1.out.o (j := 4) rfl
  have f_4 := c_4.2
  replace c_4 := c_4.1
  have c_5 := cell_of_arr ST1.out.o (j := 5) rfl
  have f_5 := c_5.2
  replace c_5 := c_5.1
  have c_6 := cell_of_arr ST1.out.o (j := 6) rfl
  have f_6 := c_6.2
  replace c_6 := c_6.1
  have c_7 := cell_of_arr ST1.out.o (j := 7) rfl
  have f_7 := c_7.2
  replace c_7 := c_7.1
  have c_8 := cell_of_arr ST1.out.o (j := 8) rfl
  have f_8 := c_8.2
  replace c_8 := c_8.1
  have r_0 := cell_of_arr ST1.out.r (j := 0) rfl
  have s_0 := r_0.2
  replace r_0 := r_0.1
  have r_1 := cell_of_arr ST1.out.r (j := 1) rfl
  have s_1 := r_1.2
  replace r_1 := r_1.1
  have r_2 := cell_of_arr ST1.out.r (j := 2) rfl
  have s_2 := r_2.2
  replace r_2 := r_2.1
  have r_3 := cell_of_arr ST1.out.r (j := 3) rfl
  have s_3 := r_3.2
  replace r_3 := r_3.1
  have r_4 := cell_of_arr ST1.out.r (j := 4) rfl
  have s_4 := r_4.2
  replace r_4 := r_4.1
  have r_5 := cell_of_arr ST1.out.r (j := 5) rfl
  have s_5 := r_5.2
  replace r_5 := r_5.1
  have r_6 := cell_of_arr ST1.out.r (j := 6) rfl
  have s_6 := r_6.2
  replace r_6 := r_6.1
  have r_7 := cell_of_arr ST1.out.r (j := 7) rfl
  have s_7 := r_7.2
  replace r_7 := r_7.1
  have r_8 := cell_of_arr ST1.out.r (j := 8) rfl
  have s_8 := r_8.2
  replace r_8 := r_8.1
  have z0_ : w.heap.size < w1.heap.size := by omega
  have z1_ : w.heap.size + 1 < w1.heap.size := by omega
  have z2_ : w.heap.size + 1 + 1 < w1.heap.size := by omega
  go_wp2_with fail
  have HSC := Lib.hid (((((ST1.out.set 3 (.string z.ve.1)).set 4 (.int .i64 z.ve.2.1)).set 5 (.int .i64 z.ve.2.2)).set 6 (.int .i64 z.wd)).set 7 (.int .i64 z.ln))
  clear hz a_0 c_0 f_0 r_0 s_0 a_1 c_1 f_1 r_1 s_1 a_2 c_2 f_2 r_2 s_2 a_3 c_3 f_3 r_3 s_3 a_4 c_4 f_4 r_4 s_4 a_5 c_5 f_5 r_5 s_5 a_6 c_6 f_6 r_6 s_6 a_7 c_7 f_7 r_7 s_7 a_8 c_8 f_8 r_8 s_8 z0_ z1_ z2_
  refine (toBxs_own ao6 _ c6 z.df _ (by have := HS6.out; unfold BxSz at this; omega) (HF6_1.out.below HSC.out.bel)).mono ?_
  rintro e w2 ⟨og6, rfl, hl6, o6, g6⟩
  have HBG := HSC.out.big
  have hl6_ := hl6
  have ST2 := Lib.hid (HSC.out.call g6)
  have HSI2 := Lib.hid (show w1.heap.size ≤ w2.heap.size by have := g6.size; simpa using this)
  have HL6 := Lib.hid (show w.heap.size + 3 ≤ og6 by omega)
  have hl6 := HL6.out
  have HO6 := Lib.hid o6
  have HR6 := Lib.hid (show w1.heap.size ≤ og6 by simpa using hl6_)
  have HT6 := Lib.hid o6.lt
  clear g6 HBG HSC o6 hl6_
  have hz := (ST2.out).big
  have a_0 := (cell_of_arr ST2.out.a (j := 0) rfl).1
  have a_1 := (cell_of_arr ST2.out.a (j := 1) rfl).1
  have a_2 := (cell_of_arr ST2.out.a (j := 2) rfl).1
  have a_3 := (cell_of_arr ST2.out.a (j := 3) rfl).1
  have a_4 := (cell_of_arr ST2.out.a (j := 4) rfl).1
  have a_5 := (cell_of_arr ST2.out.a (j := 5) rfl).1
  have a_6 := (cell_of_arr ST2.out.a (j := 6) rfl).1
  have a_7 := (cell_of_arr ST2.out.a (j := 7) rfl).1
  have a_8 := (cell_of_arr ST2.out.a (j := 8) rfl).1
  have c_0 := cell_of_arr ST2.out.o (j := 0) rfl
  have f_0 := c_0.2
  replace c_0 := c_0.1
  have c_1 := cell_of_arr ST2.out.o (j := 1) rfl
  have f_1 := c_1.2
  replace c_1 := c_1.1
  have c_2 := cell_of_arr ST2.out.o (j := 2) rfl
  have f_2 := c_2.2
  replace c_2 := c_2.1
  have c_3 := cell_of_arr ST2.out.o (j := 3) rfl
  have f_3 := c_3.2
  replace c_3 := c_3.1
  have c_4 := cell_of_arr ST2.out.o (j := 4) rfl
  have f_4 := c_4.2
  replace c_4 := c_4.1
  have c_5 := cell_of_arr ST2.out.o (j := 5) rfl
  have f_5 := c_5.2
  replace c_5 := c_5.1
  have c_6 := cell_of_arr ST2.out.o (j := 6) rfl
  have f_6 := c_6.2
  replace c_6 := c_6.1
  have c_7 := cell_of_arr ST2.out.o (j := 7) rfl
  have f_7 := c_7.2
  replace c_7 := c_7.1
  have c_8 := cell_of_arr ST2.out.o (j := 8) rfl
  have f_8 := c_8.2
  replace c_8 := c_8.1
  have r_0 := cell_of_arr ST2.out.r (j := 0) rfl
  have s_0 := r_0.2
  replace r_0 := r_0.1
  have r_1 := cell_of_arr ST2.out.r (j := 1) rfl
  have s_1 := r_1.2
  replace r_1 := r_1.1
  have r_2 := cell_of_arr ST2.out.r (j := 2) rfl
  have s_2 := r_2.2
  replace r_2 := r_2.1
  have r_3 := cell_of_arr ST2.out.r (j := 3) rfl
  have s_3 := r_3.2
  replace r_3 := r_3.1
  have r_4 := cell_of_arr ST2.out.r (j := 4) rfl
  have s_4 := r_4.2
  replace r_4 := r_4.1
  have r_5 := cell_of_arr ST2.out.r (j := 5) rfl
  have s_5 := r_5.2
  replace r_5 := r_5.1
  have r_6 := cell_of_arr ST2.out.r (j := 6) rfl
  have s_6 := r_6.2
  replace r_6 := r_6.1
  have r_7 := cell_of_arr ST2.out.r (j := 7) rfl
  have s_7 := r_7.2
  replace r_7 := r_7.1
  have r_8 := cell_of_arr ST2.out.r (j := 8) rfl
  have s_8 := r_8.2
  replace r_8 := r_8.1
  have z0_ : w.heap.size < w2.heap.size := by omega
  have z1_ : w.heap.size + 1 < w2.heap.size := by omega
  have z2_ : w.heap.size + 1 + 1 < w2.heap.size := by omega
  go_wp2
  have HE := Lib.hid ((((((((((ST2.out.set 8 (.slice (some ⟨og6, 0, none⟩) z.df.length z.df.length)).setr 0 (.string z.id)).setr 1 (.string z.fl)).setr 2 (.int .i64 z.nu)).setr 3 (.string z.ve.1)).setr 4 (.int .i64 z.ve.2.1)).setr 5 (.int .i64 z.ve.2.2)).setr 6 (.int .i64 z.wd)).setr 7 (.int .i64 z.ln)).setr 8 (.slice (some ⟨og6, 0, none⟩) z.df.length z.df.length))
  have HQ6 := Lib.hid (row_set (row_set (row_set (row_set (row_set (row_set (row_set (row_set (row_set (row_set HO6.out ⟨w.heap.size + 1 + 1, 8, none⟩ (.slice (some ⟨og6, 0, none⟩) z.df.length z.df.length) (by show w.heap.size + 1 + 1 < _; omega)) ⟨w.heap.size + 1, 0, none⟩ (.string z.id) (by show w.heap.size + 1 < _; omega)) ⟨w.heap.size + 1, 1, none⟩ (.string z.fl) (by show w.heap.size + 1 < _; omega)) ⟨w.heap.size + 1, 2, none⟩ (.int .i64 z.nu) (by show w.heap.size + 1 < _; omega)) ⟨w.heap.size + 1, 3, none⟩ (.string z.ve.1) (by show w.heap.size + 1 < _; omega)) ⟨w.heap.size + 1, 4, none⟩ (.int .i64 z.ve.2.1) (by show w.heap.size + 1 < _; omega)) ⟨w.heap.size + 1, 5, none⟩ (.int .i64 z.ve.2.2) (by show w.heap.size + 1 < _; omega)) ⟨w.heap.size + 1, 6, none⟩ (.int .i64 z.wd) (by show w.heap.size + 1 < _; omega)) ⟨w.heap.size + 1, 7, none⟩ (.int .i64 z.ln) (by show w.heap.size + 1 < _; omega)) ⟨w.heap.size + 1, 8, none⟩ (.slice (some ⟨og6, 0, none⟩) z.df.length z.df.length) (by show w.heap.size + 1 < _; omega))
  refine bodyPost_ret (v := .agg #[.string z.id, .string z.fl, .int .i64 z.nu, .string z.ve.1, .int .i64 z.ve.2.1, .int .i64 z.ve.2.2, .int .i64 z.wd, .int .i64 z.ln, .slice (some ⟨og6, 0, none⟩) z.df.length z.df.length]) (by simp [results, Tryd.results23, go_sem, r_0, r_1, r_2, r_3, r_4, r_5, r_6, r_7, r_8, z1_]) rfl ⟨_, rfl, ⟨og6, w2.heap.size, rfl, HS.out, HF0_0.out, HF1_0.out, HF2_0.out, HF3_0.out, HF4_0.out, HF5_0.out, (by have := HL6.out; omega), HT6.out, (by simp), HQ6.out⟩, HE.out.bel⟩
set_option maxRecDepth 100000 in
set_option maxHeartbeats 1000000 in
theorem eqLf_same (u v : Value) (z : Lf) (w : World) (hu : LfV w u z) (hv : LfV w v z) :
    Calls Tryd.prog 26 #[u, v] w fun e w' => e = .returned (.bool true) ∧ Below w.heap.size w w' := by
  obtain ⟨ao6, n6, c6, rfl, hsp, p0_0, p1_0, p2_0, p3_0, p4_0, p5_0, p6_0, p6_1⟩ := hu.out
  obtain ⟨ao6y, n6y, c6y, rfl, hsr, r0_0, r1_0, r2_0, r3_0, r4_0, r5_0, r6_0, r6_1⟩ := hv.out
  obtain rfl : n6 = z.df.length := p6_1.1
  obtain rfl : n6y = z.df.length := r6_1.1
  have HN6 := Lib.hid p6_0
  have HSZ := Lib.hid hsp
  have h2 := two_allocs (w := w) (.cells #[.string z.id, .string z.fl, .int .i64 z.nu, .string z.ve.1, .int .i64 z.ve.2.1, .int .i64 z.ve.2.2, .int .i64 z.wd, .int .i64 z.ln, .slice ao6 z.df.length c6] 45) (.cells #[.string z.id, .string z.fl, .int .i64 z.nu, .string z.ve.1, .int .i64 z.ve.2.1, .int .i64 z.ve.2.2, .int .i64 z.wd, .int .i64 z.ln, .slice ao6y z.df.length c6y] 45)
  have HX := Lib.hid (Below.heap_alloc (w.alloc (.cells #[.string z.id, .string z.fl, .int .i64 z.nu, .string z.ve.1, .int .i64 z.ve.2.1, .int .i64 z.ve.2.2, .int .i64 z.wd, .int .i64 z.ln, .slice ao6 z.df.length c6] 45)) (.cells #[.string z.id, .string z.fl, .int .i64 z.nu, .string z.ve.1, .int .i64 z.ve.2.1, .int .i64 z.ve.2.2, .int .i64 z.wd, .int .i64 z.ln, .slice ao6y z.df.length c6y] 45) w.heap.size (by simp; try omega) |>.trans (World.alloc_heap_new w (.cells #[.string z.id, .string z.fl, .int .i64 z.nu, .string z.ve.1, .int .i64 z.ve.2.1, .int .i64 z.ve.2.2, .int .i64 z.wd, .int .i64 z.ln, .slice ao6 z.df.length c6] 45)))
  have HY := World.alloc_heap_new (w.alloc (.cells #[.string z.id, .string z.fl, .int .i64 z.nu, .string z.ve.1, .int .i64 z.ve.2.1, .int .i64 z.ve.2.2, .int .i64 z.wd, .int .i64 z.ln, .slice ao6 z.df.length c6] 45)) (.cells #[.string z.id, .string z.fl, .int .i64 z.nu, .string z.ve.1, .int .i64 z.ve.2.1, .int .i64 z.ve.2.2, .int .i64 z.wd, .int .i64 z.ln, .slice ao6y z.df.length c6y] 45)
  rw [show (w.alloc (.cells #[.string z.id, .string z.fl, .int .i64 z.nu, .string z.ve.1, .int .i64 z.ve.2.1, .int .i64 z.ve.2.2, .int .i64 z.wd, .int .i64 z.ln, .slice ao6 z.df.length c6] 45)).heap.size = w.heap.size + 1 by simp] at HY
  replace HY := Lib.hid HY
  have HU6 := Lib.hid (p6_1.below h2)
  have HV6 := Lib.hid (r6_1.below h2)
  have HG := Lib.hid h2
  clear h2 hu hv hsp hsr p6_0 p6_1 r6_0 r6_1
  go_enter Tryd.func26, Tryd.ntmps26
  go_wp2_with fail
  refine (eqVn_same (z.ve.1) (z.ve.2.1) (z.ve.2.2) _).mono ?_
  rintro e w1 ⟨rfl, g1⟩
  replace HX := Lib.hid ((g1.block _ (blk_lt HX.out)).trans HX.out)
  replace HY := Lib.hid ((g1.block _ (blk_lt HY.out)).trans HY.out)
  replace HG := Lib.hid (HG.out.trans (g1.mono HG.out.size))
  replace HU6 := Lib.hid (HU6.out.below g1)
  replace HV6 := Lib.hid (HV6.out.below g1)
  clear g1
  have hz := blk_lt HX.out
  have hy := blk_lt HY.out
  have a_0 := (cell_of_arr HX.out (j := 0) rfl).1
  have b_0 := (cell_of_arr HY.out (j := 0) rfl).1
  have a_1 := (cell_of_arr HX.out (j := 1) rfl).1
  have b_1 := (cell_of_arr HY.out (j := 1) rfl).1
  have a_2 := (cell_of_arr HX.out (j := 2) rfl).1
  have b_2 := (cell_of_arr HY.out (j := 2) rfl).1
  have a_3 := (cell_of_arr HX.out (j := 3) rfl).1
  have b_3 := (cell_of_arr HY.out (j := 3) rfl).1
  have a_4 := (cell_of_arr HX.out (j := 4) rfl).1
  have b_4 := (cell_of_arr HY.out (j := 4) rfl).1
  have a_5 := (cell_of_arr HX.out (j := 5) rfl).1
  have b_5 := (cell_of_arr HY.out (j := 5) rfl).1
  have a_6 := (cell_of_arr HX.out (j := 6) rfl).1
  have b_6 := (cell_of_arr HY.out (j := 6) rfl).1
  have a_7 := (cell_of_arr HX.out (j := 7) rfl).1
  have b_7 := (cell_of_arr HY.out (j := 7) rfl).1
  have a_8 := (cell_of_arr HX.out (j := 8) rfl).1
  have b_8 := (cell_of_arr HY.out (j := 8) rfl).1
  go_wp2_with fail
  refine (eqBxs_same _ _ _ _ _ z.df _ HN6.out HU6.out HV6.out).mono ?_
  rintro e w2 ⟨rfl, g2⟩
  clear hz hy a_0 b_0 a_1 b_1 a_2 b_2 a_3 b_3 a_4 b_4 a_5 b_5 a_6 b_6 a_7 b_7 a_8 b_8
  replace HX := Lib.hid ((g2.block _ (blk_lt HX.out)).trans HX.out)
  replace HY := Lib.hid ((g2.block _ (blk_lt HY.out)).trans HY.out)
  replace HG := Lib.hid (HG.out.trans (g2.mono HG.out.size))
  clear g2
  have hz := blk_lt HX.out
  have hy := blk_lt HY.out
  have a_0 := (cell_of_arr HX.out (j := 0) rfl).1
  have b_0 := (cell_of_arr HY.out (j := 0) rfl).1
  have a_1 := (cell_of_arr HX.out (j := 1) rfl).1
  have b_1 := (cell_of_arr HY.out (j := 1) rfl).1
  have a_2 := (cell_of_arr HX.out (j := 2) rfl).1
  have b_2 := (cell_of_arr HY.out (j := 2) rfl).1
  have a_3 := (cell_of_arr HX.out (j := 3) rfl).1
  have b_3 := (cell_of_arr HY.out (j := 3) rfl).1
  have a_4 := (cell_of_arr HX.out (j := 4) rfl).1
  have b_4 := (cell_of_arr HY.out (j := 4) rfl).1
  have a_5 := (cell_of_arr HX.out (j := 5) rfl).1
  have b_5 := (cell_of_arr HY.out (j := 5) rfl).1
  have a_6 := (cell_of_arr HX.out (j := 6) rfl).1
  have b_6 := (cell_of_arr HY.out (j := 6) rfl).1
  have a_7 := (cell_of_arr HX.out (j := 7) rfl).1
  have b_7 := (cell_of_arr HY.out (j := 7) rfl).1
  have a_8 := (cell_of_arr HX.out (j := 8) rfl).1
  have b_8 := (cell_of_arr HY.out (j := 8) rfl).1
  go_wp2
  go_ret
  exact ⟨rfl, HG.out⟩
end Go.Proofs.YthocpiklbcahgaaDoor
