/- The struct Picture in laws: copies of its own, views, equality. -/
import Derived.Test.YtkmmhkhbpfkmcaaGreatDoorSaPicture
import Derived.Test.YtkmmhkhbpfkmcaaGreatDoorLay
namespace Go.Proofs.YtkmmhkhbpfkmcaaGreatDoor
open Go.ChangeShapes Go.WideShapes Go.ChangeAt Go.RowKit
set_option linter.unusedVariables false
set_option linter.unusedSimpArgs false

/-- A copy of a law's own. -/
structure PcO (lo : Nat) (w : World) (v : Value) (z : Pc) : Prop where
  out : ∃ (op0 ob0 oh0 : Nat) (og1 oh1 : Nat), v = .agg #[.int .i64 z.dr.wd, .int .i64 z.dr.hg, .slice (some ⟨op0, 0, none⟩) z.dr.ps.length z.dr.ps.length, .slice (some ⟨ob0, 0, none⟩) z.dr.fs.length z.dr.fs.length, .slice (some ⟨og1, 0, none⟩) z.vs.length z.vs.length] ∧ PcSz z ≤ 1048576 ∧ DO lo w (.agg #[.int .i64 z.dr.wd, .int .i64 z.dr.hg, .slice (some ⟨op0, 0, none⟩) z.dr.ps.length z.dr.ps.length, .slice (some ⟨ob0, 0, none⟩) z.dr.fs.length z.dr.fs.length]) z.dr ∧ DX lo oh0 w (.agg #[.int .i64 z.dr.wd, .int .i64 z.dr.hg, .slice (some ⟨op0, 0, none⟩) z.dr.ps.length z.dr.ps.length, .slice (some ⟨ob0, 0, none⟩) z.dr.fs.length z.dr.fs.length]) z.dr ∧ oh0 ≤ w.heap.size ∧ oh0 ≤ og1 ∧ og1 < oh1 ∧ oh1 ≤ w.heap.size ∧ w.rowIs og1 54 (z.vs.length * 3) (VnF z.vs z.vs.length)
theorem PcO.below {lo : Nat} {w w' : World} {v : Value} {z : Pc} (h : PcO lo w v z) (hb : Below w.heap.size w w') : PcO lo w' v z := by
  obtain ⟨op0, ob0, oh0, og1, oh1, h0, hs, o0_0, o0_1, o0_2, o1_0, o1_1, o1_2, o1_3⟩ := h.out
  exact ⟨op0, ob0, oh0, og1, oh1, h0, hs, o0_0.below hb, o0_1.below hb, Nat.le_trans o0_2 hb.size, o1_0, o1_1, Nat.le_trans o1_2 hb.size, rowIs_below o1_3 hb⟩
/-- One that a call reads. -/
structure PcV (w : World) (v : Value) (z : Pc) : Prop where
  out : ∃ (ao0 bo0 : Option Addr) (n0 c0 m0 d0 : Nat) (ao1 : Option Addr) (n1 c1 : Nat), v = .agg #[.int .i64 z.dr.wd, .int .i64 z.dr.hg, .slice ao0 n0 c0, .slice bo0 m0 d0, .slice ao1 n1 c1] ∧ PcSz z ≤ 1048576 ∧ DV w (.agg #[.int .i64 z.dr.wd, .int .i64 z.dr.hg, .slice ao0 n0 c0, .slice bo0 m0 d0]) z.dr ∧ n1 ≤ 1048576 ∧ VnV w ao1 n1 z.vs
theorem PcV.below {w w' : World} {v : Value} {z : Pc} (h : PcV w v z) (hb : Below w.heap.size w w') : PcV w' v z := by
  obtain ⟨ao0, bo0, n0, c0, m0, d0, ao1, n1, c1, h0, hs, v0_0, v1_0, v1_1⟩ := h.out
  exact ⟨ao0, bo0, n0, c0, m0, d0, ao1, n1, c1, h0, hs, v0_0.below hb, v1_0, v1_1.below hb⟩
theorem PcO.view {lo : Nat} {w : World} {v : Value} {z : Pc} (h : PcO lo w v z) : PcV w v z := by
  obtain ⟨op0, ob0, oh0, og1, oh1, h0, hs, o0_0, o0_1, o0_2, o1_0, o1_1, o1_2, o1_3⟩ := h.out
  exact ⟨_, _, _, _, _, _, _, _, _, h0, hs, o0_0.view, (by unfold PcSz at hs; unfold VnSz at hs; omega), Vn_row rfl o1_3⟩
theorem DO.set {lo : Nat} {w : World} {v : Value} {D : Drw} (h : DO lo w v D) (a : Addr) (u : Value) (ha : a.block < lo) : DO lo (w.setCell a u) v D := by
  obtain ⟨p, b, h1, h2, h3, h4, h5, h6⟩ := h.out
  exact ⟨p, b, h1, h2, h3, h4, keep_set h5 a u ha, h6.set a u ha⟩
theorem DO.lower {lo lo' : Nat} {w : World} {v : Value} {D : Drw} (h : DO lo w v D) (hl : lo' ≤ lo) : DO lo' w v D := by
  obtain ⟨p, b, h1, h2, h3, h4, h5, h6⟩ := h.out
  exact ⟨p, b, h1, h2, h3, h4, own_lower h5 hl, h6.lower hl⟩
theorem row_set {w : World} {g n : Nat} {t : TypeId} {f : Nat → Value} (h : w.rowIs g t n f) (a : Addr) (u : Value) (ha : a.block < g) : (w.setCell a u).rowIs g t n f := h.of_block (Below.heap_setCell w a u g (by omega))
/-- What a copy stands at: the argument's box, the result's, the copy's. -/
structure ToSt (w W : World) (A R O : Obj) : Prop where
  bel : Below w.heap.size w W
  a : W.heap[w.heap.size]? = some A
  r : W.heap[w.heap.size + 1]? = some R
  o : W.heap[w.heap.size + 1 + 1]? = some O
theorem ToSt.start (w : World) (A R O : Obj) : ToSt w (((w.alloc A).alloc R).alloc O) A R O :=
  ⟨three_allocs _ _ _, (Below.heap_alloc _ _ _ (by simp <;> omega)).trans ((Below.heap_alloc _ _ _ (by simp)).trans (World.alloc_heap_new _ _)), (Below.heap_alloc _ _ _ (by simp)).trans (by have := World.alloc_heap_new (w.alloc A) R; simpa using this), by have := World.alloc_heap_new ((w.alloc A).alloc R) O; simpa using this⟩
theorem ToSt.big {w W : World} {A R O : Obj} (h : ToSt w W A R O) : w.heap.size + 3 ≤ W.heap.size := by
  have := (Array.getElem?_eq_some_iff.1 h.o).1
  omega
theorem ToSt.call {w W W' : World} {A R O : Obj} (h : ToSt w W A R O) (g : Below W.heap.size W W') : ToSt w W' A R O := by
  have hb := h.big
  exact ⟨h.bel.trans (g.mono (by omega)), (g.block _ (by omega)).trans h.a, (g.block _ (by omega)).trans h.r, (g.block _ (by omega)).trans h.o⟩
theorem ToSt.set {w W : World} {A R : Obj} {cur : Array Value} {t : TypeId} (h : ToSt w W A R (.cells cur t (0, 0))) (i : Nat) (u : Value) : ToSt w (W.setCell ⟨w.heap.size + 1 + 1, i, none⟩ u) A R (.cells (cur.setIfInBounds i u) t (0, 0)) :=
  ⟨h.bel.setCell (by show w.heap.size ≤ w.heap.size + 1 + 1; omega) _, (Below.heap_setCell _ _ _ _ (by show w.heap.size ≠ w.heap.size + 1 + 1; omega)).trans h.a, (Below.heap_setCell _ _ _ _ (by show w.heap.size + 1 ≠ w.heap.size + 1 + 1; omega)).trans h.r, heap_setCell_same _ _ _ _ _ _ h.o⟩
theorem ToSt.setr {w W : World} {A O : Obj} {cur : Array Value} {t : TypeId} (h : ToSt w W A (.cells cur t (0, 0)) O) (i : Nat) (u : Value) : ToSt w (W.setCell ⟨w.heap.size + 1, i, none⟩ u) A (.cells (cur.setIfInBounds i u) t (0, 0)) O :=
  ⟨h.bel.setCell (by show w.heap.size ≤ w.heap.size + 1; omega) _, (Below.heap_setCell _ _ _ _ (by show w.heap.size ≠ w.heap.size + 1; omega)).trans h.a, heap_setCell_same _ _ _ _ _ _ h.r, (Below.heap_setCell _ _ _ _ (by show w.heap.size + 1 + 1 ≠ w.heap.size + 1; omega)).trans h.o⟩
set_option maxRecDepth 100000 in
set_option maxHeartbeats 4000000 in
theorem toPc_own (v : Value) (z : Pc) (w : World) (hs : PcSz z ≤ 1048576) (hv : PcL w v z) :
    Calls Tryz.prog 10 #[v] w fun e w' => ∃ v', e = .returned v' ∧ PcO w.heap.size w' v' z ∧ Below w.heap.size w w' := by
  obtain ⟨ao0, bo0, n0, c0, m0, d0, ao1, n1, c1, rfl, q0_0, q1_0, q1_1⟩ := hv.out
  obtain rfl : n1 = z.vs.length := q1_1.1
  have HF0_0 := Lib.hid q0_0
  have HF1_0 := Lib.hid q1_0
  have HF1_1 := Lib.hid q1_1
  have HS := Lib.hid hs
  have HS0 := Lib.hid (show dSz z.dr ≤ 1048576 by unfold PcSz at hs; omega)
  have HS1 := Lib.hid (show VnSz z.vs ≤ 1048576 by unfold PcSz at hs; omega)
  clear hv hs q0_0 q1_0 q1_1
  have ST0 := Lib.hid (ToSt.start w (.cells #[.int .i64 z.dr.wd, .int .i64 z.dr.hg, .slice ao0 n0 c0, .slice bo0 m0 d0, .slice ao1 z.vs.length c1] 28 (0, 0)) (.cells #[.int .i64 0, .int .i64 0, .slice none 0 0, .slice none 0 0, .slice none 0 0] 37 (0, 0)) (.cells #[.int .i64 0, .int .i64 0, .slice none 0 0, .slice none 0 0, .slice none 0 0] 37 (0, 0)))
  go_enter Tryz.func10, Tryz.ntmps10
  go_wp2_with fail
  have HSC := Lib.hid ST0.out
  refine (toDr_own _ z.dr _ HS0.out (HF0_0.out.below HSC.out.bel)).mono ?_
  rintro e w1 ⟨u0, rfl, o0, g0⟩
  have HBG := HSC.out.big
  have ST1 := Lib.hid (HSC.out.call g0)
  have HO0 := Lib.hid (o0.lower HBG)
  have HM0 := Lib.hid ((DX.of o0).lower HBG)
  obtain ⟨op0, ob0, rfl, _⟩ := HO0.out.out
  clear g0 HBG HSC o0
  have hz := (ST1.out).big
  have a_0 := (cell_of_arr ST1.out.a (j := 0) rfl).1
  have a_1 := (cell_of_arr ST1.out.a (j := 1) rfl).1
  have a_2 := (cell_of_arr ST1.out.a (j := 2) rfl).1
  have a_3 := (cell_of_arr ST1.out.a (j := 3) rfl).1
  have a_4 := (cell_of_arr ST1.out.a (j := 4) rfl).1
  have c_0 := cell_of_arr ST1.out.o (j := 0) rfl
  have f_0 := c_0.2
  replace c_0 := c_0.1
  have c_1 := cell_of_arr ST1.out.o (j := 1) rfl
  have f_1 := c_1.2
  replace c_1 := c_1.1
  have c_2 := cell_of_arr ST1.out.o (j := 2) rfl
  have f_2 := c_2.2
  replace c_2 := c_2.1
  have c_3 := cell_of_arr ST1.out.o (j := 3) rfl
  have f_3 := c_3.2
  replace c_3 := c_3.1
  have c_4 := cell_of_arr ST1.out.o (j := 4) rfl
  have f_4 := c_4.2
  replace c_4 := c_4.1
  have r_0 := cell_of_arr ST1.out.r (j := 0) rfl
  have s_0 := r_0.2
  replace r_0 := r_0.1
  have r_1 := cell_of_arr ST1.out.r (j := 1) rfl
  have s_1 := r_1.2
  replace r_1 := r_1.1
  have r_2 := cell_of_arr ST1.out.r (j := 2) rfl
  have s_2 := r_2.2
  replace r_2 := r_2.1
  have r_3 := cell_of_arr ST1.out.r (j := 3) rfl
  have s_3 := r_3.2
  replace r_3 := r_3.1
  have r_4 := cell_of_arr ST1.out.r (j := 4) rfl
  have s_4 := r_4.2
  replace r_4 := r_4.1
  have z0_ : w.heap.size < w1.heap.size := by omega
  have z1_ : w.heap.size + 1 < w1.heap.size := by omega
  have z2_ : w.heap.size + 1 + 1 < w1.heap.size := by omega
  go_wp2_with fail
  have HSC := Lib.hid ((((ST1.out.set 0 (.int .i64 z.dr.wd)).set 1 (.int .i64 z.dr.hg)).set 2 (.slice (some ⟨op0, 0, none⟩) z.dr.ps.length z.dr.ps.length)).set 3 (.slice (some ⟨ob0, 0, none⟩) z.dr.fs.length z.dr.fs.length))
  have HP0 := Lib.hid ((((HO0.out.set ⟨w.heap.size + 1 + 1, 0, none⟩ (.int .i64 z.dr.wd) (by show w.heap.size + 1 + 1 < _; omega)).set ⟨w.heap.size + 1 + 1, 1, none⟩ (.int .i64 z.dr.hg) (by show w.heap.size + 1 + 1 < _; omega)).set ⟨w.heap.size + 1 + 1, 2, none⟩ (.slice (some ⟨op0, 0, none⟩) z.dr.ps.length z.dr.ps.length) (by show w.heap.size + 1 + 1 < _; omega)).set ⟨w.heap.size + 1 + 1, 3, none⟩ (.slice (some ⟨ob0, 0, none⟩) z.dr.fs.length z.dr.fs.length) (by show w.heap.size + 1 + 1 < _; omega))
  have HPM0 := Lib.hid ((((HM0.out.set ⟨w.heap.size + 1 + 1, 0, none⟩ (.int .i64 z.dr.wd) (by show w.heap.size + 1 + 1 < _; omega)).set ⟨w.heap.size + 1 + 1, 1, none⟩ (.int .i64 z.dr.hg) (by show w.heap.size + 1 + 1 < _; omega)).set ⟨w.heap.size + 1 + 1, 2, none⟩ (.slice (some ⟨op0, 0, none⟩) z.dr.ps.length z.dr.ps.length) (by show w.heap.size + 1 + 1 < _; omega)).set ⟨w.heap.size + 1 + 1, 3, none⟩ (.slice (some ⟨ob0, 0, none⟩) z.dr.fs.length z.dr.fs.length) (by show w.heap.size + 1 + 1 < _; omega))
  clear hz a_0 c_0 f_0 r_0 s_0 a_1 c_1 f_1 r_1 s_1 a_2 c_2 f_2 r_2 s_2 a_3 c_3 f_3 r_3 s_3 a_4 c_4 f_4 r_4 s_4 z0_ z1_ z2_
  refine (toVns_own ao1 _ c1 z.vs _ (by have := HS1.out; unfold VnSz at this; omega) (HF1_1.out.below HSC.out.bel)).mono ?_
  rintro e w2 ⟨og1, rfl, hl1, o1, g1⟩
  have HBG := HSC.out.big
  have hl1_ := hl1
  have ST2 := Lib.hid (HSC.out.call g1)
  have HSI2 := Lib.hid (show w1.heap.size ≤ w2.heap.size by have := g1.size; simpa using this)
  replace HM0 := Lib.hid (HPM0.out.below g1)
  replace HO0 := Lib.hid (HP0.out.below g1)
  have HL1 := Lib.hid (show w.heap.size + 3 ≤ og1 by omega)
  have hl1 := HL1.out
  have HO1 := Lib.hid o1
  have HR1 := Lib.hid (show w1.heap.size ≤ og1 by simpa using hl1_)
  have HT1 := Lib.hid o1.lt
  clear g1 HBG HSC HP0 HPM0 o1 hl1_
  have hz := (ST2.out).big
  have a_0 := (cell_of_arr ST2.out.a (j := 0) rfl).1
  have a_1 := (cell_of_arr ST2.out.a (j := 1) rfl).1
  have a_2 := (cell_of_arr ST2.out.a (j := 2) rfl).1
  have a_3 := (cell_of_arr ST2.out.a (j := 3) rfl).1
  have a_4 := (cell_of_arr ST2.out.a (j := 4) rfl).1
  have c_0 := cell_of_arr ST2.out.o (j := 0) rfl
  have f_0 := c_0.2
  replace c_0 := c_0.1
  have c_1 := cell_of_arr ST2.out.o (j := 1) rfl
  have f_1 := c_1.2
  replace c_1 := c_1.1
  have c_2 := cell_of_arr ST2.out.o (j := 2) rfl
  have f_2 := c_2.2
  replace c_2 := c_2.1
  have c_3 := cell_of_arr ST2.out.o (j := 3) rfl
  have f_3 := c_3.2
  replace c_3 := c_3.1
  have c_4 := cell_of_arr ST2.out.o (j := 4) rfl
  have f_4 := c_4.2
  replace c_4 := c_4.1
  have r_0 := cell_of_arr ST2.out.r (j := 0) rfl
  have s_0 := r_0.2
  replace r_0 := r_0.1
  have r_1 := cell_of_arr ST2.out.r (j := 1) rfl
  have s_1 := r_1.2
  replace r_1 := r_1.1
  have r_2 := cell_of_arr ST2.out.r (j := 2) rfl
  have s_2 := r_2.2
  replace r_2 := r_2.1
  have r_3 := cell_of_arr ST2.out.r (j := 3) rfl
  have s_3 := r_3.2
  replace r_3 := r_3.1
  have r_4 := cell_of_arr ST2.out.r (j := 4) rfl
  have s_4 := r_4.2
  replace r_4 := r_4.1
  have z0_ : w.heap.size < w2.heap.size := by omega
  have z1_ : w.heap.size + 1 < w2.heap.size := by omega
  have z2_ : w.heap.size + 1 + 1 < w2.heap.size := by omega
  go_wp2
  have HE := Lib.hid ((((((ST2.out.set 4 (.slice (some ⟨og1, 0, none⟩) z.vs.length z.vs.length)).setr 0 (.int .i64 z.dr.wd)).setr 1 (.int .i64 z.dr.hg)).setr 2 (.slice (some ⟨op0, 0, none⟩) z.dr.ps.length z.dr.ps.length)).setr 3 (.slice (some ⟨ob0, 0, none⟩) z.dr.fs.length z.dr.fs.length)).setr 4 (.slice (some ⟨og1, 0, none⟩) z.vs.length z.vs.length))
  have HQ0 := Lib.hid ((((((HO0.out.set ⟨w.heap.size + 1 + 1, 4, none⟩ (.slice (some ⟨og1, 0, none⟩) z.vs.length z.vs.length) (by show w.heap.size + 1 + 1 < _; omega)).set ⟨w.heap.size + 1, 0, none⟩ (.int .i64 z.dr.wd) (by show w.heap.size + 1 < _; omega)).set ⟨w.heap.size + 1, 1, none⟩ (.int .i64 z.dr.hg) (by show w.heap.size + 1 < _; omega)).set ⟨w.heap.size + 1, 2, none⟩ (.slice (some ⟨op0, 0, none⟩) z.dr.ps.length z.dr.ps.length) (by show w.heap.size + 1 < _; omega)).set ⟨w.heap.size + 1, 3, none⟩ (.slice (some ⟨ob0, 0, none⟩) z.dr.fs.length z.dr.fs.length) (by show w.heap.size + 1 < _; omega)).set ⟨w.heap.size + 1, 4, none⟩ (.slice (some ⟨og1, 0, none⟩) z.vs.length z.vs.length) (by show w.heap.size + 1 < _; omega))
  have HQM0 := Lib.hid ((((((HM0.out.set ⟨w.heap.size + 1 + 1, 4, none⟩ (.slice (some ⟨og1, 0, none⟩) z.vs.length z.vs.length) (by show w.heap.size + 1 + 1 < _; omega)).set ⟨w.heap.size + 1, 0, none⟩ (.int .i64 z.dr.wd) (by show w.heap.size + 1 < _; omega)).set ⟨w.heap.size + 1, 1, none⟩ (.int .i64 z.dr.hg) (by show w.heap.size + 1 < _; omega)).set ⟨w.heap.size + 1, 2, none⟩ (.slice (some ⟨op0, 0, none⟩) z.dr.ps.length z.dr.ps.length) (by show w.heap.size + 1 < _; omega)).set ⟨w.heap.size + 1, 3, none⟩ (.slice (some ⟨ob0, 0, none⟩) z.dr.fs.length z.dr.fs.length) (by show w.heap.size + 1 < _; omega)).set ⟨w.heap.size + 1, 4, none⟩ (.slice (some ⟨og1, 0, none⟩) z.vs.length z.vs.length) (by show w.heap.size + 1 < _; omega))
  have HQ1 := Lib.hid (row_set (row_set (row_set (row_set (row_set (row_set HO1.out ⟨w.heap.size + 1 + 1, 4, none⟩ (.slice (some ⟨og1, 0, none⟩) z.vs.length z.vs.length) (by show w.heap.size + 1 + 1 < _; omega)) ⟨w.heap.size + 1, 0, none⟩ (.int .i64 z.dr.wd) (by show w.heap.size + 1 < _; omega)) ⟨w.heap.size + 1, 1, none⟩ (.int .i64 z.dr.hg) (by show w.heap.size + 1 < _; omega)) ⟨w.heap.size + 1, 2, none⟩ (.slice (some ⟨op0, 0, none⟩) z.dr.ps.length z.dr.ps.length) (by show w.heap.size + 1 < _; omega)) ⟨w.heap.size + 1, 3, none⟩ (.slice (some ⟨ob0, 0, none⟩) z.dr.fs.length z.dr.fs.length) (by show w.heap.size + 1 < _; omega)) ⟨w.heap.size + 1, 4, none⟩ (.slice (some ⟨og1, 0, none⟩) z.vs.length z.vs.length) (by show w.heap.size + 1 < _; omega))
  refine bodyPost_ret (v := .agg #[.int .i64 z.dr.wd, .int .i64 z.dr.hg, .slice (some ⟨op0, 0, none⟩) z.dr.ps.length z.dr.ps.length, .slice (some ⟨ob0, 0, none⟩) z.dr.fs.length z.dr.fs.length, .slice (some ⟨og1, 0, none⟩) z.vs.length z.vs.length]) (by simp [results, Tryz.results10, go_sem, r_0, r_1, r_2, r_3, r_4, z1_]) rfl ⟨_, rfl, ⟨op0, ob0, w1.heap.size, og1, w2.heap.size, rfl, HS.out, HQ0.out.lower (by omega), HQM0.out.lower (by omega), (Nat.le_trans HSI2.out (by simp)), HR1.out, HT1.out, (by simp), HQ1.out⟩, HE.out.bel⟩
set_option maxRecDepth 100000 in
set_option maxHeartbeats 1000000 in
theorem eqPc_same (u v : Value) (z : Pc) (w : World) (hu : PcV w u z) (hv : PcV w v z) :
    Calls Tryz.prog 12 #[u, v] w fun e w' => e = .returned (.bool true) ∧ Below w.heap.size w w' := by
  obtain ⟨ao0, bo0, n0, c0, m0, d0, ao1, n1, c1, rfl, hsp, p0_0, p1_0, p1_1⟩ := hu.out
  obtain ⟨ao0y, bo0y, n0y, c0y, m0y, d0y, ao1y, n1y, c1y, rfl, hsr, r0_0, r1_0, r1_1⟩ := hv.out
  obtain rfl : n1 = z.vs.length := p1_1.1
  obtain rfl : n1y = z.vs.length := r1_1.1
  have HN1 := Lib.hid p1_0
  have HSZ := Lib.hid hsp
  have h2 := two_allocs (w := w) (.cells #[.int .i64 z.dr.wd, .int .i64 z.dr.hg, .slice ao0 n0 c0, .slice bo0 m0 d0, .slice ao1 z.vs.length c1] 37) (.cells #[.int .i64 z.dr.wd, .int .i64 z.dr.hg, .slice ao0y n0y c0y, .slice bo0y m0y d0y, .slice ao1y z.vs.length c1y] 37)
  have HX := Lib.hid (Below.heap_alloc (w.alloc (.cells #[.int .i64 z.dr.wd, .int .i64 z.dr.hg, .slice ao0 n0 c0, .slice bo0 m0 d0, .slice ao1 z.vs.length c1] 37)) (.cells #[.int .i64 z.dr.wd, .int .i64 z.dr.hg, .slice ao0y n0y c0y, .slice bo0y m0y d0y, .slice ao1y z.vs.length c1y] 37) w.heap.size (by simp; try omega) |>.trans (World.alloc_heap_new w (.cells #[.int .i64 z.dr.wd, .int .i64 z.dr.hg, .slice ao0 n0 c0, .slice bo0 m0 d0, .slice ao1 z.vs.length c1] 37)))
  have HY := World.alloc_heap_new (w.alloc (.cells #[.int .i64 z.dr.wd, .int .i64 z.dr.hg, .slice ao0 n0 c0, .slice bo0 m0 d0, .slice ao1 z.vs.length c1] 37)) (.cells #[.int .i64 z.dr.wd, .int .i64 z.dr.hg, .slice ao0y n0y c0y, .slice bo0y m0y d0y, .slice ao1y z.vs.length c1y] 37)
  rw [show (w.alloc (.cells #[.int .i64 z.dr.wd, .int .i64 z.dr.hg, .slice ao0 n0 c0, .slice bo0 m0 d0, .slice ao1 z.vs.length c1] 37)).heap.size = w.heap.size + 1 by simp] at HY
  replace HY := Lib.hid HY
  have HU0 := Lib.hid (p0_0.below h2)
  have HV0 := Lib.hid (r0_0.below h2)
  have HU1 := Lib.hid (p1_1.below h2)
  have HV1 := Lib.hid (r1_1.below h2)
  have HG := Lib.hid h2
  clear h2 hu hv hsp hsr p0_0 p1_0 p1_1 r0_0 r1_0 r1_1
  go_enter Tryz.func12, Tryz.ntmps12
  go_wp2_with fail
  refine (eqDr_same _ _ z.dr _ HU0.out HV0.out).mono ?_
  rintro e w1 ⟨rfl, g1⟩
  replace HX := Lib.hid ((g1.block _ (blk_lt HX.out)).trans HX.out)
  replace HY := Lib.hid ((g1.block _ (blk_lt HY.out)).trans HY.out)
  replace HG := Lib.hid (HG.out.trans (g1.mono HG.out.size))
  replace HU1 := Lib.hid (HU1.out.below g1)
  replace HV1 := Lib.hid (HV1.out.below g1)
  clear g1
  have hz := blk_lt HX.out
  have hy := blk_lt HY.out
  have a_0 := (cell_of_arr HX.out (j := 0) rfl).1
  have b_0 := (cell_of_arr HY.out (j := 0) rfl).1
  have a_1 := (cell_of_arr HX.out (j := 1) rfl).1
  have b_1 := (cell_of_arr HY.out (j := 1) rfl).1
  have a_2 := (cell_of_arr HX.out (j := 2) rfl).1
  have b_2 := (cell_of_arr HY.out (j := 2) rfl).1
  have a_3 := (cell_of_arr HX.out (j := 3) rfl).1
  have b_3 := (cell_of_arr HY.out (j := 3) rfl).1
  have a_4 := (cell_of_arr HX.out (j := 4) rfl).1
  have b_4 := (cell_of_arr HY.out (j := 4) rfl).1
  go_wp2_with fail
  refine (eqVns_same _ _ _ _ _ z.vs _ HN1.out HU1.out HV1.out).mono ?_
  rintro e w2 ⟨rfl, g2⟩
  clear hz hy a_0 b_0 a_1 b_1 a_2 b_2 a_3 b_3 a_4 b_4
  replace HX := Lib.hid ((g2.block _ (blk_lt HX.out)).trans HX.out)
  replace HY := Lib.hid ((g2.block _ (blk_lt HY.out)).trans HY.out)
  replace HG := Lib.hid (HG.out.trans (g2.mono HG.out.size))
  clear g2
  have hz := blk_lt HX.out
  have hy := blk_lt HY.out
  have a_0 := (cell_of_arr HX.out (j := 0) rfl).1
  have b_0 := (cell_of_arr HY.out (j := 0) rfl).1
  have a_1 := (cell_of_arr HX.out (j := 1) rfl).1
  have b_1 := (cell_of_arr HY.out (j := 1) rfl).1
  have a_2 := (cell_of_arr HX.out (j := 2) rfl).1
  have b_2 := (cell_of_arr HY.out (j := 2) rfl).1
  have a_3 := (cell_of_arr HX.out (j := 3) rfl).1
  have b_3 := (cell_of_arr HY.out (j := 3) rfl).1
  have a_4 := (cell_of_arr HX.out (j := 4) rfl).1
  have b_4 := (cell_of_arr HY.out (j := 4) rfl).1
  go_wp2
  go_ret
  exact ⟨rfl, HG.out⟩
end Go.Proofs.YtkmmhkhbpfkmcaaGreatDoor
