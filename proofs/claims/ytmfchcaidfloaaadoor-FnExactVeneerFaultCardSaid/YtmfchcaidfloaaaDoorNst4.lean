/- VeneerFault: spec and impl. -/
import Derived.Test.YtmfchcaidfloaaaDoorNst3
namespace Go.Proofs.YtmfchcaidfloaaaDoor
open Seq2 Go.ChangeShapes Go.WideShapes Go.ChangeAt Go.RowKit
set_option linter.unusedVariables false
set_option linter.unusedSimpArgs false

theorem st4 (w : World) (o1 o2 o3 o4 : Obj) : Below w.heap.size w ((((w.alloc o1).alloc o2).alloc o3).alloc o4) ∧ ((((w.alloc o1).alloc o2).alloc o3).alloc o4).heap[w.heap.size]? = some o1 ∧ ((((w.alloc o1).alloc o2).alloc o3).alloc o4).heap[w.heap.size + 1]? = some o2 ∧
    ((((w.alloc o1).alloc o2).alloc o3).alloc o4).heap[w.heap.size + 1 + 1]? = some o3 ∧ ((((w.alloc o1).alloc o2).alloc o3).alloc o4).heap[w.heap.size + 1 + 1 + 1]? = some o4 := by
  have s1 : (w.alloc o1).heap.size = w.heap.size + 1 := by simp
  have s2 : ((w.alloc o1).alloc o2).heap.size = w.heap.size + 1 + 1 := by simp
  have s3 : (((w.alloc o1).alloc o2).alloc o3).heap.size = w.heap.size + 1 + 1 + 1 := by simp
  have a1 := World.alloc_heap_new w o1
  have a2 := World.alloc_heap_new (w.alloc o1) o2
  have a3 := World.alloc_heap_new ((w.alloc o1).alloc o2) o3
  have a4 := World.alloc_heap_new (((w.alloc o1).alloc o2).alloc o3) o4
  rw [s1] at a2
  rw [s2] at a3
  rw [s3] at a4
  refine ⟨(three_allocs o1 o2 o3).alloc (three_allocs o1 o2 o3).size _, ?_, ?_, ?_, a4⟩
  · exact (Below.heap_alloc _ _ _ (by rw [s3]; omega)).trans ((Below.heap_alloc _ _ _ (by rw [s2]; omega)).trans ((Below.heap_alloc _ _ _ (by rw [s1]; omega)).trans a1))
  · exact (Below.heap_alloc _ _ _ (by rw [s3]; omega)).trans ((Below.heap_alloc _ _ _ (by rw [s2]; omega)).trans a2)
  · exact (Below.heap_alloc _ _ _ (by rw [s3]; omega)).trans a3
set_option maxRecDepth 100000 in
set_option maxHeartbeats 8000000 in
theorem vf_spec (s0 : ByteArray) (x0 g0 : Int) (v : Value) (z : Lf) (t x y a b : Int) (w : World) (hv : LfV w v z) :
    Calls Tryd.prog 15 #[.agg #[.string s0, .int .i64 x0, .int .i64 g0], v, .int .i64 t, .agg #[.int .i64 x, .int .i64 y, .int .i64 a, .int .i64 b]] w fun e w' => e = .returned (.tuple #[.int .i64 ((vfR (s0, x0, g0) z t (x, y, a, b)).1), .int .i64 ((vfR (s0, x0, g0) z t (x, y, a, b)).2)]) ∧ Below w.heap.size w w' := by
  have HA := Lib.hid (three_allocs (w := w) (.cells #[.string s0, .int .i64 x0, .int .i64 g0] 43) (.cells v.cells 47) (.cells #[.int .i64 x, .int .i64 y, .int .i64 a, .int .i64 b] 49))
  have h0 := ((VC.box w s0 x0 g0).below (one_alloc (.cells v.cells 47))).below (one_alloc (.cells #[.int .i64 x, .int .i64 y, .int .i64 a, .int .i64 b] 49))
  have h1 := ((hv.below (one_alloc (.cells #[.string s0, .int .i64 x0, .int .i64 g0] 43))).at 47).below (one_alloc (.cells #[.int .i64 x, .int .i64 y, .int .i64 a, .int .i64 b] 49))
  have h2 := RuAt.box ((w.alloc (.cells #[.string s0, .int .i64 x0, .int .i64 g0] 43)).alloc (.cells v.cells 47)) x y a b 49
  rw [show (w.alloc (.cells #[.string s0, .int .i64 x0, .int .i64 g0] 43)).heap.size = w.heap.size + 1 by simp] at h1
  rw [show ((w.alloc (.cells #[.string s0, .int .i64 x0, .int .i64 g0] 43)).alloc (.cells v.cells 47)).heap.size = w.heap.size + 1 + 1 by simp] at h2
  have H0 := Lib.hid h0
  have H1 := Lib.hid h1
  have H2 := Lib.hid h2
  obtain ⟨ao, n, c, rfl, _, _, _, _, _, _, _, hn, hd⟩ := hv.out
  clear hv h0 h1 h2 hd
  by_cases h1 : vnB (s0, x0, g0) = true
  rotate_left
  · skip
    try simp only [Bool.not_eq_true] at h1
    have HR := Lib.hid (show vfR (s0, x0, g0) z t (x, y, a, b) = (0, 1) by unfold vfR; simp only [*, Bool.false_and, Bool.and_false, Bool.and_true, Bool.true_and]; rfl)
    rw [HR.out]
    go_enter Tryd.func15, Tryd.ntmps15
    go_wp2_with fail
    refine (ok_ven w.heap.size 0 s0 x0 g0 _ H0.out).mono ?_
    rintro e w1 ⟨rfl, g1⟩
    have HG := Lib.hid (bseq HA.out g1)
    replace H0 := Lib.hid (H0.out.below g1)
    replace H1 := Lib.hid (H1.out.below g1)
    replace H2 := Lib.hid (H2.out.below g1)
    clear g1
    rw [show venB s0 x0 g0 = _ from h1]
    go_wp2
    go_ret2
    exact ⟨rfl, HG.out⟩
  by_cases h2 : lfB z = true
  rotate_left
  · skip
    try simp only [Bool.not_eq_true] at h2
    have HR := Lib.hid (show vfR (s0, x0, g0) z t (x, y, a, b) = (0, 1) by unfold vfR; simp only [*, Bool.false_and, Bool.and_false, Bool.and_true, Bool.true_and]; rfl)
    rw [HR.out]
    go_enter Tryd.func15, Tryd.ntmps15
    go_wp2_with fail
    refine (ok_ven w.heap.size 0 s0 x0 g0 _ H0.out).mono ?_
    rintro e w1 ⟨rfl, g1⟩
    have HG := Lib.hid (bseq HA.out g1)
    replace H0 := Lib.hid (H0.out.below g1)
    replace H1 := Lib.hid (H1.out.below g1)
    replace H2 := Lib.hid (H2.out.below g1)
    clear g1
    rw [show venB s0 x0 g0 = _ from h1]
    go_wp2_with fail
    refine (one_lea (w.heap.size + 1) 0 z _ H1.out).mono ?_
    rintro e w2 ⟨rfl, g2⟩
    rw [h2]
    replace HG := Lib.hid (bseq HG.out g2)
    replace H0 := Lib.hid (H0.out.below g2)
    replace H1 := Lib.hid (H1.out.below g2)
    replace H2 := Lib.hid (H2.out.below g2)
    clear g2
    go_wp2
    go_ret2
    exact ⟨rfl, HG.out⟩
  by_cases h3 : ruB (x, y, a, b) = true
  rotate_left
  · skip
    try simp only [Bool.not_eq_true] at h3
    have HR := Lib.hid (show vfR (s0, x0, g0) z t (x, y, a, b) = (0, 1) by unfold vfR; simp only [*, Bool.false_and, Bool.and_false, Bool.and_true, Bool.true_and]; rfl)
    rw [HR.out]
    go_enter Tryd.func15, Tryd.ntmps15
    go_wp2_with fail
    refine (ok_ven w.heap.size 0 s0 x0 g0 _ H0.out).mono ?_
    rintro e w1 ⟨rfl, g1⟩
    have HG := Lib.hid (bseq HA.out g1)
    replace H0 := Lib.hid (H0.out.below g1)
    replace H1 := Lib.hid (H1.out.below g1)
    replace H2 := Lib.hid (H2.out.below g1)
    clear g1
    rw [show venB s0 x0 g0 = _ from h1]
    go_wp2_with fail
    refine (one_lea (w.heap.size + 1) 0 z _ H1.out).mono ?_
    rintro e w2 ⟨rfl, g2⟩
    rw [h2]
    replace HG := Lib.hid (bseq HG.out g2)
    replace H0 := Lib.hid (H0.out.below g2)
    replace H1 := Lib.hid (H1.out.below g2)
    replace H2 := Lib.hid (H2.out.below g2)
    clear g2
    go_wp2_with fail
    refine (rules_at (w.heap.size + 1 + 1) 0 (x, y, a, b) _ H2.out).mono ?_
    rintro e w3 ⟨rfl, rfl⟩
    rw [h3]
    go_wp2
    go_ret2
    exact ⟨rfl, HG.out⟩
  by_cases h4 : inI t 0 7 = true
  rotate_left
  · skip
    try simp only [Bool.not_eq_true] at h4
    have HR := Lib.hid (show vfR (s0, x0, g0) z t (x, y, a, b) = (0, 2) by unfold vfR; simp only [*, Bool.false_and, Bool.and_false, Bool.and_true, Bool.true_and]; rfl)
    rw [HR.out]
    go_enter Tryd.func15, Tryd.ntmps15
    go_wp2_with fail
    refine (ok_ven w.heap.size 0 s0 x0 g0 _ H0.out).mono ?_
    rintro e w1 ⟨rfl, g1⟩
    have HG := Lib.hid (bseq HA.out g1)
    replace H0 := Lib.hid (H0.out.below g1)
    replace H1 := Lib.hid (H1.out.below g1)
    replace H2 := Lib.hid (H2.out.below g1)
    clear g1
    rw [show venB s0 x0 g0 = _ from h1]
    go_wp2_with fail
    refine (one_lea (w.heap.size + 1) 0 z _ H1.out).mono ?_
    rintro e w2 ⟨rfl, g2⟩
    rw [h2]
    replace HG := Lib.hid (bseq HG.out g2)
    replace H0 := Lib.hid (H0.out.below g2)
    replace H1 := Lib.hid (H1.out.below g2)
    replace H2 := Lib.hid (H2.out.below g2)
    clear g2
    go_wp2_with fail
    refine (rules_at (w.heap.size + 1 + 1) 0 (x, y, a, b) _ H2.out).mono ?_
    rintro e w3 ⟨rfl, rfl⟩
    rw [h3]
    go_wp2_with fail
    refine (turn3_ven _ _).mono ?_
    rintro e w3 ⟨rfl, rfl⟩
    rw [h4]
    go_wp2
    go_ret2
    exact ⟨rfl, HG.out⟩
  try simp only [Bool.not_eq_true] at h5
  have HR := Lib.hid (show vfR (s0, x0, g0) z t (x, y, a, b) = (vfK (s0, x0, g0) z.ve t (x, y, a, b), 0) by unfold vfR; simp only [*, Bool.false_and, Bool.and_false, Bool.and_true, Bool.true_and]; rfl)
  rw [HR.out]
  go_enter Tryd.func15, Tryd.ntmps15
  go_wp2_with fail
  refine (ok_ven w.heap.size 0 s0 x0 g0 _ H0.out).mono ?_
  rintro e w1 ⟨rfl, g1⟩
  have HG := Lib.hid (bseq HA.out g1)
  replace H0 := Lib.hid (H0.out.below g1)
  replace H1 := Lib.hid (H1.out.below g1)
  replace H2 := Lib.hid (H2.out.below g1)
  clear g1
  rw [show venB s0 x0 g0 = _ from h1]
  go_wp2_with fail
  refine (one_lea (w.heap.size + 1) 0 z _ H1.out).mono ?_
  rintro e w2 ⟨rfl, g2⟩
  rw [h2]
  replace HG := Lib.hid (bseq HG.out g2)
  replace H0 := Lib.hid (H0.out.below g2)
  replace H1 := Lib.hid (H1.out.below g2)
  replace H2 := Lib.hid (H2.out.below g2)
  clear g2
  go_wp2_with fail
  refine (rules_at (w.heap.size + 1 + 1) 0 (x, y, a, b) _ H2.out).mono ?_
  rintro e w3 ⟨rfl, rfl⟩
  rw [h3]
  go_wp2_with fail
  refine (turn3_ven _ _).mono ?_
  rintro e w3 ⟨rfl, rfl⟩
  rw [h4]
  go_wp2_with fail
  refine (vf_at w.heap.size 0 (w.heap.size + 1) 0 (w.heap.size + 1 + 1) 0 (s0, x0, g0) z t (x, y, a, b) _ H0.out H1.out H2.out h1 h2 h3 h4).mono ?_
  rintro e w4 ⟨rfl, g4⟩
  replace HG := Lib.hid (bseq HG.out g4)
  clear g4
  go_wp2
  go_ret2
  exact ⟨rfl, HG.out⟩
def vfO (E : ErrA) (v : Vn) (z : Lf) (t : Int) (r : Ru) : Int × Value := if inI t 0 7 then (vfK v z.ve t r, .nilIface) else (0, esV E.r)
set_option maxRecDepth 100000 in
set_option maxHeartbeats 8000000 in
theorem clo_vf (p1 p2 p3 p4 : Nat) (E : ErrA) (s0 : ByteArray) (x0 g0 : Int) (z : Lf) (sv : Value) (t x y a b : Int) (w : World) (hv : vnB (s0, x0, g0) = true) (hz : lfB z = true) (hr : ruB (x, y, a, b) = true) (he : Errs w E)
    (h1 : w.heap[p1]? = some (.cells #[.int .i64 t] 2 (0, 0))) (h2 : w.heap[p2]? = some (.cells #[.int .i64 x, .int .i64 y, .int .i64 a, .int .i64 b] 49 (0, 0)))
    (h3 : w.heap[p3]? = some (.cells #[.string s0, .int .i64 x0, .int .i64 g0] 43 (0, 0))) (h4 : w.heap[p4]? = some (.cells #[.string z.id, .string z.fl, .int .i64 z.nu, .string z.ve.1, .int .i64 z.ve.2.1, .int .i64 z.ve.2.2, .int .i64 z.wd, .int .i64 z.ln, sv] 47 (0, 0))) :
    Calls Tryd.prog 43 #[.pointer (some ⟨p1, 0, none⟩), .pointer (some ⟨p2, 0, none⟩), .pointer (some ⟨p3, 0, none⟩), .pointer (some ⟨p4, 0, none⟩)] w fun e w' => e = .returned (.tuple #[.int .i64 ((vfO E (s0, x0, g0) z t (x, y, a, b)).1), (vfO E (s0, x0, g0) z t (x, y, a, b)).2]) ∧ Below w.heap.size w w' := by
  have z1 := blk_lt h1
  have z2 := blk_lt h2
  have z3 := blk_lt h3
  have z4 := blk_lt h4
  have c0 := (cell_of_arr h1 (j := 0) rfl).1
  have r0 := (cell_of_arr h2 (j := 0) rfl).1
  have r1 := (cell_of_arr h2 (j := 1) rfl).1
  have r2 := (cell_of_arr h2 (j := 2) rfl).1
  have r3 := (cell_of_arr h2 (j := 3) rfl).1
  have v0 := (cell_of_arr h3 (j := 0) rfl).1
  have v1 := (cell_of_arr h3 (j := 1) rfl).1
  have v2 := (cell_of_arr h3 (j := 2) rfl).1
  have l3 := (cell_of_arr h4 (j := 3) rfl).1
  have l4 := (cell_of_arr h4 (j := 4) rfl).1
  have l5 := (cell_of_arr h4 (j := 5) rfl).1
  have HV := Lib.hid hv
  have HZ := Lib.hid (lfB_vn hz)
  have HRR := Lib.hid hr
  have e0 := he.R.cell
  have el0 := he.R.lt
  clear h1 h2 h3 h4 hv hz hr he
  cases ht : inI t 0 7 with
  | false =>
    have HO := Lib.hid (show vfO E (s0, x0, g0) z t (x, y, a, b) = (0, esV E.r) by unfold vfO; rw [ht]; rfl)
    rw [HO.out]
    go_enter Tryd.func43, Tryd.ntmps43
    go_wp2_with fail
    refine (isturn_ven _ _).mono ?_
    rintro e w1 ⟨rfl, rfl⟩
    rw [ht]
    go_wp2
    go_region
    go_wp2
    go_ret2
    exact ⟨rfl, (Below.refl _ _).trans ⟨rfl, rfl, rfl, Nat.le_refl _, fun _ _ => rfl⟩⟩
  | true =>
    have HO := Lib.hid (show vfO E (s0, x0, g0) z t (x, y, a, b) = (vfK (s0, x0, g0) z.ve t (x, y, a, b), .nilIface) by unfold vfO; rw [ht]; rfl)
    rw [HO.out]
    go_enter Tryd.func43, Tryd.ntmps43
    go_wp2_with fail
    refine (isturn_ven _ _).mono ?_
    rintro e w1 ⟨rfl, rfl⟩
    rw [ht]
    go_wp2_with fail
    refine (vf_rules x y a b s0 x0 g0 z.ve.1 z.ve.2.1 z.ve.2.2 t _ HV.out HZ.out HRR.out ht).mono ?_
    rintro e w2 ⟨rfl, g2⟩
    have HG := Lib.hid g2
    clear g2
    go_wp2
    go_ret2
    exact ⟨rfl, HG.out⟩
set_option maxRecDepth 100000 in
set_option maxHeartbeats 16000000 in
theorem vf_impl (s0 : ByteArray) (x0 g0 : Int) (v : Value) (z : Lf) (t x y a b : Int) (w : World) (hv : LfV w v z) (ht : TabAt w) (he : ErrsAt w) :
    Calls Tryd.prog 19 #[.agg #[.string s0, .int .i64 x0, .int .i64 g0], v, .int .i64 t, .agg #[.int .i64 x, .int .i64 y, .int .i64 a, .int .i64 b]] w fun e w' => e = .returned (.tuple #[.int .i64 ((vfR (s0, x0, g0) z t (x, y, a, b)).1), .int .i64 ((vfR (s0, x0, g0) z t (x, y, a, b)).2)]) ∧ Below w.heap.size w w' := by
  obtain ⟨E, hE⟩ := he.out
  have HVV := Lib.hid hv
  obtain ⟨ao, n, c, rfl, _, _, _, _, _, _, _, hn, hd⟩ := hv.out
  obtain ⟨hA, k1, k2, k3, k4⟩ := st4 w (.cells #[.string s0, .int .i64 x0, .int .i64 g0] 43) (.cells #[.string z.id, .string z.fl, .int .i64 z.nu, .string z.ve.1, .int .i64 z.ve.2.1, .int .i64 z.ve.2.2, .int .i64 z.wd, .int .i64 z.ln, .slice ao n c] 47) (.cells #[.int .i64 t] 2) (.cells #[.int .i64 x, .int .i64 y, .int .i64 a, .int .i64 b] 49)
  have HA := Lib.hid hA
  have HT := Lib.hid (ht.below hA)
  have HE := Lib.hid (hE.below hA)
  have HL := Lib.hid (HVV.out.below hA)
  have K1 := Lib.hid k1
  have K2 := Lib.hid k2
  have K3 := Lib.hid k3
  have K4 := Lib.hid k4
  clear hv hd ht he hE hA k1 k2 k3 k4 HVV
  by_cases h1 : vnB (s0, x0, g0) = true
  rotate_left
  · skip
    try simp only [Bool.not_eq_true] at h1
    have HR := Lib.hid (show vfR (s0, x0, g0) z t (x, y, a, b) = (0, 1) by unfold vfR; simp only [*, Bool.false_and, Bool.and_false, Bool.and_true, Bool.true_and]; rfl)
    rw [HR.out]
    go_enter Tryd.func19, Tryd.ntmps19
    go_wp2_with fail
    generalize hW : ((((w.alloc _).alloc _).alloc _).alloc _) = W at *
    have HB := Lib.hid HA.out
    refine (valid_vimpl s0 x0 g0 _ HT.out).mono ?_
    rintro e w1 ⟨rfl, g1⟩
    have HG := Lib.hid (bseq HB.out g1)
    replace K1 := Lib.hid ((g1.block _ (blk_lt K1.out)).trans K1.out)
    replace K2 := Lib.hid ((g1.block _ (blk_lt K2.out)).trans K2.out)
    replace K3 := Lib.hid ((g1.block _ (blk_lt K3.out)).trans K3.out)
    replace K4 := Lib.hid ((g1.block _ (blk_lt K4.out)).trans K4.out)
    replace HT := Lib.hid (HT.out.below g1)
    replace HE := Lib.hid (HE.out.below g1)
    replace HL := Lib.hid (HL.out.below g1)
    clear g1 hW
    rw [show venB s0 x0 g0 = _ from h1]
    go_wp2_with fail
    refine (wc_VeneerFault_1_no _ _).mono ?_
    rintro e w4 ⟨rfl, rfl⟩
    go_wp2
    go_ret2
    exact ⟨rfl, HG.out⟩
  by_cases h2 : lfB z = true
  rotate_left
  · skip
    try simp only [Bool.not_eq_true] at h2
    have HR := Lib.hid (show vfR (s0, x0, g0) z t (x, y, a, b) = (0, 1) by unfold vfR; simp only [*, Bool.false_and, Bool.and_false, Bool.and_true, Bool.true_and]; rfl)
    rw [HR.out]
    go_enter Tryd.func19, Tryd.ntmps19
    go_wp2_with fail
    generalize hW : ((((w.alloc _).alloc _).alloc _).alloc _) = W at *
    have HB := Lib.hid HA.out
    refine (valid_vimpl s0 x0 g0 _ HT.out).mono ?_
    rintro e w1 ⟨rfl, g1⟩
    have HG := Lib.hid (bseq HB.out g1)
    replace K1 := Lib.hid ((g1.block _ (blk_lt K1.out)).trans K1.out)
    replace K2 := Lib.hid ((g1.block _ (blk_lt K2.out)).trans K2.out)
    replace K3 := Lib.hid ((g1.block _ (blk_lt K3.out)).trans K3.out)
    replace K4 := Lib.hid ((g1.block _ (blk_lt K4.out)).trans K4.out)
    replace HT := Lib.hid (HT.out.below g1)
    replace HE := Lib.hid (HE.out.below g1)
    replace HL := Lib.hid (HL.out.below g1)
    clear g1 hW
    rw [show venB s0 x0 g0 = _ from h1]
    have z2 := blk_lt K2.out
    have l0 := (cell_of_arr K2.out (j := 0) rfl).1
    have l1 := (cell_of_arr K2.out (j := 1) rfl).1
    have l2 := (cell_of_arr K2.out (j := 2) rfl).1
    have l3 := (cell_of_arr K2.out (j := 3) rfl).1
    have l4 := (cell_of_arr K2.out (j := 4) rfl).1
    have l5 := (cell_of_arr K2.out (j := 5) rfl).1
    have l6 := (cell_of_arr K2.out (j := 6) rfl).1
    have l7 := (cell_of_arr K2.out (j := 7) rfl).1
    have l8 := (cell_of_arr K2.out (j := 8) rfl).1
    go_wp2_with fail
    refine (validL_impl _ z _ HL.out HT.out).mono ?_
    rintro e w2 ⟨rfl, g2⟩
    rw [h2]
    replace HG := Lib.hid (bseq HG.out g2)
    clear l0 l1 l2 l3 l4 l5 l6 l7 l8 z2
    replace K1 := Lib.hid ((g2.block _ (blk_lt K1.out)).trans K1.out)
    replace K2 := Lib.hid ((g2.block _ (blk_lt K2.out)).trans K2.out)
    replace K3 := Lib.hid ((g2.block _ (blk_lt K3.out)).trans K3.out)
    replace K4 := Lib.hid ((g2.block _ (blk_lt K4.out)).trans K4.out)
    replace HE := Lib.hid (HE.out.below g2)
    clear g2
    go_wp2_with fail
    refine (wc_VeneerFault_1_no _ _).mono ?_
    rintro e w4 ⟨rfl, rfl⟩
    go_wp2
    go_ret2
    exact ⟨rfl, HG.out⟩
  by_cases h3 : ruB (x, y, a, b) = true
  rotate_left
  · skip
    try simp only [Bool.not_eq_true] at h3
    have HR := Lib.hid (show vfR (s0, x0, g0) z t (x, y, a, b) = (0, 1) by unfold vfR; simp only [*, Bool.false_and, Bool.and_false, Bool.and_true, Bool.true_and]; rfl)
    rw [HR.out]
    go_enter Tryd.func19, Tryd.ntmps19
    go_wp2_with fail
    generalize hW : ((((w.alloc _).alloc _).alloc _).alloc _) = W at *
    have HB := Lib.hid HA.out
    refine (valid_vimpl s0 x0 g0 _ HT.out).mono ?_
    rintro e w1 ⟨rfl, g1⟩
    have HG := Lib.hid (bseq HB.out g1)
    replace K1 := Lib.hid ((g1.block _ (blk_lt K1.out)).trans K1.out)
    replace K2 := Lib.hid ((g1.block _ (blk_lt K2.out)).trans K2.out)
    replace K3 := Lib.hid ((g1.block _ (blk_lt K3.out)).trans K3.out)
    replace K4 := Lib.hid ((g1.block _ (blk_lt K4.out)).trans K4.out)
    replace HT := Lib.hid (HT.out.below g1)
    replace HE := Lib.hid (HE.out.below g1)
    replace HL := Lib.hid (HL.out.below g1)
    clear g1 hW
    rw [show venB s0 x0 g0 = _ from h1]
    have z2 := blk_lt K2.out
    have l0 := (cell_of_arr K2.out (j := 0) rfl).1
    have l1 := (cell_of_arr K2.out (j := 1) rfl).1
    have l2 := (cell_of_arr K2.out (j := 2) rfl).1
    have l3 := (cell_of_arr K2.out (j := 3) rfl).1
    have l4 := (cell_of_arr K2.out (j := 4) rfl).1
    have l5 := (cell_of_arr K2.out (j := 5) rfl).1
    have l6 := (cell_of_arr K2.out (j := 6) rfl).1
    have l7 := (cell_of_arr K2.out (j := 7) rfl).1
    have l8 := (cell_of_arr K2.out (j := 8) rfl).1
    go_wp2_with fail
    refine (validL_impl _ z _ HL.out HT.out).mono ?_
    rintro e w2 ⟨rfl, g2⟩
    rw [h2]
    replace HG := Lib.hid (bseq HG.out g2)
    clear l0 l1 l2 l3 l4 l5 l6 l7 l8 z2
    replace K1 := Lib.hid ((g2.block _ (blk_lt K1.out)).trans K1.out)
    replace K2 := Lib.hid ((g2.block _ (blk_lt K2.out)).trans K2.out)
    replace K3 := Lib.hid ((g2.block _ (blk_lt K3.out)).trans K3.out)
    replace K4 := Lib.hid ((g2.block _ (blk_lt K4.out)).trans K4.out)
    replace HE := Lib.hid (HE.out.below g2)
    clear g2
    have z4 := blk_lt K4.out
    have r0 := (cell_of_arr K4.out (j := 0) rfl).1
    have r1 := (cell_of_arr K4.out (j := 1) rfl).1
    have r2 := (cell_of_arr K4.out (j := 2) rfl).1
    have r3 := (cell_of_arr K4.out (j := 3) rfl).1
    go_wp2_with fail
    refine (rules_impl x y a b _).mono ?_
    rintro e w3 ⟨rfl, g3⟩
    rw [h3]
    replace HG := Lib.hid (bseq HG.out g3)
    clear r0 r1 r2 r3 z4
    replace K1 := Lib.hid ((g3.block _ (blk_lt K1.out)).trans K1.out)
    replace K2 := Lib.hid ((g3.block _ (blk_lt K2.out)).trans K2.out)
    replace K3 := Lib.hid ((g3.block _ (blk_lt K3.out)).trans K3.out)
    replace K4 := Lib.hid ((g3.block _ (blk_lt K4.out)).trans K4.out)
    replace HE := Lib.hid (HE.out.below g3)
    clear g3
    go_wp2_with fail
    refine (wc_VeneerFault_1_no _ _).mono ?_
    rintro e w4 ⟨rfl, rfl⟩
    go_wp2
    go_ret2
    exact ⟨rfl, HG.out⟩
  by_cases h4 : inI t 0 7 = true
  rotate_left
  · skip
    try simp only [Bool.not_eq_true] at h4
    have HR := Lib.hid (show vfR (s0, x0, g0) z t (x, y, a, b) = (0, 2) by unfold vfR; simp only [*, Bool.false_and, Bool.and_false, Bool.and_true, Bool.true_and]; rfl)
    have HO := Lib.hid (show vfO E (s0, x0, g0) z t (x, y, a, b) = (0, esV E.r) by unfold vfO; rw [h4]; rfl)
    rw [HR.out]
    go_enter Tryd.func19, Tryd.ntmps19
    go_wp2_with fail
    generalize hW : ((((w.alloc _).alloc _).alloc _).alloc _) = W at *
    have HB := Lib.hid HA.out
    refine (valid_vimpl s0 x0 g0 _ HT.out).mono ?_
    rintro e w1 ⟨rfl, g1⟩
    have HG := Lib.hid (bseq HB.out g1)
    replace K1 := Lib.hid ((g1.block _ (blk_lt K1.out)).trans K1.out)
    replace K2 := Lib.hid ((g1.block _ (blk_lt K2.out)).trans K2.out)
    replace K3 := Lib.hid ((g1.block _ (blk_lt K3.out)).trans K3.out)
    replace K4 := Lib.hid ((g1.block _ (blk_lt K4.out)).trans K4.out)
    replace HT := Lib.hid (HT.out.below g1)
    replace HE := Lib.hid (HE.out.below g1)
    replace HL := Lib.hid (HL.out.below g1)
    clear g1 hW
    rw [show venB s0 x0 g0 = _ from h1]
    have z2 := blk_lt K2.out
    have l0 := (cell_of_arr K2.out (j := 0) rfl).1
    have l1 := (cell_of_arr K2.out (j := 1) rfl).1
    have l2 := (cell_of_arr K2.out (j := 2) rfl).1
    have l3 := (cell_of_arr K2.out (j := 3) rfl).1
    have l4 := (cell_of_arr K2.out (j := 4) rfl).1
    have l5 := (cell_of_arr K2.out (j := 5) rfl).1
    have l6 := (cell_of_arr K2.out (j := 6) rfl).1
    have l7 := (cell_of_arr K2.out (j := 7) rfl).1
    have l8 := (cell_of_arr K2.out (j := 8) rfl).1
    go_wp2_with fail
    refine (validL_impl _ z _ HL.out HT.out).mono ?_
    rintro e w2 ⟨rfl, g2⟩
    rw [h2]
    replace HG := Lib.hid (bseq HG.out g2)
    clear l0 l1 l2 l3 l4 l5 l6 l7 l8 z2
    replace K1 := Lib.hid ((g2.block _ (blk_lt K1.out)).trans K1.out)
    replace K2 := Lib.hid ((g2.block _ (blk_lt K2.out)).trans K2.out)
    replace K3 := Lib.hid ((g2.block _ (blk_lt K3.out)).trans K3.out)
    replace K4 := Lib.hid ((g2.block _ (blk_lt K4.out)).trans K4.out)
    replace HE := Lib.hid (HE.out.below g2)
    clear g2
    have z4 := blk_lt K4.out
    have r0 := (cell_of_arr K4.out (j := 0) rfl).1
    have r1 := (cell_of_arr K4.out (j := 1) rfl).1
    have r2 := (cell_of_arr K4.out (j := 2) rfl).1
    have r3 := (cell_of_arr K4.out (j := 3) rfl).1
    go_wp2_with fail
    refine (rules_impl x y a b _).mono ?_
    rintro e w3 ⟨rfl, g3⟩
    rw [h3]
    replace HG := Lib.hid (bseq HG.out g3)
    clear r0 r1 r2 r3 z4
    replace K1 := Lib.hid ((g3.block _ (blk_lt K1.out)).trans K1.out)
    replace K2 := Lib.hid ((g3.block _ (blk_lt K2.out)).trans K2.out)
    replace K3 := Lib.hid ((g3.block _ (blk_lt K3.out)).trans K3.out)
    replace K4 := Lib.hid ((g3.block _ (blk_lt K4.out)).trans K4.out)
    replace HE := Lib.hid (HE.out.below g3)
    clear g3
    have HC := Lib.hid (by have := clo_vf _ _ _ _ E s0 x0 g0 z _ t x y a b w3 h1 h2 h3 HE.out K3.out K4.out K1.out K2.out; rw [HO.out] at this; exact this)
    go_wp2_with fail
    refine (wc_VeneerFault_1_err _ _ _ _ _ 2 E.r _ HC.out (fun w' hb => code_R E w' (HE.out.below hb))).mono ?_
    rintro e w4 ⟨rfl, g4⟩
    replace HG := Lib.hid (bseq HG.out g4)
    clear g4
    go_wp2
    go_ret2
    exact ⟨rfl, HG.out⟩
  try simp only [Bool.not_eq_true] at h5
  have HR := Lib.hid (show vfR (s0, x0, g0) z t (x, y, a, b) = (vfK (s0, x0, g0) z.ve t (x, y, a, b), 0) by unfold vfR; simp only [*, Bool.false_and, Bool.and_false, Bool.and_true, Bool.true_and]; rfl)
  have HO := Lib.hid (show vfO E (s0, x0, g0) z t (x, y, a, b) = (vfK (s0, x0, g0) z.ve t (x, y, a, b), .nilIface) by unfold vfO; rw [h4]; rfl)
  rw [HR.out]
  go_enter Tryd.func19, Tryd.ntmps19
  go_wp2_with fail
  generalize hW : ((((w.alloc _).alloc _).alloc _).alloc _) = W at *
  have HB := Lib.hid HA.out
  refine (valid_vimpl s0 x0 g0 _ HT.out).mono ?_
  rintro e w1 ⟨rfl, g1⟩
  have HG := Lib.hid (bseq HB.out g1)
  replace K1 := Lib.hid ((g1.block _ (blk_lt K1.out)).trans K1.out)
  replace K2 := Lib.hid ((g1.block _ (blk_lt K2.out)).trans K2.out)
  replace K3 := Lib.hid ((g1.block _ (blk_lt K3.out)).trans K3.out)
  replace K4 := Lib.hid ((g1.block _ (blk_lt K4.out)).trans K4.out)
  replace HT := Lib.hid (HT.out.below g1)
  replace HE := Lib.hid (HE.out.below g1)
  replace HL := Lib.hid (HL.out.below g1)
  clear g1 hW
  rw [show venB s0 x0 g0 = _ from h1]
  have z2 := blk_lt K2.out
  have l0 := (cell_of_arr K2.out (j := 0) rfl).1
  have l1 := (cell_of_arr K2.out (j := 1) rfl).1
  have l2 := (cell_of_arr K2.out (j := 2) rfl).1
  have l3 := (cell_of_arr K2.out (j := 3) rfl).1
  have l4 := (cell_of_arr K2.out (j := 4) rfl).1
  have l5 := (cell_of_arr K2.out (j := 5) rfl).1
  have l6 := (cell_of_arr K2.out (j := 6) rfl).1
  have l7 := (cell_of_arr K2.out (j := 7) rfl).1
  have l8 := (cell_of_arr K2.out (j := 8) rfl).1
  go_wp2_with fail
  refine (validL_impl _ z _ HL.out HT.out).mono ?_
  rintro e w2 ⟨rfl, g2⟩
  rw [h2]
  replace HG := Lib.hid (bseq HG.out g2)
  clear l0 l1 l2 l3 l4 l5 l6 l7 l8 z2
  replace K1 := Lib.hid ((g2.block _ (blk_lt K1.out)).trans K1.out)
  replace K2 := Lib.hid ((g2.block _ (blk_lt K2.out)).trans K2.out)
  replace K3 := Lib.hid ((g2.block _ (blk_lt K3.out)).trans K3.out)
  replace K4 := Lib.hid ((g2.block _ (blk_lt K4.out)).trans K4.out)
  replace HE := Lib.hid (HE.out.below g2)
  clear g2
  have z4 := blk_lt K4.out
  have r0 := (cell_of_arr K4.out (j := 0) rfl).1
  have r1 := (cell_of_arr K4.out (j := 1) rfl).1
  have r2 := (cell_of_arr K4.out (j := 2) rfl).1
  have r3 := (cell_of_arr K4.out (j := 3) rfl).1
  go_wp2_with fail
  refine (rules_impl x y a b _).mono ?_
  rintro e w3 ⟨rfl, g3⟩
  rw [h3]
  replace HG := Lib.hid (bseq HG.out g3)
  clear r0 r1 r2 r3 z4
  replace K1 := Lib.hid ((g3.block _ (blk_lt K1.out)).trans K1.out)
  replace K2 := Lib.hid ((g3.block _ (blk_lt K2.out)).trans K2.out)
  replace K3 := Lib.hid ((g3.block _ (blk_lt K3.out)).trans K3.out)
  replace K4 := Lib.hid ((g3.block _ (blk_lt K4.out)).trans K4.out)
  replace HE := Lib.hid (HE.out.below g3)
  clear g3
  have HC := Lib.hid (by have := clo_vf _ _ _ _ E s0 x0 g0 z _ t x y a b w3 h1 h2 h3 HE.out K3.out K4.out K1.out K2.out; rw [HO.out] at this; exact this)
  go_wp2_with fail
  refine (wc_VeneerFault_1_ok _ _ _ _ _ _ HC.out).mono ?_
  rintro e w4 ⟨rfl, g4⟩
  replace HG := Lib.hid (bseq HG.out g4)
  clear g4
  go_wp2
  go_ret2
  exact ⟨rfl, HG.out⟩
end Go.Proofs.YtmfchcaidfloaaaDoor
