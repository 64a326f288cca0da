/- The score of two leaves: impl; MatchScore: spec, impl. -/
import Derived.Test.YtcjpplijbdfgbaaDoorK23
namespace Go.Proofs.YtcjpplijbdfgbaaDoor
open Seq2 Go.ChangeShapes Go.WideShapes Go.ChangeAt Go.RowKit
set_option linter.unusedVariables false
set_option linter.unusedSimpArgs false

set_option maxRecDepth 100000 in
set_option maxHeartbeats 16000000 in
theorem score_impl (u v : Value) (z y : Lf) (bk : Bool) (w : World) (ha : LfV w u z) (hb : LfV w v y) (h1 : lfB z = true) (h2 : lfB y = true) :
    Calls Tryd.prog 65 #[u, v, .bool bk] w fun e w' => e = .returned (.int .i64 (scI z y bk)) ∧ Below w.heap.size w w' := by
  have HN2 := Lib.hid h2
  replace h1 := lfN_of h1
  replace h2 := lfN_of h2
  obtain ⟨ao, n, c, rfl, h00, h01, h02, h03, h04, h05, h06, h07, h08⟩ := ha.out
  obtain ⟨ao', n', c', rfl, h10, h11, h12, h13, h14, h15, h16, h17, hd⟩ := hb.out
  clear ha hb h00 h01 h02 h03 h04 h05 h06 h07 h08 h10 h11 h12 h13 h14 h15 h16 h17
  obtain ⟨id0, f0, u0, ⟨s0, x0, g0⟩, W0, L0, D0⟩ := z
  obtain ⟨id1, f1, u1, ⟨s1, x1, g1⟩, W1, L1, D1⟩ := y
  obtain ⟨⟨a0, a1⟩, ⟨a2, a3⟩, ⟨a4, a5⟩⟩ := h1
  obtain ⟨⟨b0, b1⟩, ⟨b2, b3⟩, ⟨b4, b5⟩⟩ := h2
  simp only at a0 a1 a2 a3 a4 a5 b0 b1 b2 b3 b4 b5 hd ⊢
  have HA := Lib.hid (two_allocs (w := w) (.cells #[.string id0, .string f0, .int .i64 u0, .string s0, .int .i64 x0, .int .i64 g0, .int .i64 W0, .int .i64 L0, .slice ao n c] 33) (.cells #[.string id1, .string f1, .int .i64 u1, .string s1, .int .i64 x1, .int .i64 g1, .int .i64 W1, .int .i64 L1, .slice ao' n' c'] 33))
  have HD := Lib.hid (hd.below HA.out)
  have HX := Lib.hid ((Below.heap_alloc (w.alloc (.cells #[.string id0, .string f0, .int .i64 u0, .string s0, .int .i64 x0, .int .i64 g0, .int .i64 W0, .int .i64 L0, .slice ao n c] 33)) (.cells #[.string id1, .string f1, .int .i64 u1, .string s1, .int .i64 x1, .int .i64 g1, .int .i64 W1, .int .i64 L1, .slice ao' n' c'] 33) w.heap.size (by simp)).trans (World.alloc_heap_new w (.cells #[.string id0, .string f0, .int .i64 u0, .string s0, .int .i64 x0, .int .i64 g0, .int .i64 W0, .int .i64 L0, .slice ao n c] 33)))
  have hy := World.alloc_heap_new (w.alloc (.cells #[.string id0, .string f0, .int .i64 u0, .string s0, .int .i64 x0, .int .i64 g0, .int .i64 W0, .int .i64 L0, .slice ao n c] 33)) (.cells #[.string id1, .string f1, .int .i64 u1, .string s1, .int .i64 x1, .int .i64 g1, .int .i64 W1, .int .i64 L1, .slice ao' n' c'] 33)
  rw [show (w.alloc (.cells #[.string id0, .string f0, .int .i64 u0, .string s0, .int .i64 x0, .int .i64 g0, .int .i64 W0, .int .i64 L0, .slice ao n c] 33)).heap.size = w.heap.size + 1 by simp] at hy
  have HY := Lib.hid hy
  clear hd hy
  have hx := awy_rng a2 a3 b2 b3
  have hu := awy_rng a0 a1 b0 b1
  have hm := mirG_rng b4 b5
  have hl : 0 ≤ lesI 20 (awy u0 u1) ∧ lesI 20 (awy u0 u1) ≤ 20 := by unfold lesI; split <;> omega
  have hmin : min (awy u0 u1) 20 = lesI 20 (awy u0 u1) := by unfold lesI; omega
  have e1 : IntKind.i64.wrap (x0 - x1) = x0 - x1 := IntWalk.i64_in _ (by omega)
  have e3 : IntKind.i64.wrap (3 * awy x0 x1) = 3 * awy x0 x1 := IntWalk.i64_in _ (by omega)
  have e8 : IntKind.i64.wrap (u0 - u1) = u0 - u1 := IntWalk.i64_in _ (by omega)
  have HMX := Lib.hid (show awy (x0 - x1) 0 = awy x0 x1 by unfold awy; split <;> split <;> omega)
  have HMU := Lib.hid (show awy (u0 - u1) 0 = awy u0 u1 by unfold awy; split <;> split <;> omega)
  cases hf : (f0.toList == f1.toList) <;> cases hs : (s0.toList == s1.toList) <;> cases bk
  · have hg := ang_180 a4 (by omega : g0 ≤ 180) b4 (by omega : g1 ≤ 180)
    have e4 : IntKind.i64.wrap (3 * awy x0 x1 + angI g0 g1) = 3 * awy x0 x1 + angI g0 g1 := IntWalk.i64_in _ (by omega)
    have e10 : IntKind.i64.wrap (3 * awy x0 x1 + angI g0 g1 + 500) = 3 * awy x0 x1 + angI g0 g1 + 500 := IntWalk.i64_in _ (by omega)
    have e11 : IntKind.i64.wrap (3 * awy x0 x1 + angI g0 g1 + 500 + 500) = 3 * awy x0 x1 + angI g0 g1 + 500 + 500 := IntWalk.i64_in _ (by omega)
    have HR := Lib.hid (show scI ⟨id0, f0, u0, (s0, x0, g0), W0, L0, D0⟩ ⟨id1, f1, u1, (s1, x1, g1), W1, L1, D1⟩ false = 3 * awy x0 x1 + angI g0 g1 + 500 + 500 by
      unfold scI scN scS scG; simp only [hf, hs, if_true, if_false, Bool.false_eq_true, Int.add_zero])
    have hs2 : (s0.toList != s1.toList) = true := by rw [bne, hs]; rfl
    rw [HR.out]
    go_enter Tryd.func65, Tryd.ntmps65
    go_wp2
    generalize hW2 : ((w.alloc (.cells #[.string id0, .string f0, .int .i64 u0, .string s0, .int .i64 x0, .int .i64 g0, .int .i64 W0, .int .i64 L0, .slice ao n c] 33)).alloc (.cells #[.string id1, .string f1, .int .i64 u1, .string s1, .int .i64 x1, .int .i64 g1, .int .i64 W1, .int .i64 L1, .slice ao' n' c'] 33)) = W2 at *
    have HB := Lib.hid HA.out
    have c1 : W2.cell? ⟨w.heap.size, 1, none⟩ = some (.string f0) := (cell_of_arr HX.out (j := 1) rfl).1
    have d1 : W2.cell? ⟨w.heap.size + 1, 1, none⟩ = some (.string f1) := (cell_of_arr HY.out (j := 1) rfl).1
    have c2 : W2.cell? ⟨w.heap.size, 2, none⟩ = some (.int .i64 u0) := (cell_of_arr HX.out (j := 2) rfl).1
    have d2 : W2.cell? ⟨w.heap.size + 1, 2, none⟩ = some (.int .i64 u1) := (cell_of_arr HY.out (j := 2) rfl).1
    have c3 : W2.cell? ⟨w.heap.size, 3, none⟩ = some (.string s0) := (cell_of_arr HX.out (j := 3) rfl).1
    have d3 : W2.cell? ⟨w.heap.size + 1, 3, none⟩ = some (.string s1) := (cell_of_arr HY.out (j := 3) rfl).1
    have c4 : W2.cell? ⟨w.heap.size, 4, none⟩ = some (.int .i64 x0) := (cell_of_arr HX.out (j := 4) rfl).1
    have d4 : W2.cell? ⟨w.heap.size + 1, 4, none⟩ = some (.int .i64 x1) := (cell_of_arr HY.out (j := 4) rfl).1
    have c5 : W2.cell? ⟨w.heap.size, 5, none⟩ = some (.int .i64 g0) := (cell_of_arr HX.out (j := 5) rfl).1
    have d5 : W2.cell? ⟨w.heap.size + 1, 5, none⟩ = some (.int .i64 g1) := (cell_of_arr HY.out (j := 5) rfl).1
    have hp := blk_lt HX.out
    have hq := blk_lt HY.out
    refine wp_region_below (by kernel_rfl) (by kernel_rfl) ?_
    repeat (first | (refine wq_val ?_ ?_; (focus (go_simp; done)); apply Exists.intro; refine ⟨fun w1 hw1 => ?_, ?_⟩; (obtain ⟨hc, hf⟩ := bcell hw1; clear hw1; go_simp; (first | done | with_reducible rfl | (with_reducible exact eql2 _ _ _) | (with_reducible exact neq2 _ _ _))); (try simp only [Act.put, List.setIfInBounds_toArray, List.set_cons_zero, List.set_cons_succ])) | (refine wq_skip ?_ ?_; (focus (go_simp; (first | done | (simp [undef]; done)))); (try simp only [Act.put, List.setIfInBounds_toArray, List.set_cons_zero, List.set_cons_succ])) | (refine wq_call 98 ?_ ?_; (focus (go_simp; done)); apply Exists.intro; refine ⟨fun w1 hw1 => ?_, ?_⟩; (focus (clear hw1; go_simp; (first | done | with_reducible rfl))); apply Exists.intro; refine ⟨fun w1 hw1 => ?_, ?_⟩; (focus (exact calls_below_same hw1 (by have h := abs_ven (x0 - x1) w1 (by omega) (by omega); rw [HMX.out] at h; exact h); done)); (try simp only [Act.put, List.setIfInBounds_toArray, List.set_cons_zero, List.set_cons_succ])) | (refine wq_call 99 ?_ ?_; (focus (go_simp; done)); apply Exists.intro; refine ⟨fun w1 hw1 => ?_, ?_⟩; (focus (clear hw1; go_simp; (first | done | with_reducible rfl))); apply Exists.intro; refine ⟨fun w1 hw1 => ?_, ?_⟩; (focus (exact calls_below_same hw1 (angle_impl g0 g1 w1 a4 (by omega) b4 (by omega)); done)); (try simp only [Act.put, List.setIfInBounds_toArray, List.set_cons_zero, List.set_cons_succ])))
    refine wq_nil ?_
    intro w3 hb
    replace HB := Lib.hid (bseq HB.out hb)
    replace HX := Lib.hid ((hb.block _ (blk_lt HX.out)).trans HX.out)
    replace HY := Lib.hid ((hb.block _ (blk_lt HY.out)).trans HY.out)
    clear hb
    clear hp hq c1 d1 c2 d2 c3 d3 c4 d4 c5 d5
    have c1 : w3.cell? ⟨w.heap.size, 1, none⟩ = some (.string f0) := (cell_of_arr HX.out (j := 1) rfl).1
    have d1 : w3.cell? ⟨w.heap.size + 1, 1, none⟩ = some (.string f1) := (cell_of_arr HY.out (j := 1) rfl).1
    have c2 : w3.cell? ⟨w.heap.size, 2, none⟩ = some (.int .i64 u0) := (cell_of_arr HX.out (j := 2) rfl).1
    have d2 : w3.cell? ⟨w.heap.size + 1, 2, none⟩ = some (.int .i64 u1) := (cell_of_arr HY.out (j := 2) rfl).1
    have c3 : w3.cell? ⟨w.heap.size, 3, none⟩ = some (.string s0) := (cell_of_arr HX.out (j := 3) rfl).1
    have d3 : w3.cell? ⟨w.heap.size + 1, 3, none⟩ = some (.string s1) := (cell_of_arr HY.out (j := 3) rfl).1
    have c4 : w3.cell? ⟨w.heap.size, 4, none⟩ = some (.int .i64 x0) := (cell_of_arr HX.out (j := 4) rfl).1
    have d4 : w3.cell? ⟨w.heap.size + 1, 4, none⟩ = some (.int .i64 x1) := (cell_of_arr HY.out (j := 4) rfl).1
    have c5 : w3.cell? ⟨w.heap.size, 5, none⟩ = some (.int .i64 g0) := (cell_of_arr HX.out (j := 5) rfl).1
    have d5 : w3.cell? ⟨w.heap.size + 1, 5, none⟩ = some (.int .i64 g1) := (cell_of_arr HY.out (j := 5) rfl).1
    have hp := blk_lt HX.out
    have hq := blk_lt HY.out
    go_wp2
    go_ret
    exact ⟨rfl, HB.out⟩
  · have hg := ang_180 a4 (by omega : g0 ≤ 180) hm.1 (by omega : (mirG g1) ≤ 180)
    have e4 : IntKind.i64.wrap (3 * awy x0 x1 + angI g0 (mirG g1)) = 3 * awy x0 x1 + angI g0 (mirG g1) := IntWalk.i64_in _ (by omega)
    have e10 : IntKind.i64.wrap (3 * awy x0 x1 + angI g0 (mirG g1) + 500) = 3 * awy x0 x1 + angI g0 (mirG g1) + 500 := IntWalk.i64_in _ (by omega)
    have e11 : IntKind.i64.wrap (3 * awy x0 x1 + angI g0 (mirG g1) + 500 + 500) = 3 * awy x0 x1 + angI g0 (mirG g1) + 500 + 500 := IntWalk.i64_in _ (by omega)
    have HR := Lib.hid (show scI ⟨id0, f0, u0, (s0, x0, g0), W0, L0, D0⟩ ⟨id1, f1, u1, (s1, x1, g1), W1, L1, D1⟩ true = 3 * awy x0 x1 + angI g0 (mirG g1) + 500 + 500 by
      unfold scI scN scS scG; simp only [hf, hs, if_true, if_false, Bool.false_eq_true, Int.add_zero])
    have hs2 : (s0.toList != s1.toList) = true := by rw [bne, hs]; rfl
    rw [HR.out]
    go_enter Tryd.func65, Tryd.ntmps65
    go_wp2_with fail
    refine (mirrored_impl ⟨id1, f1, u1, (s1, x1, g1), W1, L1, D1⟩ ao' n' c' _ HN2.out HD.out).mono ?_
    rintro e w1 ⟨ao2, cc, rfl, ho, g1'⟩
    unfold lfW mirZ
    simp only
    have HG := Lib.hid (bseq HA.out g1')
    have HX1 := Lib.hid ((g1'.block _ (blk_lt HX.out)).trans HX.out)
    have HY1 := Lib.hid ((g1'.block _ (blk_lt HY.out)).trans HY.out)
    clear ho g1'
    obtain ⟨hxz, c0, f0', c1, f1', c2, f2', c3, f3', c4, f4', c5, f5', c6, f6', c7, f7', c8, f8'⟩ := cells9_of HY1.out
    have HB := Lib.hid (bel9 (x0 := .string id1) (x1 := .string f1) (x2 := .int .i64 u1) (x3 := .string s1) (x4 := .int .i64 x1) (x5 := .int .i64 (mirG g1)) (x6 := .int .i64 W1) (x7 := .int .i64 L1) (x8 := .slice ao2 D1.length cc) (p := w.heap.size + 1) HG.out (by omega))
    have HX2 := Lib.hid (keep_blk9 (x0 := .string id1) (x1 := .string f1) (x2 := .int .i64 u1) (x3 := .string s1) (x4 := .int .i64 x1) (x5 := .int .i64 (mirG g1)) (x6 := .int .i64 W1) (x7 := .int .i64 L1) (x8 := .slice ao2 D1.length cc) (p := w.heap.size + 1) HX1.out (by omega))
    have HY2 := Lib.hid (st9 (x0 := .string id1) (x1 := .string f1) (x2 := .int .i64 u1) (x3 := .string s1) (x4 := .int .i64 x1) (x5 := .int .i64 (mirG g1)) (x6 := .int .i64 W1) (x7 := .int .i64 L1) (x8 := .slice ao2 D1.length cc) HY1.out)
    go_wp2
    clear HX HY HX1 HY1 HG HA hxz c0 f0' c1 f1' c2 f2' c3 f3' c4 f4' c5 f5' c6 f6' c7 f7' c8 f8'
    generalize World.setCell _ _ _ = W2 at *
    have HX := HX2
    have HY := HY2
    clear HX2 HY2
    have c1 : W2.cell? ⟨w.heap.size, 1, none⟩ = some (.string f0) := (cell_of_arr HX.out (j := 1) rfl).1
    have d1 : W2.cell? ⟨w.heap.size + 1, 1, none⟩ = some (.string f1) := (cell_of_arr HY.out (j := 1) rfl).1
    have c2 : W2.cell? ⟨w.heap.size, 2, none⟩ = some (.int .i64 u0) := (cell_of_arr HX.out (j := 2) rfl).1
    have d2 : W2.cell? ⟨w.heap.size + 1, 2, none⟩ = some (.int .i64 u1) := (cell_of_arr HY.out (j := 2) rfl).1
    have c3 : W2.cell? ⟨w.heap.size, 3, none⟩ = some (.string s0) := (cell_of_arr HX.out (j := 3) rfl).1
    have d3 : W2.cell? ⟨w.heap.size + 1, 3, none⟩ = some (.string s1) := (cell_of_arr HY.out (j := 3) rfl).1
    have c4 : W2.cell? ⟨w.heap.size, 4, none⟩ = some (.int .i64 x0) := (cell_of_arr HX.out (j := 4) rfl).1
    have d4 : W2.cell? ⟨w.heap.size + 1, 4, none⟩ = some (.int .i64 x1) := (cell_of_arr HY.out (j := 4) rfl).1
    have c5 : W2.cell? ⟨w.heap.size, 5, none⟩ = some (.int .i64 g0) := (cell_of_arr HX.out (j := 5) rfl).1
    have d5 : W2.cell? ⟨w.heap.size + 1, 5, none⟩ = some (.int .i64 (mirG g1)) := (cell_of_arr HY.out (j := 5) rfl).1
    have hp := blk_lt HX.out
    have hq := blk_lt HY.out
    refine wp_region_below (by kernel_rfl) (by kernel_rfl) ?_
    repeat (first | (refine wq_val ?_ ?_; (focus (go_simp; done)); apply Exists.intro; refine ⟨fun w1 hw1 => ?_, ?_⟩; (obtain ⟨hc, hf⟩ := bcell hw1; clear hw1; go_simp; (first | done | with_reducible rfl | (with_reducible exact eql2 _ _ _) | (with_reducible exact neq2 _ _ _))); (try simp only [Act.put, List.setIfInBounds_toArray, List.set_cons_zero, List.set_cons_succ])) | (refine wq_skip ?_ ?_; (focus (go_simp; (first | done | (simp [undef]; done)))); (try simp only [Act.put, List.setIfInBounds_toArray, List.set_cons_zero, List.set_cons_succ])) | (refine wq_call 98 ?_ ?_; (focus (go_simp; done)); apply Exists.intro; refine ⟨fun w1 hw1 => ?_, ?_⟩; (focus (clear hw1; go_simp; (first | done | with_reducible rfl))); apply Exists.intro; refine ⟨fun w1 hw1 => ?_, ?_⟩; (focus (exact calls_below_same hw1 (by have h := abs_ven (x0 - x1) w1 (by omega) (by omega); rw [HMX.out] at h; exact h); done)); (try simp only [Act.put, List.setIfInBounds_toArray, List.set_cons_zero, List.set_cons_succ])) | (refine wq_call 99 ?_ ?_; (focus (go_simp; done)); apply Exists.intro; refine ⟨fun w1 hw1 => ?_, ?_⟩; (focus (clear hw1; go_simp; (first | done | with_reducible rfl))); apply Exists.intro; refine ⟨fun w1 hw1 => ?_, ?_⟩; (focus (exact calls_below_same hw1 (angle_impl g0 (mirG g1) w1 a4 (by omega) hm.1 (by omega)); done)); (try simp only [Act.put, List.setIfInBounds_toArray, List.set_cons_zero, List.set_cons_succ])))
    refine wq_nil ?_
    intro w3 hb
    replace HB := Lib.hid (bseq HB.out hb)
    replace HX := Lib.hid ((hb.block _ (blk_lt HX.out)).trans HX.out)
    replace HY := Lib.hid ((hb.block _ (blk_lt HY.out)).trans HY.out)
    clear hb
    clear hp hq c1 d1 c2 d2 c3 d3 c4 d4 c5 d5
    have c1 : w3.cell? ⟨w.heap.size, 1, none⟩ = some (.string f0) := (cell_of_arr HX.out (j := 1) rfl).1
    have d1 : w3.cell? ⟨w.heap.size + 1, 1, none⟩ = some (.string f1) := (cell_of_arr HY.out (j := 1) rfl).1
    have c2 : w3.cell? ⟨w.heap.size, 2, none⟩ = some (.int .i64 u0) := (cell_of_arr HX.out (j := 2) rfl).1
    have d2 : w3.cell? ⟨w.heap.size + 1, 2, none⟩ = some (.int .i64 u1) := (cell_of_arr HY.out (j := 2) rfl).1
    have c3 : w3.cell? ⟨w.heap.size, 3, none⟩ = some (.string s0) := (cell_of_arr HX.out (j := 3) rfl).1
    have d3 : w3.cell? ⟨w.heap.size + 1, 3, none⟩ = some (.string s1) := (cell_of_arr HY.out (j := 3) rfl).1
    have c4 : w3.cell? ⟨w.heap.size, 4, none⟩ = some (.int .i64 x0) := (cell_of_arr HX.out (j := 4) rfl).1
    have d4 : w3.cell? ⟨w.heap.size + 1, 4, none⟩ = some (.int .i64 x1) := (cell_of_arr HY.out (j := 4) rfl).1
    have c5 : w3.cell? ⟨w.heap.size, 5, none⟩ = some (.int .i64 g0) := (cell_of_arr HX.out (j := 5) rfl).1
    have d5 : w3.cell? ⟨w.heap.size + 1, 5, none⟩ = some (.int .i64 (mirG g1)) := (cell_of_arr HY.out (j := 5) rfl).1
    have hp := blk_lt HX.out
    have hq := blk_lt HY.out
    go_wp2
    go_ret
    exact ⟨rfl, HB.out⟩
  · have hg := ang_180 a4 (by omega : g0 ≤ 180) b4 (by omega : g1 ≤ 180)
    have e4 : IntKind.i64.wrap (3 * awy x0 x1 + angI g0 g1) = 3 * awy x0 x1 + angI g0 g1 := IntWalk.i64_in _ (by omega)
    have e10 : IntKind.i64.wrap (3 * awy x0 x1 + angI g0 g1 + 500) = 3 * awy x0 x1 + angI g0 g1 + 500 := IntWalk.i64_in _ (by omega)
    have HR := Lib.hid (show scI ⟨id0, f0, u0, (s0, x0, g0), W0, L0, D0⟩ ⟨id1, f1, u1, (s1, x1, g1), W1, L1, D1⟩ false = 3 * awy x0 x1 + angI g0 g1 + 500 by
      unfold scI scN scS scG; simp only [hf, hs, if_true, if_false, Bool.false_eq_true, Int.add_zero])
    have hs2 : (s0.toList != s1.toList) = false := by rw [bne, hs]; rfl
    rw [HR.out]
    go_enter Tryd.func65, Tryd.ntmps65
    go_wp2
    generalize hW2 : ((w.alloc (.cells #[.string id0, .string f0, .int .i64 u0, .string s0, .int .i64 x0, .int .i64 g0, .int .i64 W0, .int .i64 L0, .slice ao n c] 33)).alloc (.cells #[.string id1, .string f1, .int .i64 u1, .string s1, .int .i64 x1, .int .i64 g1, .int .i64 W1, .int .i64 L1, .slice ao' n' c'] 33)) = W2 at *
    have HB := Lib.hid HA.out
    have c1 : W2.cell? ⟨w.heap.size, 1, none⟩ = some (.string f0) := (cell_of_arr HX.out (j := 1) rfl).1
    have d1 : W2.cell? ⟨w.heap.size + 1, 1, none⟩ = some (.string f1) := (cell_of_arr HY.out (j := 1) rfl).1
    have c2 : W2.cell? ⟨w.heap.size, 2, none⟩ = some (.int .i64 u0) := (cell_of_arr HX.out (j := 2) rfl).1
    have d2 : W2.cell? ⟨w.heap.size + 1, 2, none⟩ = some (.int .i64 u1) := (cell_of_arr HY.out (j := 2) rfl).1
    have c3 : W2.cell? ⟨w.heap.size, 3, none⟩ = some (.string s0) := (cell_of_arr HX.out (j := 3) rfl).1
    have d3 : W2.cell? ⟨w.heap.size + 1, 3, none⟩ = some (.string s1) := (cell_of_arr HY.out (j := 3) rfl).1
    have c4 : W2.cell? ⟨w.heap.size, 4, none⟩ = some (.int .i64 x0) := (cell_of_arr HX.out (j := 4) rfl).1
    have d4 : W2.cell? ⟨w.heap.size + 1, 4, none⟩ = some (.int .i64 x1) := (cell_of_arr HY.out (j := 4) rfl).1
    have c5 : W2.cell? ⟨w.heap.size, 5, none⟩ = some (.int .i64 g0) := (cell_of_arr HX.out (j := 5) rfl).1
    have d5 : W2.cell? ⟨w.heap.size + 1, 5, none⟩ = some (.int .i64 g1) := (cell_of_arr HY.out (j := 5) rfl).1
    have hp := blk_lt HX.out
    have hq := blk_lt HY.out
    refine wp_region_below (by kernel_rfl) (by kernel_rfl) ?_
    repeat (first | (refine wq_val ?_ ?_; (focus (go_simp; done)); apply Exists.intro; refine ⟨fun w1 hw1 => ?_, ?_⟩; (obtain ⟨hc, hf⟩ := bcell hw1; clear hw1; go_simp; (first | done | with_reducible rfl | (with_reducible exact eql2 _ _ _) | (with_reducible exact neq2 _ _ _))); (try simp only [Act.put, List.setIfInBounds_toArray, List.set_cons_zero, List.set_cons_succ])) | (refine wq_skip ?_ ?_; (focus (go_simp; (first | done | (simp [undef]; done)))); (try simp only [Act.put, List.setIfInBounds_toArray, List.set_cons_zero, List.set_cons_succ])) | (refine wq_call 98 ?_ ?_; (focus (go_simp; done)); apply Exists.intro; refine ⟨fun w1 hw1 => ?_, ?_⟩; (focus (clear hw1; go_simp; (first | done | with_reducible rfl))); apply Exists.intro; refine ⟨fun w1 hw1 => ?_, ?_⟩; (focus (exact calls_below_same hw1 (by have h := abs_ven (x0 - x1) w1 (by omega) (by omega); rw [HMX.out] at h; exact h); done)); (try simp only [Act.put, List.setIfInBounds_toArray, List.set_cons_zero, List.set_cons_succ])) | (refine wq_call 99 ?_ ?_; (focus (go_simp; done)); apply Exists.intro; refine ⟨fun w1 hw1 => ?_, ?_⟩; (focus (clear hw1; go_simp; (first | done | with_reducible rfl))); apply Exists.intro; refine ⟨fun w1 hw1 => ?_, ?_⟩; (focus (exact calls_below_same hw1 (angle_impl g0 g1 w1 a4 (by omega) b4 (by omega)); done)); (try simp only [Act.put, List.setIfInBounds_toArray, List.set_cons_zero, List.set_cons_succ])))
    refine wq_nil ?_
    intro w3 hb
    replace HB := Lib.hid (bseq HB.out hb)
    replace HX := Lib.hid ((hb.block _ (blk_lt HX.out)).trans HX.out)
    replace HY := Lib.hid ((hb.block _ (blk_lt HY.out)).trans HY.out)
    clear hb
    clear hp hq c1 d1 c2 d2 c3 d3 c4 d4 c5 d5
    have c1 : w3.cell? ⟨w.heap.size, 1, none⟩ = some (.string f0) := (cell_of_arr HX.out (j := 1) rfl).1
    have d1 : w3.cell? ⟨w.heap.size + 1, 1, none⟩ = some (.string f1) := (cell_of_arr HY.out (j := 1) rfl).1
    have c2 : w3.cell? ⟨w.heap.size, 2, none⟩ = some (.int .i64 u0) := (cell_of_arr HX.out (j := 2) rfl).1
    have d2 : w3.cell? ⟨w.heap.size + 1, 2, none⟩ = some (.int .i64 u1) := (cell_of_arr HY.out (j := 2) rfl).1
    have c3 : w3.cell? ⟨w.heap.size, 3, none⟩ = some (.string s0) := (cell_of_arr HX.out (j := 3) rfl).1
    have d3 : w3.cell? ⟨w.heap.size + 1, 3, none⟩ = some (.string s1) := (cell_of_arr HY.out (j := 3) rfl).1
    have c4 : w3.cell? ⟨w.heap.size, 4, none⟩ = some (.int .i64 x0) := (cell_of_arr HX.out (j := 4) rfl).1
    have d4 : w3.cell? ⟨w.heap.size + 1, 4, none⟩ = some (.int .i64 x1) := (cell_of_arr HY.out (j := 4) rfl).1
    have c5 : w3.cell? ⟨w.heap.size, 5, none⟩ = some (.int .i64 g0) := (cell_of_arr HX.out (j := 5) rfl).1
    have d5 : w3.cell? ⟨w.heap.size + 1, 5, none⟩ = some (.int .i64 g1) := (cell_of_arr HY.out (j := 5) rfl).1
    have hp := blk_lt HX.out
    have hq := blk_lt HY.out
    go_wp2
    go_ret
    exact ⟨rfl, HB.out⟩
  · have hg := ang_180 a4 (by omega : g0 ≤ 180) hm.1 (by omega : (mirG g1) ≤ 180)
    have e4 : IntKind.i64.wrap (3 * awy x0 x1 + angI g0 (mirG g1)) = 3 * awy x0 x1 + angI g0 (mirG g1) := IntWalk.i64_in _ (by omega)
    have e10 : IntKind.i64.wrap (3 * awy x0 x1 + angI g0 (mirG g1) + 500) = 3 * awy x0 x1 + angI g0 (mirG g1) + 500 := IntWalk.i64_in _ (by omega)
    have HR := Lib.hid (show scI ⟨id0, f0, u0, (s0, x0, g0), W0, L0, D0⟩ ⟨id1, f1, u1, (s1, x1, g1), W1, L1, D1⟩ true = 3 * awy x0 x1 + angI g0 (mirG g1) + 500 by
      unfold scI scN scS scG; simp only [hf, hs, if_true, if_false, Bool.false_eq_true, Int.add_zero])
    have hs2 : (s0.toList != s1.toList) = false := by rw [bne, hs]; rfl
    rw [HR.out]
    go_enter Tryd.func65, Tryd.ntmps65
    go_wp2_with fail
    refine (mirrored_impl ⟨id1, f1, u1, (s1, x1, g1), W1, L1, D1⟩ ao' n' c' _ HN2.out HD.out).mono ?_
    rintro e w1 ⟨ao2, cc, rfl, ho, g1'⟩
    unfold lfW mirZ
    simp only
    have HG := Lib.hid (bseq HA.out g1')
    have HX1 := Lib.hid ((g1'.block _ (blk_lt HX.out)).trans HX.out)
    have HY1 := Lib.hid ((g1'.block _ (blk_lt HY.out)).trans HY.out)
    clear ho g1'
    obtain ⟨hxz, c0, f0', c1, f1', c2, f2', c3, f3', c4, f4', c5, f5', c6, f6', c7, f7', c8, f8'⟩ := cells9_of HY1.out
    have HB := Lib.hid (bel9 (x0 := .string id1) (x1 := .string f1) (x2 := .int .i64 u1) (x3 := .string s1) (x4 := .int .i64 x1) (x5 := .int .i64 (mirG g1)) (x6 := .int .i64 W1) (x7 := .int .i64 L1) (x8 := .slice ao2 D1.length cc) (p := w.heap.size + 1) HG.out (by omega))
    have HX2 := Lib.hid (keep_blk9 (x0 := .string id1) (x1 := .string f1) (x2 := .int .i64 u1) (x3 := .string s1) (x4 := .int .i64 x1) (x5 := .int .i64 (mirG g1)) (x6 := .int .i64 W1) (x7 := .int .i64 L1) (x8 := .slice ao2 D1.length cc) (p := w.heap.size + 1) HX1.out (by omega))
    have HY2 := Lib.hid (st9 (x0 := .string id1) (x1 := .string f1) (x2 := .int .i64 u1) (x3 := .string s1) (x4 := .int .i64 x1) (x5 := .int .i64 (mirG g1)) (x6 := .int .i64 W1) (x7 := .int .i64 L1) (x8 := .slice ao2 D1.length cc) HY1.out)
    go_wp2
    clear HX HY HX1 HY1 HG HA hxz c0 f0' c1 f1' c2 f2' c3 f3' c4 f4' c5 f5' c6 f6' c7 f7' c8 f8'
    generalize World.setCell _ _ _ = W2 at *
    have HX := HX2
    have HY := HY2
    clear HX2 HY2
    have c1 : W2.cell? ⟨w.heap.size, 1, none⟩ = some (.string f0) := (cell_of_arr HX.out (j := 1) rfl).1
    have d1 : W2.cell? ⟨w.heap.size + 1, 1, none⟩ = some (.string f1) := (cell_of_arr HY.out (j := 1) rfl).1
    have c2 : W2.cell? ⟨w.heap.size, 2, none⟩ = some (.int .i64 u0) := (cell_of_arr HX.out (j := 2) rfl).1
    have d2 : W2.cell? ⟨w.heap.size + 1, 2, none⟩ = some (.int .i64 u1) := (cell_of_arr HY.out (j := 2) rfl).1
    have c3 : W2.cell? ⟨w.heap.size, 3, none⟩ = some (.string s0) := (cell_of_arr HX.out (j := 3) rfl).1
    have d3 : W2.cell? ⟨w.heap.size + 1, 3, none⟩ = some (.string s1) := (cell_of_arr HY.out (j := 3) rfl).1
    have c4 : W2.cell? ⟨w.heap.size, 4, none⟩ = some (.int .i64 x0) := (cell_of_arr HX.out (j := 4) rfl).1
    have d4 : W2.cell? ⟨w.heap.size + 1, 4, none⟩ = some (.int .i64 x1) := (cell_of_arr HY.out (j := 4) rfl).1
    have c5 : W2.cell? ⟨w.heap.size, 5, none⟩ = some (.int .i64 g0) := (cell_of_arr HX.out (j := 5) rfl).1
    have d5 : W2.cell? ⟨w.heap.size + 1, 5, none⟩ = some (.int .i64 (mirG g1)) := (cell_of_arr HY.out (j := 5) rfl).1
    have hp := blk_lt HX.out
    have hq := blk_lt HY.out
    refine wp_region_below (by kernel_rfl) (by kernel_rfl) ?_
    repeat (first | (refine wq_val ?_ ?_; (focus (go_simp; done)); apply Exists.intro; refine ⟨fun w1 hw1 => ?_, ?_⟩; (obtain ⟨hc, hf⟩ := bcell hw1; clear hw1; go_simp; (first | done | with_reducible rfl | (with_reducible exact eql2 _ _ _) | (with_reducible exact neq2 _ _ _))); (try simp only [Act.put, List.setIfInBounds_toArray, List.set_cons_zero, List.set_cons_succ])) | (refine wq_skip ?_ ?_; (focus (go_simp; (first | done | (simp [undef]; done)))); (try simp only [Act.put, List.setIfInBounds_toArray, List.set_cons_zero, List.set_cons_succ])) | (refine wq_call 98 ?_ ?_; (focus (go_simp; done)); apply Exists.intro; refine ⟨fun w1 hw1 => ?_, ?_⟩; (focus (clear hw1; go_simp; (first | done | with_reducible rfl))); apply Exists.intro; refine ⟨fun w1 hw1 => ?_, ?_⟩; (focus (exact calls_below_same hw1 (by have h := abs_ven (x0 - x1) w1 (by omega) (by omega); rw [HMX.out] at h; exact h); done)); (try simp only [Act.put, List.setIfInBounds_toArray, List.set_cons_zero, List.set_cons_succ])) | (refine wq_call 99 ?_ ?_; (focus (go_simp; done)); apply Exists.intro; refine ⟨fun w1 hw1 => ?_, ?_⟩; (focus (clear hw1; go_simp; (first | done | with_reducible rfl))); apply Exists.intro; refine ⟨fun w1 hw1 => ?_, ?_⟩; (focus (exact calls_below_same hw1 (angle_impl g0 (mirG g1) w1 a4 (by omega) hm.1 (by omega)); done)); (try simp only [Act.put, List.setIfInBounds_toArray, List.set_cons_zero, List.set_cons_succ])))
    refine wq_nil ?_
    intro w3 hb
    replace HB := Lib.hid (bseq HB.out hb)
    replace HX := Lib.hid ((hb.block _ (blk_lt HX.out)).trans HX.out)
    replace HY := Lib.hid ((hb.block _ (blk_lt HY.out)).trans HY.out)
    clear hb
    clear hp hq c1 d1 c2 d2 c3 d3 c4 d4 c5 d5
    have c1 : w3.cell? ⟨w.heap.size, 1, none⟩ = some (.string f0) := (cell_of_arr HX.out (j := 1) rfl).1
    have d1 : w3.cell? ⟨w.heap.size + 1, 1, none⟩ = some (.string f1) := (cell_of_arr HY.out (j := 1) rfl).1
    have c2 : w3.cell? ⟨w.heap.size, 2, none⟩ = some (.int .i64 u0) := (cell_of_arr HX.out (j := 2) rfl).1
    have d2 : w3.cell? ⟨w.heap.size + 1, 2, none⟩ = some (.int .i64 u1) := (cell_of_arr HY.out (j := 2) rfl).1
    have c3 : w3.cell? ⟨w.heap.size, 3, none⟩ = some (.string s0) := (cell_of_arr HX.out (j := 3) rfl).1
    have d3 : w3.cell? ⟨w.heap.size + 1, 3, none⟩ = some (.string s1) := (cell_of_arr HY.out (j := 3) rfl).1
    have c4 : w3.cell? ⟨w.heap.size, 4, none⟩ = some (.int .i64 x0) := (cell_of_arr HX.out (j := 4) rfl).1
    have d4 : w3.cell? ⟨w.heap.size + 1, 4, none⟩ = some (.int .i64 x1) := (cell_of_arr HY.out (j := 4) rfl).1
    have c5 : w3.cell? ⟨w.heap.size, 5, none⟩ = some (.int .i64 g0) := (cell_of_arr HX.out (j := 5) rfl).1
    have d5 : w3.cell? ⟨w.heap.size + 1, 5, none⟩ = some (.int .i64 (mirG g1)) := (cell_of_arr HY.out (j := 5) rfl).1
    have hp := blk_lt HX.out
    have hq := blk_lt HY.out
    go_wp2
    go_ret
    exact ⟨rfl, HB.out⟩
  · have hg := ang_180 a4 (by omega : g0 ≤ 180) b4 (by omega : g1 ≤ 180)
    have e4 : IntKind.i64.wrap (3 * awy x0 x1 + angI g0 g1) = 3 * awy x0 x1 + angI g0 g1 := IntWalk.i64_in _ (by omega)
    have e10 : IntKind.i64.wrap (3 * awy x0 x1 + angI g0 g1 + lesI 20 (awy u0 u1)) = 3 * awy x0 x1 + angI g0 g1 + lesI 20 (awy u0 u1) := IntWalk.i64_in _ (by omega)
    have e11 : IntKind.i64.wrap (3 * awy x0 x1 + angI g0 g1 + lesI 20 (awy u0 u1) + 500) = 3 * awy x0 x1 + angI g0 g1 + lesI 20 (awy u0 u1) + 500 := IntWalk.i64_in _ (by omega)
    have HR := Lib.hid (show scI ⟨id0, f0, u0, (s0, x0, g0), W0, L0, D0⟩ ⟨id1, f1, u1, (s1, x1, g1), W1, L1, D1⟩ false = 3 * awy x0 x1 + angI g0 g1 + lesI 20 (awy u0 u1) + 500 by
      unfold scI scN scS scG; simp only [hf, hs, if_true, if_false, Bool.false_eq_true, Int.add_zero])
    have hs2 : (s0.toList != s1.toList) = true := by rw [bne, hs]; rfl
    rw [HR.out]
    go_enter Tryd.func65, Tryd.ntmps65
    go_wp2
    generalize hW2 : ((w.alloc (.cells #[.string id0, .string f0, .int .i64 u0, .string s0, .int .i64 x0, .int .i64 g0, .int .i64 W0, .int .i64 L0, .slice ao n c] 33)).alloc (.cells #[.string id1, .string f1, .int .i64 u1, .string s1, .int .i64 x1, .int .i64 g1, .int .i64 W1, .int .i64 L1, .slice ao' n' c'] 33)) = W2 at *
    have HB := Lib.hid HA.out
    have c1 : W2.cell? ⟨w.heap.size, 1, none⟩ = some (.string f0) := (cell_of_arr HX.out (j := 1) rfl).1
    have d1 : W2.cell? ⟨w.heap.size + 1, 1, none⟩ = some (.string f1) := (cell_of_arr HY.out (j := 1) rfl).1
    have c2 : W2.cell? ⟨w.heap.size, 2, none⟩ = some (.int .i64 u0) := (cell_of_arr HX.out (j := 2) rfl).1
    have d2 : W2.cell? ⟨w.heap.size + 1, 2, none⟩ = some (.int .i64 u1) := (cell_of_arr HY.out (j := 2) rfl).1
    have c3 : W2.cell? ⟨w.heap.size, 3, none⟩ = some (.string s0) := (cell_of_arr HX.out (j := 3) rfl).1
    have d3 : W2.cell? ⟨w.heap.size + 1, 3, none⟩ = some (.string s1) := (cell_of_arr HY.out (j := 3) rfl).1
    have c4 : W2.cell? ⟨w.heap.size, 4, none⟩ = some (.int .i64 x0) := (cell_of_arr HX.out (j := 4) rfl).1
    have d4 : W2.cell? ⟨w.heap.size + 1, 4, none⟩ = some (.int .i64 x1) := (cell_of_arr HY.out (j := 4) rfl).1
    have c5 : W2.cell? ⟨w.heap.size, 5, none⟩ = some (.int .i64 g0) := (cell_of_arr HX.out (j := 5) rfl).1
    have d5 : W2.cell? ⟨w.heap.size + 1, 5, none⟩ = some (.int .i64 g1) := (cell_of_arr HY.out (j := 5) rfl).1
    have hp := blk_lt HX.out
    have hq := blk_lt HY.out
    refine wp_region_below (by kernel_rfl) (by kernel_rfl) ?_
    repeat (first | (refine wq_val ?_ ?_; (focus (go_simp; done)); apply Exists.intro; refine ⟨fun w1 hw1 => ?_, ?_⟩; (obtain ⟨hc, hf⟩ := bcell hw1; clear hw1; go_simp; (first | done | with_reducible rfl | (with_reducible exact eql2 _ _ _) | (with_reducible exact neq2 _ _ _))); (try simp only [Act.put, List.setIfInBounds_toArray, List.set_cons_zero, List.set_cons_succ])) | (refine wq_skip ?_ ?_; (focus (go_simp; (first | done | (simp [undef]; done)))); (try simp only [Act.put, List.setIfInBounds_toArray, List.set_cons_zero, List.set_cons_succ])) | (refine wq_call 98 ?_ ?_; (focus (go_simp; done)); apply Exists.intro; refine ⟨fun w1 hw1 => ?_, ?_⟩; (focus (clear hw1; go_simp; (first | done | with_reducible rfl))); apply Exists.intro; refine ⟨fun w1 hw1 => ?_, ?_⟩; (focus (exact calls_below_same hw1 (by have h := abs_ven (x0 - x1) w1 (by omega) (by omega); rw [HMX.out] at h; exact h); done)); (try simp only [Act.put, List.setIfInBounds_toArray, List.set_cons_zero, List.set_cons_succ])) | (refine wq_call 99 ?_ ?_; (focus (go_simp; done)); apply Exists.intro; refine ⟨fun w1 hw1 => ?_, ?_⟩; (focus (clear hw1; go_simp; (first | done | with_reducible rfl))); apply Exists.intro; refine ⟨fun w1 hw1 => ?_, ?_⟩; (focus (exact calls_below_same hw1 (angle_impl g0 g1 w1 a4 (by omega) b4 (by omega)); done)); (try simp only [Act.put, List.setIfInBounds_toArray, List.set_cons_zero, List.set_cons_succ])))
    refine wq_nil ?_
    intro w3 hb
    replace HB := Lib.hid (bseq HB.out hb)
    replace HX := Lib.hid ((hb.block _ (blk_lt HX.out)).trans HX.out)
    replace HY := Lib.hid ((hb.block _ (blk_lt HY.out)).trans HY.out)
    clear hb
    clear hp hq c1 d1 c2 d2 c3 d3 c4 d4 c5 d5
    have c1 : w3.cell? ⟨w.heap.size, 1, none⟩ = some (.string f0) := (cell_of_arr HX.out (j := 1) rfl).1
    have d1 : w3.cell? ⟨w.heap.size + 1, 1, none⟩ = some (.string f1) := (cell_of_arr HY.out (j := 1) rfl).1
    have c2 : w3.cell? ⟨w.heap.size, 2, none⟩ = some (.int .i64 u0) := (cell_of_arr HX.out (j := 2) rfl).1
    have d2 : w3.cell? ⟨w.heap.size + 1, 2, none⟩ = some (.int .i64 u1) := (cell_of_arr HY.out (j := 2) rfl).1
    have c3 : w3.cell? ⟨w.heap.size, 3, none⟩ = some (.string s0) := (cell_of_arr HX.out (j := 3) rfl).1
    have d3 : w3.cell? ⟨w.heap.size + 1, 3, none⟩ = some (.string s1) := (cell_of_arr HY.out (j := 3) rfl).1
    have c4 : w3.cell? ⟨w.heap.size, 4, none⟩ = some (.int .i64 x0) := (cell_of_arr HX.out (j := 4) rfl).1
    have d4 : w3.cell? ⟨w.heap.size + 1, 4, none⟩ = some (.int .i64 x1) := (cell_of_arr HY.out (j := 4) rfl).1
    have c5 : w3.cell? ⟨w.heap.size, 5, none⟩ = some (.int .i64 g0) := (cell_of_arr HX.out (j := 5) rfl).1
    have d5 : w3.cell? ⟨w.heap.size + 1, 5, none⟩ = some (.int .i64 g1) := (cell_of_arr HY.out (j := 5) rfl).1
    have hp := blk_lt HX.out
    have hq := blk_lt HY.out
    go_wp2_with fail
    refine (abs_ven (u0 - u1) _ (by omega) (by omega)).mono ?_
    rintro e w4 ⟨rfl, rfl⟩
    rw [HMU.out]
    go_wp2
    go_ret
    exact ⟨rfl, HB.out⟩
  · have hg := ang_180 a4 (by omega : g0 ≤ 180) hm.1 (by omega : (mirG g1) ≤ 180)
    have e4 : IntKind.i64.wrap (3 * awy x0 x1 + angI g0 (mirG g1)) = 3 * awy x0 x1 + angI g0 (mirG g1) := IntWalk.i64_in _ (by omega)
    have e10 : IntKind.i64.wrap (3 * awy x0 x1 + angI g0 (mirG g1) + lesI 20 (awy u0 u1)) = 3 * awy x0 x1 + angI g0 (mirG g1) + lesI 20 (awy u0 u1) := IntWalk.i64_in _ (by omega)
    have e11 : IntKind.i64.wrap (3 * awy x0 x1 + angI g0 (mirG g1) + lesI 20 (awy u0 u1) + 500) = 3 * awy x0 x1 + angI g0 (mirG g1) + lesI 20 (awy u0 u1) + 500 := IntWalk.i64_in _ (by omega)
    have HR := Lib.hid (show scI ⟨id0, f0, u0, (s0, x0, g0), W0, L0, D0⟩ ⟨id1, f1, u1, (s1, x1, g1), W1, L1, D1⟩ true = 3 * awy x0 x1 + angI g0 (mirG g1) + lesI 20 (awy u0 u1) + 500 by
      unfold scI scN scS scG; simp only [hf, hs, if_true, if_false, Bool.false_eq_true, Int.add_zero])
    have hs2 : (s0.toList != s1.toList) = true := by rw [bne, hs]; rfl
    rw [HR.out]
    go_enter Tryd.func65, Tryd.ntmps65
    go_wp2_with fail
    refine (mirrored_impl ⟨id1, f1, u1, (s1, x1, g1), W1, L1, D1⟩ ao' n' c' _ HN2.out HD.out).mono ?_
    rintro e w1 ⟨ao2, cc, rfl, ho, g1'⟩
    unfold lfW mirZ
    simp only
    have HG := Lib.hid (bseq HA.out g1')
    have HX1 := Lib.hid ((g1'.block _ (blk_lt HX.out)).trans HX.out)
    have HY1 := Lib.hid ((g1'.block _ (blk_lt HY.out)).trans HY.out)
    clear ho g1'
    obtain ⟨hxz, c0, f0', c1, f1', c2, f2', c3, f3', c4, f4', c5, f5', c6, f6', c7, f7', c8, f8'⟩ := cells9_of HY1.out
    have HB := Lib.hid (bel9 (x0 := .string id1) (x1 := .string f1) (x2 := .int .i64 u1) (x3 := .string s1) (x4 := .int .i64 x1) (x5 := .int .i64 (mirG g1)) (x6 := .int .i64 W1) (x7 := .int .i64 L1) (x8 := .slice ao2 D1.length cc) (p := w.heap.size + 1) HG.out (by omega))
    have HX2 := Lib.hid (keep_blk9 (x0 := .string id1) (x1 := .string f1) (x2 := .int .i64 u1) (x3 := .string s1) (x4 := .int .i64 x1) (x5 := .int .i64 (mirG g1)) (x6 := .int .i64 W1) (x7 := .int .i64 L1) (x8 := .slice ao2 D1.length cc) (p := w.heap.size + 1) HX1.out (by omega))
    have HY2 := Lib.hid (st9 (x0 := .string id1) (x1 := .string f1) (x2 := .int .i64 u1) (x3 := .string s1) (x4 := .int .i64 x1) (x5 := .int .i64 (mirG g1)) (x6 := .int .i64 W1) (x7 := .int .i64 L1) (x8 := .slice ao2 D1.length cc) HY1.out)
    go_wp2
    clear HX HY HX1 HY1 HG HA hxz c0 f0' c1 f1' c2 f2' c3 f3' c4 f4' c5 f5' c6 f6' c7 f7' c8 f8'
    generalize World.setCell _ _ _ = W2 at *
    have HX := HX2
    have HY := HY2
    clear HX2 HY2
    have c1 : W2.cell? ⟨w.heap.size, 1, none⟩ = some (.string f0) := (cell_of_arr HX.out (j := 1) rfl).1
    have d1 : W2.cell? ⟨w.heap.size + 1, 1, none⟩ = some (.string f1) := (cell_of_arr HY.out (j := 1) rfl).1
    have c2 : W2.cell? ⟨w.heap.size, 2, none⟩ = some (.int .i64 u0) := (cell_of_arr HX.out (j := 2) rfl).1
    have d2 : W2.cell? ⟨w.heap.size + 1, 2, none⟩ = some (.int .i64 u1) := (cell_of_arr HY.out (j := 2) rfl).1
    have c3 : W2.cell? ⟨w.heap.size, 3, none⟩ = some (.string s0) := (cell_of_arr HX.out (j := 3) rfl).1
    have d3 : W2.cell? ⟨w.heap.size + 1, 3, none⟩ = some (.string s1) := (cell_of_arr HY.out (j := 3) rfl).1
    have c4 : W2.cell? ⟨w.heap.size, 4, none⟩ = some (.int .i64 x0) := (cell_of_arr HX.out (j := 4) rfl).1
    have d4 : W2.cell? ⟨w.heap.size + 1, 4, none⟩ = some (.int .i64 x1) := (cell_of_arr HY.out (j := 4) rfl).1
    have c5 : W2.cell? ⟨w.heap.size, 5, none⟩ = some (.int .i64 g0) := (cell_of_arr HX.out (j := 5) rfl).1
    have d5 : W2.cell? ⟨w.heap.size + 1, 5, none⟩ = some (.int .i64 (mirG g1)) := (cell_of_arr HY.out (j := 5) rfl).1
    have hp := blk_lt HX.out
    have hq := blk_lt HY.out
    refine wp_region_below (by kernel_rfl) (by kernel_rfl) ?_
    repeat (first | (refine wq_val ?_ ?_; (focus (go_simp; done)); apply Exists.intro; refine ⟨fun w1 hw1 => ?_, ?_⟩; (obtain ⟨hc, hf⟩ := bcell hw1; clear hw1; go_simp; (first | done | with_reducible rfl | (with_reducible exact eql2 _ _ _) | (with_reducible exact neq2 _ _ _))); (try simp only [Act.put, List.setIfInBounds_toArray, List.set_cons_zero, List.set_cons_succ])) | (refine wq_skip ?_ ?_; (focus (go_simp; (first | done | (simp [undef]; done)))); (try simp only [Act.put, List.setIfInBounds_toArray, List.set_cons_zero, List.set_cons_succ])) | (refine wq_call 98 ?_ ?_; (focus (go_simp; done)); apply Exists.intro; refine ⟨fun w1 hw1 => ?_, ?_⟩; (focus (clear hw1; go_simp; (first | done | with_reducible rfl))); apply Exists.intro; refine ⟨fun w1 hw1 => ?_, ?_⟩; (focus (exact calls_below_same hw1 (by have h := abs_ven (x0 - x1) w1 (by omega) (by omega); rw [HMX.out] at h; exact h); done)); (try simp only [Act.put, List.setIfInBounds_toArray, List.set_cons_zero, List.set_cons_succ])) | (refine wq_call 99 ?_ ?_; (focus (go_simp; done)); apply Exists.intro; refine ⟨fun w1 hw1 => ?_, ?_⟩; (focus (clear hw1; go_simp; (first | done | with_reducible rfl))); apply Exists.intro; refine ⟨fun w1 hw1 => ?_, ?_⟩; (focus (exact calls_below_same hw1 (angle_impl g0 (mirG g1) w1 a4 (by omega) hm.1 (by omega)); done)); (try simp only [Act.put, List.setIfInBounds_toArray, List.set_cons_zero, List.set_cons_succ])))
    refine wq_nil ?_
    intro w3 hb
    replace HB := Lib.hid (bseq HB.out hb)
    replace HX := Lib.hid ((hb.block _ (blk_lt HX.out)).trans HX.out)
    replace HY := Lib.hid ((hb.block _ (blk_lt HY.out)).trans HY.out)
    clear hb
    clear hp hq c1 d1 c2 d2 c3 d3 c4 d4 c5 d5
    have c1 : w3.cell? ⟨w.heap.size, 1, none⟩ = some (.string f0) := (cell_of_arr HX.out (j := 1) rfl).1
    have d1 : w3.cell? ⟨w.heap.size + 1, 1, none⟩ = some (.string f1) := (cell_of_arr HY.out (j := 1) rfl).1
    have c2 : w3.cell? ⟨w.heap.size, 2, none⟩ = some (.int .i64 u0) := (cell_of_arr HX.out (j := 2) rfl).1
    have d2 : w3.cell? ⟨w.heap.size + 1, 2, none⟩ = some (.int .i64 u1) := (cell_of_arr HY.out (j := 2) rfl).1
    have c3 : w3.cell? ⟨w.heap.size, 3, none⟩ = some (.string s0) := (cell_of_arr HX.out (j := 3) rfl).1
    have d3 : w3.cell? ⟨w.heap.size + 1, 3, none⟩ = some (.string s1) := (cell_of_arr HY.out (j := 3) rfl).1
    have c4 : w3.cell? ⟨w.heap.size, 4, none⟩ = some (.int .i64 x0) := (cell_of_arr HX.out (j := 4) rfl).1
    have d4 : w3.cell? ⟨w.heap.size + 1, 4, none⟩ = some (.int .i64 x1) := (cell_of_arr HY.out (j := 4) rfl).1
    have c5 : w3.cell? ⟨w.heap.size, 5, none⟩ = some (.int .i64 g0) := (cell_of_arr HX.out (j := 5) rfl).1
    have d5 : w3.cell? ⟨w.heap.size + 1, 5, none⟩ = some (.int .i64 (mirG g1)) := (cell_of_arr HY.out (j := 5) rfl).1
    have hp := blk_lt HX.out
    have hq := blk_lt HY.out
    go_wp2_with fail
    refine (abs_ven (u0 - u1) _ (by omega) (by omega)).mono ?_
    rintro e w4 ⟨rfl, rfl⟩
    rw [HMU.out]
    go_wp2
    go_ret
    exact ⟨rfl, HB.out⟩
  · have hg := ang_180 a4 (by omega : g0 ≤ 180) b4 (by omega : g1 ≤ 180)
    have e4 : IntKind.i64.wrap (3 * awy x0 x1 + angI g0 g1) = 3 * awy x0 x1 + angI g0 g1 := IntWalk.i64_in _ (by omega)
    have e10 : IntKind.i64.wrap (3 * awy x0 x1 + angI g0 g1 + lesI 20 (awy u0 u1)) = 3 * awy x0 x1 + angI g0 g1 + lesI 20 (awy u0 u1) := IntWalk.i64_in _ (by omega)
    have HR := Lib.hid (show scI ⟨id0, f0, u0, (s0, x0, g0), W0, L0, D0⟩ ⟨id1, f1, u1, (s1, x1, g1), W1, L1, D1⟩ false = 3 * awy x0 x1 + angI g0 g1 + lesI 20 (awy u0 u1) by
      unfold scI scN scS scG; simp only [hf, hs, if_true, if_false, Bool.false_eq_true, Int.add_zero])
    have hs2 : (s0.toList != s1.toList) = false := by rw [bne, hs]; rfl
    rw [HR.out]
    go_enter Tryd.func65, Tryd.ntmps65
    go_wp2
    generalize hW2 : ((w.alloc (.cells #[.string id0, .string f0, .int .i64 u0, .string s0, .int .i64 x0, .int .i64 g0, .int .i64 W0, .int .i64 L0, .slice ao n c] 33)).alloc (.cells #[.string id1, .string f1, .int .i64 u1, .string s1, .int .i64 x1, .int .i64 g1, .int .i64 W1, .int .i64 L1, .slice ao' n' c'] 33)) = W2 at *
    have HB := Lib.hid HA.out
    have c1 : W2.cell? ⟨w.heap.size, 1, none⟩ = some (.string f0) := (cell_of_arr HX.out (j := 1) rfl).1
    have d1 : W2.cell? ⟨w.heap.size + 1, 1, none⟩ = some (.string f1) := (cell_of_arr HY.out (j := 1) rfl).1
    have c2 : W2.cell? ⟨w.heap.size, 2, none⟩ = some (.int .i64 u0) := (cell_of_arr HX.out (j := 2) rfl).1
    have d2 : W2.cell? ⟨w.heap.size + 1, 2, none⟩ = some (.int .i64 u1) := (cell_of_arr HY.out (j := 2) rfl).1
    have c3 : W2.cell? ⟨w.heap.size, 3, none⟩ = some (.string s0) := (cell_of_arr HX.out (j := 3) rfl).1
    have d3 : W2.cell? ⟨w.heap.size + 1, 3, none⟩ = some (.string s1) := (cell_of_arr HY.out (j := 3) rfl).1
    have c4 : W2.cell? ⟨w.heap.size, 4, none⟩ = some (.int .i64 x0) := (cell_of_arr HX.out (j := 4) rfl).1
    have d4 : W2.cell? ⟨w.heap.size + 1, 4, none⟩ = some (.int .i64 x1) := (cell_of_arr HY.out (j := 4) rfl).1
    have c5 : W2.cell? ⟨w.heap.size, 5, none⟩ = some (.int .i64 g0) := (cell_of_arr HX.out (j := 5) rfl).1
    have d5 : W2.cell? ⟨w.heap.size + 1, 5, none⟩ = some (.int .i64 g1) := (cell_of_arr HY.out (j := 5) rfl).1
    have hp := blk_lt HX.out
    have hq := blk_lt HY.out
    refine wp_region_below (by kernel_rfl) (by kernel_rfl) ?_
    repeat (first | (refine wq_val ?_ ?_; (focus (go_simp; done)); apply Exists.intro; refine ⟨fun w1 hw1 => ?_, ?_⟩; (obtain ⟨hc, hf⟩ := bcell hw1; clear hw1; go_simp; (first | done | with_reducible rfl | (with_reducible exact eql2 _ _ _) | (with_reducible exact neq2 _ _ _))); (try simp only [Act.put, List.setIfInBounds_toArray, List.set_cons_zero, List.set_cons_succ])) | (refine wq_skip ?_ ?_; (focus (go_simp; (first | done | (simp [undef]; done)))); (try simp only [Act.put, List.setIfInBounds_toArray, List.set_cons_zero, List.set_cons_succ])) | (refine wq_call 98 ?_ ?_; (focus (go_simp; done)); apply Exists.intro; refine ⟨fun w1 hw1 => ?_, ?_⟩; (focus (clear hw1; go_simp; (first | done | with_reducible rfl))); apply Exists.intro; refine ⟨fun w1 hw1 => ?_, ?_⟩; (focus (exact calls_below_same hw1 (by have h := abs_ven (x0 - x1) w1 (by omega) (by omega); rw [HMX.out] at h; exact h); done)); (try simp only [Act.put, List.setIfInBounds_toArray, List.set_cons_zero, List.set_cons_succ])) | (refine wq_call 99 ?_ ?_; (focus (go_simp; done)); apply Exists.intro; refine ⟨fun w1 hw1 => ?_, ?_⟩; (focus (clear hw1; go_simp; (first | done | with_reducible rfl))); apply Exists.intro; refine ⟨fun w1 hw1 => ?_, ?_⟩; (focus (exact calls_below_same hw1 (angle_impl g0 g1 w1 a4 (by omega) b4 (by omega)); done)); (try simp only [Act.put, List.setIfInBounds_toArray, List.set_cons_zero, List.set_cons_succ])))
    refine wq_nil ?_
    intro w3 hb
    replace HB := Lib.hid (bseq HB.out hb)
    replace HX := Lib.hid ((hb.block _ (blk_lt HX.out)).trans HX.out)
    replace HY := Lib.hid ((hb.block _ (blk_lt HY.out)).trans HY.out)
    clear hb
    clear hp hq c1 d1 c2 d2 c3 d3 c4 d4 c5 d5
    have c1 : w3.cell? ⟨w.heap.size, 1, none⟩ = some (.string f0) := (cell_of_arr HX.out (j := 1) rfl).1
    have d1 : w3.cell? ⟨w.heap.size + 1, 1, none⟩ = some (.string f1) := (cell_of_arr HY.out (j := 1) rfl).1
    have c2 : w3.cell? ⟨w.heap.size, 2, none⟩ = some (.int .i64 u0) := (cell_of_arr HX.out (j := 2) rfl).1
    have d2 : w3.cell? ⟨w.heap.size + 1, 2, none⟩ = some (.int .i64 u1) := (cell_of_arr HY.out (j := 2) rfl).1
    have c3 : w3.cell? ⟨w.heap.size, 3, none⟩ = some (.string s0) := (cell_of_arr HX.out (j := 3) rfl).1
    have d3 : w3.cell? ⟨w.heap.size + 1, 3, none⟩ = some (.string s1) := (cell_of_arr HY.out (j := 3) rfl).1
    have c4 : w3.cell? ⟨w.heap.size, 4, none⟩ = some (.int .i64 x0) := (cell_of_arr HX.out (j := 4) rfl).1
    have d4 : w3.cell? ⟨w.heap.size + 1, 4, none⟩ = some (.int .i64 x1) := (cell_of_arr HY.out (j := 4) rfl).1
    have c5 : w3.cell? ⟨w.heap.size, 5, none⟩ = some (.int .i64 g0) := (cell_of_arr HX.out (j := 5) rfl).1
    have d5 : w3.cell? ⟨w.heap.size + 1, 5, none⟩ = some (.int .i64 g1) := (cell_of_arr HY.out (j := 5) rfl).1
    have hp := blk_lt HX.out
    have hq := blk_lt HY.out
    go_wp2_with fail
    refine (abs_ven (u0 - u1) _ (by omega) (by omega)).mono ?_
    rintro e w4 ⟨rfl, rfl⟩
    rw [HMU.out]
    go_wp2
    go_ret
    exact ⟨rfl, HB.out⟩
  · have hg := ang_180 a4 (by omega : g0 ≤ 180) hm.1 (by omega : (mirG g1) ≤ 180)
    have e4 : IntKind.i64.wrap (3 * awy x0 x1 + angI g0 (mirG g1)) = 3 * awy x0 x1 + angI g0 (mirG g1) := IntWalk.i64_in _ (by omega)
    have e10 : IntKind.i64.wrap (3 * awy x0 x1 + angI g0 (mirG g1) + lesI 20 (awy u0 u1)) = 3 * awy x0 x1 + angI g0 (mirG g1) + lesI 20 (awy u0 u1) := IntWalk.i64_in _ (by omega)
    have HR := Lib.hid (show scI ⟨id0, f0, u0, (s0, x0, g0), W0, L0, D0⟩ ⟨id1, f1, u1, (s1, x1, g1), W1, L1, D1⟩ true = 3 * awy x0 x1 + angI g0 (mirG g1) + lesI 20 (awy u0 u1) by
      unfold scI scN scS scG; simp only [hf, hs, if_true, if_false, Bool.false_eq_true, Int.add_zero])
    have hs2 : (s0.toList != s1.toList) = false := by rw [bne, hs]; rfl
    rw [HR.out]
    go_enter Tryd.func65, Tryd.ntmps65
    go_wp2_with fail
    refine (mirrored_impl ⟨id1, f1, u1, (s1, x1, g1), W1, L1, D1⟩ ao' n' c' _ HN2.out HD.out).mono ?_
    rintro e w1 ⟨ao2, cc, rfl, ho, g1'⟩
    unfold lfW mirZ
    simp only
    have HG := Lib.hid (bseq HA.out g1')
    have HX1 := Lib.hid ((g1'.block _ (blk_lt HX.out)).trans HX.out)
    have HY1 := Lib.hid ((g1'.block _ (blk_lt HY.out)).trans HY.out)
    clear ho g1'
    obtain ⟨hxz, c0, f0', c1, f1', c2, f2', c3, f3', c4, f4', c5, f5', c6, f6', c7, f7', c8, f8'⟩ := cells9_of HY1.out
    have HB := Lib.hid (bel9 (x0 := .string id1) (x1 := .string f1) (x2 := .int .i64 u1) (x3 := .string s1) (x4 := .int .i64 x1) (x5 := .int .i64 (mirG g1)) (x6 := .int .i64 W1) (x7 := .int .i64 L1) (x8 := .slice ao2 D1.length cc) (p := w.heap.size + 1) HG.out (by omega))
    have HX2 := Lib.hid (keep_blk9 (x0 := .string id1) (x1 := .string f1) (x2 := .int .i64 u1) (x3 := .string s1) (x4 := .int .i64 x1) (x5 := .int .i64 (mirG g1)) (x6 := .int .i64 W1) (x7 := .int .i64 L1) (x8 := .slice ao2 D1.length cc) (p := w.heap.size + 1) HX1.out (by omega))
    have HY2 := Lib.hid (st9 (x0 := .string id1) (x1 := .string f1) (x2 := .int .i64 u1) (x3 := .string s1) (x4 := .int .i64 x1) (x5 := .int .i64 (mirG g1)) (x6 := .int .i64 W1) (x7 := .int .i64 L1) (x8 := .slice ao2 D1.length cc) HY1.out)
    go_wp2
    clear HX HY HX1 HY1 HG HA hxz c0 f0' c1 f1' c2 f2' c3 f3' c4 f4' c5 f5' c6 f6' c7 f7' c8 f8'
    generalize World.setCell _ _ _ = W2 at *
    have HX := HX2
    have HY := HY2
    clear HX2 HY2
    have c1 : W2.cell? ⟨w.heap.size, 1, none⟩ = some (.string f0) := (cell_of_arr HX.out (j := 1) rfl).1
    have d1 : W2.cell? ⟨w.heap.size + 1, 1, none⟩ = some (.string f1) := (cell_of_arr HY.out (j := 1) rfl).1
    have c2 : W2.cell? ⟨w.heap.size, 2, none⟩ = some (.int .i64 u0) := (cell_of_arr HX.out (j := 2) rfl).1
    have d2 : W2.cell? ⟨w.heap.size + 1, 2, none⟩ = some (.int .i64 u1) := (cell_of_arr HY.out (j := 2) rfl).1
    have c3 : W2.cell? ⟨w.heap.size, 3, none⟩ = some (.string s0) := (cell_of_arr HX.out (j := 3) rfl).1
    have d3 : W2.cell? ⟨w.heap.size + 1, 3, none⟩ = some (.string s1) := (cell_of_arr HY.out (j := 3) rfl).1
    have c4 : W2.cell? ⟨w.heap.size, 4, none⟩ = some (.int .i64 x0) := (cell_of_arr HX.out (j := 4) rfl).1
    have d4 : W2.cell? ⟨w.heap.size + 1, 4, none⟩ = some (.int .i64 x1) := (cell_of_arr HY.out (j := 4) rfl).1
    have c5 : W2.cell? ⟨w.heap.size, 5, none⟩ = some (.int .i64 g0) := (cell_of_arr HX.out (j := 5) rfl).1
    have d5 : W2.cell? ⟨w.heap.size + 1, 5, none⟩ = some (.int .i64 (mirG g1)) := (cell_of_arr HY.out (j := 5) rfl).1
    have hp := blk_lt HX.out
    have hq := blk_lt HY.out
    refine wp_region_below (by kernel_rfl) (by kernel_rfl) ?_
    repeat (first | (refine wq_val ?_ ?_; (focus (go_simp; done)); apply Exists.intro; refine ⟨fun w1 hw1 => ?_, ?_⟩; (obtain ⟨hc, hf⟩ := bcell hw1; clear hw1; go_simp; (first | done | with_reducible rfl | (with_reducible exact eql2 _ _ _) | (with_reducible exact neq2 _ _ _))); (try simp only [Act.put, List.setIfInBounds_toArray, List.set_cons_zero, List.set_cons_succ])) | (refine wq_skip ?_ ?_; (focus (go_simp; (first | done | (simp [undef]; done)))); (try simp only [Act.put, List.setIfInBounds_toArray, List.set_cons_zero, List.set_cons_succ])) | (refine wq_call 98 ?_ ?_; (focus (go_simp; done)); apply Exists.intro; refine ⟨fun w1 hw1 => ?_, ?_⟩; (focus (clear hw1; go_simp; (first | done | with_reducible rfl))); apply Exists.intro; refine ⟨fun w1 hw1 => ?_, ?_⟩; (focus (exact calls_below_same hw1 (by have h := abs_ven (x0 - x1) w1 (by omega) (by omega); rw [HMX.out] at h; exact h); done)); (try simp only [Act.put, List.setIfInBounds_toArray, List.set_cons_zero, List.set_cons_succ])) | (refine wq_call 99 ?_ ?_; (focus (go_simp; done)); apply Exists.intro; refine ⟨fun w1 hw1 => ?_, ?_⟩; (focus (clear hw1; go_simp; (first | done | with_reducible rfl))); apply Exists.intro; refine ⟨fun w1 hw1 => ?_, ?_⟩; (focus (exact calls_below_same hw1 (angle_impl g0 (mirG g1) w1 a4 (by omega) hm.1 (by omega)); done)); (try simp only [Act.put, List.setIfInBounds_toArray, List.set_cons_zero, List.set_cons_succ])))
    refine wq_nil ?_
    intro w3 hb
    replace HB := Lib.hid (bseq HB.out hb)
    replace HX := Lib.hid ((hb.block _ (blk_lt HX.out)).trans HX.out)
    replace HY := Lib.hid ((hb.block _ (blk_lt HY.out)).trans HY.out)
    clear hb
    clear hp hq c1 d1 c2 d2 c3 d3 c4 d4 c5 d5
    have c1 : w3.cell? ⟨w.heap.size, 1, none⟩ = some (.string f0) := (cell_of_arr HX.out (j := 1) rfl).1
    have d1 : w3.cell? ⟨w.heap.size + 1, 1, none⟩ = some (.string f1) := (cell_of_arr HY.out (j := 1) rfl).1
    have c2 : w3.cell? ⟨w.heap.size, 2, none⟩ = some (.int .i64 u0) := (cell_of_arr HX.out (j := 2) rfl).1
    have d2 : w3.cell? ⟨w.heap.size + 1, 2, none⟩ = some (.int .i64 u1) := (cell_of_arr HY.out (j := 2) rfl).1
    have c3 : w3.cell? ⟨w.heap.size, 3, none⟩ = some (.string s0) := (cell_of_arr HX.out (j := 3) rfl).1
    have d3 : w3.cell? ⟨w.heap.size + 1, 3, none⟩ = some (.string s1) := (cell_of_arr HY.out (j := 3) rfl).1
    have c4 : w3.cell? ⟨w.heap.size, 4, none⟩ = some (.int .i64 x0) := (cell_of_arr HX.out (j := 4) rfl).1
    have d4 : w3.cell? ⟨w.heap.size + 1, 4, none⟩ = some (.int .i64 x1) := (cell_of_arr HY.out (j := 4) rfl).1
    have c5 : w3.cell? ⟨w.heap.size, 5, none⟩ = some (.int .i64 g0) := (cell_of_arr HX.out (j := 5) rfl).1
    have d5 : w3.cell? ⟨w.heap.size + 1, 5, none⟩ = some (.int .i64 (mirG g1)) := (cell_of_arr HY.out (j := 5) rfl).1
    have hp := blk_lt HX.out
    have hq := blk_lt HY.out
    go_wp2_with fail
    refine (abs_ven (u0 - u1) _ (by omega) (by omega)).mono ?_
    rintro e w4 ⟨rfl, rfl⟩
    rw [HMU.out]
    go_wp2
    go_ret
    exact ⟨rfl, HB.out⟩
def msR (z y : Lf) (bk : Bool) : Int × Int := if lfB z then (if lfB y then (scI z y bk, 0) else (0, 1)) else (0, 1)
set_option maxRecDepth 100000 in
set_option maxHeartbeats 4000000 in
theorem ms_impl (u v : Value) (z y : Lf) (bk : Bool) (w : World) (ha : LfV w u z) (hb : LfV w v y) (ht : TabAt w) :
    Calls Tryd.prog 22 #[u, v, .bool bk] w fun e w' => e = .returned (.tuple #[.int .i64 ((msR z y bk).1), .int .i64 ((msR z y bk).2)]) ∧ Below w.heap.size w w' := by
  have HVA := Lib.hid (ha.below (two_allocs (.cells u.cells 33) (.cells v.cells 33)))
  have HVB := Lib.hid (hb.below (two_allocs (.cells u.cells 33) (.cells v.cells 33)))
  have HT := Lib.hid (ht.below (two_allocs (.cells u.cells 33) (.cells v.cells 33)))
  have HA := Lib.hid (two_allocs (w := w) (.cells u.cells 33) (.cells v.cells 33))
  have HX := Lib.hid ((Below.heap_alloc (w.alloc (.cells u.cells 33)) (.cells v.cells 33) w.heap.size (by simp)).trans (World.alloc_heap_new w (.cells u.cells 33)))
  have hy := World.alloc_heap_new (w.alloc (.cells u.cells 33)) (.cells v.cells 33)
  rw [show (w.alloc (.cells u.cells 33)).heap.size = w.heap.size + 1 by simp] at hy
  have HY := Lib.hid hy
  obtain ⟨ao, n, c, rfl, h00, h01, h02, h03, h04, h05, h06, h07, h08⟩ := ha.out
  obtain ⟨ao', n', c', rfl, h10, h11, h12, h13, h14, h15, h16, h17, hd⟩ := hb.out
  clear ha hb h00 h01 h02 h03 h04 h05 h06 h07 h08 h10 h11 h12 h13 h14 h15 h16 h17 hd hy ht
  simp only [Value.cells] at HX HY HA HVA HVB HT
  cases hz : lfB z with
  | false =>
    have HR := Lib.hid (show msR z y bk = (0, 1) by unfold msR; rw [hz]; rfl)
    rw [HR.out]
    go_enter Tryd.func22, Tryd.ntmps22
    go_wp2_with fail
    refine (validL_impl _ z _ HVA.out HT.out).mono ?_
    rintro e w1 ⟨rfl, g1⟩
    have HG := Lib.hid (bseq HA.out g1)
    clear g1
    rw [hz]
    go_wp2
    go_ret2
    exact ⟨rfl, HG.out⟩
  | true =>
    have HZ := Lib.hid hz
    cases hy : lfB y with
    | false =>
      have HR := Lib.hid (show msR z y bk = (0, 1) by unfold msR; rw [hz, hy]; rfl)
      rw [HR.out]
      go_enter Tryd.func22, Tryd.ntmps22
      go_wp2_with fail
      refine (validL_impl _ z _ HVA.out HT.out).mono ?_
      rintro e w1 ⟨rfl, g1⟩
      have HG := Lib.hid (bseq HA.out g1)
      have HVB1 := Lib.hid (HVB.out.below g1)
      have HT1 := Lib.hid (HT.out.below g1)
      have hY1 := (g1.block _ (blk_lt HY.out)).trans HY.out
      clear g1
      obtain ⟨hxz, d0, e0, d1, e1, d2, e2, d3, e3, d4, e4, d5, e5, d6, e6, d7, e7, d8, e8⟩ := cells9_of hY1
      clear hY1
      rw [hz]
      go_wp2_with fail
      refine (validL_impl _ y _ HVB1.out HT1.out).mono ?_
      rintro e w2 ⟨rfl, g2⟩
      have HG2 := Lib.hid (bseq HG.out g2)
      clear g2
      rw [hy]
      go_wp2
      go_ret2
      exact ⟨rfl, HG2.out⟩
    | true =>
      have HYY := Lib.hid hy
      have HR := Lib.hid (show msR z y bk = (scI z y bk, 0) by unfold msR; rw [hz, hy]; rfl)
      rw [HR.out]
      go_enter Tryd.func22, Tryd.ntmps22
      go_wp2_with fail
      refine (validL_impl _ z _ HVA.out HT.out).mono ?_
      rintro e w1 ⟨rfl, g1⟩
      have HG := Lib.hid (bseq HA.out g1)
      have HVA1 := Lib.hid (HVA.out.below g1)
      have HVB1 := Lib.hid (HVB.out.below g1)
      have HT1 := Lib.hid (HT.out.below g1)
      have HX1 := Lib.hid ((g1.block _ (blk_lt HX.out)).trans HX.out)
      have HY1 := Lib.hid ((g1.block _ (blk_lt HY.out)).trans HY.out)
      clear g1
      obtain ⟨hxz, d0, e0, d1, e1, d2, e2, d3, e3, d4, e4, d5, e5, d6, e6, d7, e7, d8, e8⟩ := cells9_of HY1.out
      rw [hz]
      go_wp2_with fail
      refine (validL_impl _ y _ HVB1.out HT1.out).mono ?_
      rintro e w2 ⟨rfl, g2⟩
      have HG2 := Lib.hid (bseq HG.out g2)
      have HVA2 := Lib.hid (HVA1.out.below g2)
      have HVB2 := Lib.hid (HVB1.out.below g2)
      have HX2 := Lib.hid ((g2.block _ (blk_lt HX1.out)).trans HX1.out)
      have HY2 := Lib.hid ((g2.block _ (blk_lt HY1.out)).trans HY1.out)
      clear g2 hxz d0 e0 d1 e1 d2 e2 d3 e3 d4 e4 d5 e5 d6 e6 d7 e7 d8 e8
      rw [hy]
      obtain ⟨hxz, d0, e0, d1, e1, d2, e2, d3, e3, d4, e4, d5, e5, d6, e6, d7, e7, d8, e8⟩ := cells9_of HX2.out
      obtain ⟨hyz, b0, k0, b1, k1, b2, k2, b3, k3, b4, k4, b5, k5, b6, k6, b7, k7, b8, k8⟩ := cells9_of HY2.out
      go_wp2_with fail
      refine (score_impl _ _ z y bk _ HVA2.out HVB2.out HZ.out HYY.out).mono ?_
      rintro e w3 ⟨rfl, g3⟩
      have HG3 := Lib.hid (bseq HG2.out g3)
      clear g3
      go_wp2
      go_ret2
      exact ⟨rfl, HG3.out⟩
set_option maxRecDepth 100000 in
set_option maxHeartbeats 4000000 in
theorem ms_spec (u v : Value) (z y : Lf) (bk : Bool) (w : World) (ha : LfV w u z) (hb : LfV w v y) :
    Calls Tryd.prog 21 #[u, v, .bool bk] w fun e w' => e = .returned (.tuple #[.int .i64 ((msR z y bk).1), .int .i64 ((msR z y bk).2)]) ∧ Below w.heap.size w w' := by
  have HVA := Lib.hid (ha.below (two_allocs (.cells u.cells 33) (.cells v.cells 33)))
  have HVB := Lib.hid (hb.below (two_allocs (.cells u.cells 33) (.cells v.cells 33)))
  have HA := Lib.hid (two_allocs (w := w) (.cells u.cells 33) (.cells v.cells 33))
  have HLA := Lib.hid (show LfAt ((w.alloc (.cells u.cells 33)).alloc (.cells v.cells 33)) w.heap.size 0 z from ⟨u, ha.below (two_allocs _ _), (AtV.box w u _).below (one_alloc _)⟩)
  have HLB := Lib.hid (show LfAt ((w.alloc (.cells u.cells 33)).alloc (.cells v.cells 33)) (w.alloc (.cells u.cells 33)).heap.size 0 y from ⟨v, hb.below (two_allocs _ _), AtV.box _ v _⟩)
  rw [show (w.alloc (.cells u.cells 33)).heap.size = w.heap.size + 1 by simp] at HLB
  have hy := World.alloc_heap_new (w.alloc (.cells u.cells 33)) (.cells v.cells 33)
  rw [show (w.alloc (.cells u.cells 33)).heap.size = w.heap.size + 1 by simp] at hy
  have HY := Lib.hid hy
  obtain ⟨ao, n, c, rfl, h00, h01, h02, h03, h04, h05, h06, h07, h08⟩ := ha.out
  obtain ⟨ao', n', c', rfl, h10, h11, h12, h13, h14, h15, h16, h17, hd⟩ := hb.out
  clear ha hb h00 h01 h02 h03 h04 h05 h06 h07 h08 h10 h11 h12 h13 h14 h15 h16 h17 hd hy
  simp only [Value.cells] at HY HA HVA HVB HLA HLB
  cases hz : lfB z with
  | false =>
    have HR := Lib.hid (show msR z y bk = (0, 1) by unfold msR; rw [hz]; rfl)
    rw [HR.out]
    go_enter Tryd.func21, Tryd.ntmps21
    go_wp2_with fail
    refine (validL_spec _ z _ HVA.out).mono ?_
    rintro e w1 ⟨rfl, g1⟩
    have HG := Lib.hid (bseq HA.out g1)
    clear g1
    rw [hz]
    go_wp2
    go_ret2
    exact ⟨rfl, HG.out⟩
  | true =>
    have HZ := Lib.hid (lfN_of hz)
    cases hy : lfB y with
    | false =>
      have HR := Lib.hid (show msR z y bk = (0, 1) by unfold msR; rw [hz, hy]; rfl)
      rw [HR.out]
      go_enter Tryd.func21, Tryd.ntmps21
      go_wp2_with fail
      refine (validL_spec _ z _ HVA.out).mono ?_
      rintro e w1 ⟨rfl, g1⟩
      have HG := Lib.hid (bseq HA.out g1)
      have HVB1 := Lib.hid (HVB.out.below g1)
      have hY1 := (g1.block _ (blk_lt HY.out)).trans HY.out
      clear g1
      obtain ⟨hxz, d0, e0, d1, e1, d2, e2, d3, e3, d4, e4, d5, e5, d6, e6, d7, e7, d8, e8⟩ := cells9_of hY1
      clear hY1
      rw [hz]
      go_wp2_with fail
      refine (validL_spec _ y _ HVB1.out).mono ?_
      rintro e w2 ⟨rfl, g2⟩
      have HG2 := Lib.hid (bseq HG.out g2)
      clear g2
      rw [hy]
      go_wp2
      go_ret2
      exact ⟨rfl, HG2.out⟩
    | true =>
      have HYY := Lib.hid (lfN_of hy)
      have HR := Lib.hid (show msR z y bk = (scI z y bk, 0) by unfold msR; rw [hz, hy]; rfl)
      rw [HR.out]
      go_enter Tryd.func21, Tryd.ntmps21
      go_wp2_with fail
      refine (validL_spec _ z _ HVA.out).mono ?_
      rintro e w1 ⟨rfl, g1⟩
      have HG := Lib.hid (bseq HA.out g1)
      have HVB1 := Lib.hid (HVB.out.below g1)
      have HLA1 := Lib.hid (HLA.out.below g1)
      have HLB1 := Lib.hid (HLB.out.below g1)
      have hY1 := (g1.block _ (blk_lt HY.out)).trans HY.out
      clear g1
      obtain ⟨hxz, d0, e0, d1, e1, d2, e2, d3, e3, d4, e4, d5, e5, d6, e6, d7, e7, d8, e8⟩ := cells9_of hY1
      clear hY1
      rw [hz]
      go_wp2_with fail
      refine (validL_spec _ y _ HVB1.out).mono ?_
      rintro e w2 ⟨rfl, g2⟩
      have HG2 := Lib.hid (bseq HG.out g2)
      have HLA2 := Lib.hid (HLA1.out.below g2)
      have HLB2 := Lib.hid (HLB1.out.below g2)
      clear g2
      rw [hy]
      go_wp2_with fail
      refine (score_spec _ _ _ _ z y bk _ HLA2.out HLB2.out HZ.out HYY.out).mono ?_
      rintro e w3 ⟨rfl, g3⟩
      have HG3 := Lib.hid (bseq HG2.out g3)
      clear g3
      go_wp2
      go_ret2
      exact ⟨rfl, HG3.out⟩
end Go.Proofs.YtcjpplijbdfgbaaDoor
