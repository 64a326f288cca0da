/- Do two boxes meet: spec and impl. -/
import Derived.Test.YtonpenccppcgjaaLea1
import Derived.Test.YtonpenccppcgjaaFlBox
namespace Go.Proofs.Ytonpenccppcgjaa
open Seq2 Go.ChangeShapes Go.WideShapes Go.ChangeAt Go.RowKit
set_option linter.unusedVariables false
set_option linter.unusedSimpArgs false

def bmB (z z' : Bx) : Bool := boxW z 20000 20000 && (boxW z' 20000 20000 && metB z z')
theorem BxAt.box (w : World) (x y a b : Int) (t : TypeId) : BxAt (w.alloc (.cells #[.int .i64 x, .int .i64 y, .int .i64 a, .int .i64 b] t)) w.heap.size 0 (x, y, a, b) := by
  have h := World.alloc_heap_new w (.cells #[.int .i64 x, .int .i64 y, .int .i64 a, .int .i64 b] t)
  exact ⟨blk_lt h, (cell_of_arr h (j := 0) rfl).1, (cell_of_arr h (j := 1) rfl).1, (cell_of_arr h (j := 2) rfl).1, (cell_of_arr h (j := 3) rfl).1⟩
set_option maxRecDepth 100000 in
set_option maxHeartbeats 4000000 in
theorem bm_spec (x y a b x' y' a' b' : Int) (w : World) :
    Calls Try.prog 5 #[.agg #[.int .i64 x, .int .i64 y, .int .i64 a, .int .i64 b], .agg #[.int .i64 x', .int .i64 y', .int .i64 a', .int .i64 b']] w fun e w' => e = .returned (.bool (bmB (x, y, a, b) (x', y', a', b'))) ∧ Below w.heap.size w w' := by
  have HA := Lib.hid (two_allocs (w := w) (.cells #[.int .i64 x, .int .i64 y, .int .i64 a, .int .i64 b] 25) (.cells #[.int .i64 x', .int .i64 y', .int .i64 a', .int .i64 b'] 25))
  have H0 := Lib.hid ((BxAt.box w x y a b 25).below (one_alloc (.cells #[.int .i64 x', .int .i64 y', .int .i64 a', .int .i64 b'] 25)))
  have h1 := BxAt.box (w.alloc (.cells #[.int .i64 x, .int .i64 y, .int .i64 a, .int .i64 b] 25)) x' y' a' b' 25
  rw [show (w.alloc (.cells #[.int .i64 x, .int .i64 y, .int .i64 a, .int .i64 b] 25)).heap.size = w.heap.size + 1 by simp] at h1
  have H1 := Lib.hid h1
  clear h1
  by_cases h1 : boxW (x, y, a, b) 20000 20000 = true
  rotate_left
  · skip
    try simp only [Bool.not_eq_true] at h1
    have HR := Lib.hid (show bmB (x, y, a, b) (x', y', a', b') = false by unfold bmB; simp only [*, Bool.false_and, Bool.and_false, Bool.and_true, Bool.true_and])
    rw [HR.out]
    go_enter Try.func5, Try.ntmps5
    go_wp2_with fail
    refine (box_spec w.heap.size 0 _ 20000 20000 _ H0.out (by omega) (by omega)).mono ?_
    rintro e w1 ⟨rfl, g1⟩
    rw [h1]
    have HG := Lib.hid (bseq HA.out g1)
    clear g1
    go_wp2
    go_ret
    exact ⟨rfl, HG.out⟩
  by_cases h2 : boxW (x', y', a', b') 20000 20000 = true
  rotate_left
  · skip
    try simp only [Bool.not_eq_true] at h2
    have HR := Lib.hid (show bmB (x, y, a, b) (x', y', a', b') = false by unfold bmB; simp only [*, Bool.false_and, Bool.and_false, Bool.and_true, Bool.true_and])
    rw [HR.out]
    go_enter Try.func5, Try.ntmps5
    go_wp2_with fail
    refine (box_spec w.heap.size 0 _ 20000 20000 _ H0.out (by omega) (by omega)).mono ?_
    rintro e w1 ⟨rfl, g1⟩
    rw [h1]
    have HG := Lib.hid (bseq HA.out g1)
    have H10 := Lib.hid (H0.out.below g1)
    have H11 := Lib.hid (H1.out.below g1)
    clear g1
    go_wp2_with fail
    refine (box_spec (w.heap.size + 1) 0 _ 20000 20000 _ H11.out (by omega) (by omega)).mono ?_
    rintro e w2 ⟨rfl, g2⟩
    rw [h2]
    have HG2 := Lib.hid (bseq HG.out g2)
    clear g2
    go_wp2
    go_ret
    exact ⟨rfl, HG2.out⟩
  by_cases h3 : metB (x, y, a, b) (x', y', a', b') = true
  rotate_left
  · skip
    try simp only [Bool.not_eq_true] at h3
    have HR := Lib.hid (show bmB (x, y, a, b) (x', y', a', b') = false by unfold bmB; simp only [*, Bool.false_and, Bool.and_false, Bool.and_true, Bool.true_and])
    rw [HR.out]
    go_enter Try.func5, Try.ntmps5
    go_wp2_with fail
    refine (box_spec w.heap.size 0 _ 20000 20000 _ H0.out (by omega) (by omega)).mono ?_
    rintro e w1 ⟨rfl, g1⟩
    rw [h1]
    have HG := Lib.hid (bseq HA.out g1)
    have H10 := Lib.hid (H0.out.below g1)
    have H11 := Lib.hid (H1.out.below g1)
    clear g1
    go_wp2_with fail
    refine (box_spec (w.heap.size + 1) 0 _ 20000 20000 _ H11.out (by omega) (by omega)).mono ?_
    rintro e w2 ⟨rfl, g2⟩
    rw [h2]
    have HG2 := Lib.hid (bseq HG.out g2)
    have H20 := Lib.hid (H10.out.below g2)
    have H21 := Lib.hid (H11.out.below g2)
    clear g2
    go_wp2_with fail
    refine (bxm_spec w.heap.size 0 (w.heap.size + 1) 0 _ _ _ H20.out H21.out (bxS_of h1 (by omega) (by omega)) (bxS_of h2 (by omega) (by omega))).mono ?_
    rintro e w3 ⟨rfl, g3⟩
    rw [h3]
    have HG3 := Lib.hid (bseq HG2.out g3)
    clear g3
    go_wp2
    go_ret
    exact ⟨rfl, HG3.out⟩
  try simp only [Bool.not_eq_true] at h4
  have HR := Lib.hid (show bmB (x, y, a, b) (x', y', a', b') = true by unfold bmB; simp only [*, Bool.false_and, Bool.and_false, Bool.and_true, Bool.true_and])
  rw [HR.out]
  go_enter Try.func5, Try.ntmps5
  go_wp2_with fail
  refine (box_spec w.heap.size 0 _ 20000 20000 _ H0.out (by omega) (by omega)).mono ?_
  rintro e w1 ⟨rfl, g1⟩
  rw [h1]
  have HG := Lib.hid (bseq HA.out g1)
  have H10 := Lib.hid (H0.out.below g1)
  have H11 := Lib.hid (H1.out.below g1)
  clear g1
  go_wp2_with fail
  refine (box_spec (w.heap.size + 1) 0 _ 20000 20000 _ H11.out (by omega) (by omega)).mono ?_
  rintro e w2 ⟨rfl, g2⟩
  rw [h2]
  have HG2 := Lib.hid (bseq HG.out g2)
  have H20 := Lib.hid (H10.out.below g2)
  have H21 := Lib.hid (H11.out.below g2)
  clear g2
  go_wp2_with fail
  refine (bxm_spec w.heap.size 0 (w.heap.size + 1) 0 _ _ _ H20.out H21.out (bxS_of h1 (by omega) (by omega)) (bxS_of h2 (by omega) (by omega))).mono ?_
  rintro e w3 ⟨rfl, g3⟩
  rw [h3]
  have HG3 := Lib.hid (bseq HG2.out g3)
  clear g3
  go_wp2
  go_ret
  exact ⟨rfl, HG3.out⟩
set_option maxRecDepth 100000 in
set_option maxHeartbeats 4000000 in
theorem bm_impl (x y a b x' y' a' b' : Int) (w : World) :
    Calls Try.prog 7 #[.agg #[.int .i64 x, .int .i64 y, .int .i64 a, .int .i64 b], .agg #[.int .i64 x', .int .i64 y', .int .i64 a', .int .i64 b']] w fun e w' => e = .returned (.bool (bmB (x, y, a, b) (x', y', a', b'))) ∧ Below w.heap.size w w' := by
  have HA := Lib.hid (two_allocs (w := w) (.cells #[.int .i64 x, .int .i64 y, .int .i64 a, .int .i64 b] 25) (.cells #[.int .i64 x', .int .i64 y', .int .i64 a', .int .i64 b'] 25))
  have H0 := Lib.hid ((BxAt.box w x y a b 25).below (one_alloc (.cells #[.int .i64 x', .int .i64 y', .int .i64 a', .int .i64 b'] 25)))
  have h1 := BxAt.box (w.alloc (.cells #[.int .i64 x, .int .i64 y, .int .i64 a, .int .i64 b] 25)) x' y' a' b' 25
  rw [show (w.alloc (.cells #[.int .i64 x, .int .i64 y, .int .i64 a, .int .i64 b] 25)).heap.size = w.heap.size + 1 by simp] at h1
  have H1 := Lib.hid h1
  clear h1
  by_cases h1 : boxW (x, y, a, b) 20000 20000 = true
  rotate_left
  · skip
    try simp only [Bool.not_eq_true] at h1
    have HR := Lib.hid (show bmB (x, y, a, b) (x', y', a', b') = false by unfold bmB; simp only [*, Bool.false_and, Bool.and_false, Bool.and_true, Bool.true_and])
    rw [HR.out]
    go_enter Try.func7, Try.ntmps7
    go_wp2_with fail
    refine (within_impl x y a b 20000 20000 _ (by omega) (by omega)).mono ?_
    rintro e w1 ⟨rfl, g1⟩
    rw [h1]
    have HG := Lib.hid (bseq HA.out g1)
    clear g1
    go_wp2
    go_ret
    exact ⟨rfl, HG.out⟩
  by_cases h2 : boxW (x', y', a', b') 20000 20000 = true
  rotate_left
  · skip
    try simp only [Bool.not_eq_true] at h2
    have HR := Lib.hid (show bmB (x, y, a, b) (x', y', a', b') = false by unfold bmB; simp only [*, Bool.false_and, Bool.and_false, Bool.and_true, Bool.true_and])
    rw [HR.out]
    go_enter Try.func7, Try.ntmps7
    go_wp2_with fail
    refine (within_impl x y a b 20000 20000 _ (by omega) (by omega)).mono ?_
    rintro e w1 ⟨rfl, g1⟩
    rw [h1]
    have HG := Lib.hid (bseq HA.out g1)
    have H10 := Lib.hid (H0.out.below g1)
    have H11 := Lib.hid (H1.out.below g1)
    clear g1
    obtain ⟨hq, d0, d1, d2, d3⟩ := H11.out
    simp only at d0 d1 d2 d3
    go_wp2_with fail
    refine (within_impl x' y' a' b' 20000 20000 _ (by omega) (by omega)).mono ?_
    rintro e w2 ⟨rfl, g2⟩
    rw [h2]
    have HG2 := Lib.hid (bseq HG.out g2)
    clear g2 hq d0 d1 d2 d3
    go_wp2
    go_ret
    exact ⟨rfl, HG2.out⟩
  by_cases h3 : metB (x, y, a, b) (x', y', a', b') = true
  rotate_left
  · skip
    try simp only [Bool.not_eq_true] at h3
    have HR := Lib.hid (show bmB (x, y, a, b) (x', y', a', b') = false by unfold bmB; simp only [*, Bool.false_and, Bool.and_false, Bool.and_true, Bool.true_and])
    rw [HR.out]
    go_enter Try.func7, Try.ntmps7
    go_wp2_with fail
    refine (within_impl x y a b 20000 20000 _ (by omega) (by omega)).mono ?_
    rintro e w1 ⟨rfl, g1⟩
    rw [h1]
    have HG := Lib.hid (bseq HA.out g1)
    have H10 := Lib.hid (H0.out.below g1)
    have H11 := Lib.hid (H1.out.below g1)
    clear g1
    obtain ⟨hq, d0, d1, d2, d3⟩ := H11.out
    simp only at d0 d1 d2 d3
    go_wp2_with fail
    refine (within_impl x' y' a' b' 20000 20000 _ (by omega) (by omega)).mono ?_
    rintro e w2 ⟨rfl, g2⟩
    rw [h2]
    have HG2 := Lib.hid (bseq HG.out g2)
    have H20 := Lib.hid (H10.out.below g2)
    have H21 := Lib.hid (H11.out.below g2)
    clear g2 hq d0 d1 d2 d3
    obtain ⟨hp, c0, c1, c2, c3⟩ := H20.out
    obtain ⟨hq, d0, d1, d2, d3⟩ := H21.out
    simp only at c0 c1 c2 c3 d0 d1 d2 d3
    go_wp2_with fail
    refine (meets_impl x y a b x' y' a' b' _ (bxS_of h1 (by omega) (by omega)) (bxS_of h2 (by omega) (by omega))).mono ?_
    rintro e w3 ⟨rfl, g3⟩
    rw [h3]
    have HG3 := Lib.hid (bseq HG2.out g3)
    clear g3
    go_wp2
    go_ret
    exact ⟨rfl, HG3.out⟩
  try simp only [Bool.not_eq_true] at h4
  have HR := Lib.hid (show bmB (x, y, a, b) (x', y', a', b') = true by unfold bmB; simp only [*, Bool.false_and, Bool.and_false, Bool.and_true, Bool.true_and])
  rw [HR.out]
  go_enter Try.func7, Try.ntmps7
  go_wp2_with fail
  refine (within_impl x y a b 20000 20000 _ (by omega) (by omega)).mono ?_
  rintro e w1 ⟨rfl, g1⟩
  rw [h1]
  have HG := Lib.hid (bseq HA.out g1)
  have H10 := Lib.hid (H0.out.below g1)
  have H11 := Lib.hid (H1.out.below g1)
  clear g1
  obtain ⟨hq, d0, d1, d2, d3⟩ := H11.out
  simp only at d0 d1 d2 d3
  go_wp2_with fail
  refine (within_impl x' y' a' b' 20000 20000 _ (by omega) (by omega)).mono ?_
  rintro e w2 ⟨rfl, g2⟩
  rw [h2]
  have HG2 := Lib.hid (bseq HG.out g2)
  have H20 := Lib.hid (H10.out.below g2)
  have H21 := Lib.hid (H11.out.below g2)
  clear g2 hq d0 d1 d2 d3
  obtain ⟨hp, c0, c1, c2, c3⟩ := H20.out
  obtain ⟨hq, d0, d1, d2, d3⟩ := H21.out
  simp only at c0 c1 c2 c3 d0 d1 d2 d3
  go_wp2_with fail
  refine (meets_impl x y a b x' y' a' b' _ (bxS_of h1 (by omega) (by omega)) (bxS_of h2 (by omega) (by omega))).mono ?_
  rintro e w3 ⟨rfl, g3⟩
  rw [h3]
  have HG3 := Lib.hid (bseq HG2.out g3)
  clear g3
  go_wp2
  go_ret
  exact ⟨rfl, HG3.out⟩
/-- A box that came in. -/
theorem open_Bx {H : Type} {enc : TypeId × Value → H} {W : World} {base : Nat} {v : Value} {d : DataW H} {p : List MemPlace} (hval : Value.okWide Try.prog W .any base 23 v)
    (h : DataW.Trod enc Try.prog W 0 (fun _ => true) true 23 v d p) : ∃ x y a b : Int, v = .agg #[.int .i64 x, .int .i64 y, .int .i64 a, .int .i64 b] := by
  obtain ⟨cs, rfl, hcs⟩ := okWide_struct Try.underlying23 hval
  obtain ⟨fuel, hf0⟩ := h
  obtain ⟨l, rfl⟩ : ∃ l : List Value, cs = l.toArray := ⟨cs.toList, by simp⟩
  obtain ⟨z, e⟩ := Bx_cells hf0
  have e' : l = [.int .i64 z.1, .int .i64 z.2.1, .int .i64 z.2.2.1, .int .i64 z.2.2.2] := by simpa [Value.cells] using e
  subst e'
  exact ⟨_, _, _, _, rfl⟩
end Go.Proofs.Ytonpenccppcgjaa
