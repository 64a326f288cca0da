/- Boxes: do they lie within a size, do they meet: spec and impl. -/
import Derived.Test.YthocpiklbcahgaaDoorTyBox
import Derived.Test.YthocpiklbcahgaaDoorK1
import Derived.Test.YthocpiklbcahgaaDoorSeq3
import Derived.Test.YthocpiklbcahgaaDoorDrw9
namespace Go.Proofs.YthocpiklbcahgaaDoor
open Seq2 Go.ChangeShapes Go.WideShapes Go.ChangeAt Go.RowKit
set_option linter.unusedVariables false
set_option linter.unusedSimpArgs false

theorem inIb {a lo hi : Int} : inI a lo hi = true ↔ lo ≤ a ∧ a ≤ hi := by unfold inI; simp
def boxW (z : Bx) (W L : Int) : Bool := inI z.1 0 W && (inI z.2.1 0 L && (inI z.2.2.1 1 (W - z.1) && inI z.2.2.2 1 (L - z.2.1)))
theorem boxW_iff {z : Bx} {W L : Int} : boxW z W L = true ↔ 0 ≤ z.1 ∧ z.1 ≤ W ∧ 0 ≤ z.2.1 ∧ z.2.1 ≤ L ∧ 1 ≤ z.2.2.1 ∧ z.2.2.1 ≤ W - z.1 ∧ 1 ≤ z.2.2.2 ∧ z.2.2.2 ≤ L - z.2.1 := by
  simp only [boxW, inI, Bool.and_eq_true, decide_eq_true_eq, and_assoc]
def metB (a b : Bx) : Bool := decide (a.1 < b.1 + b.2.2.1) && (decide (b.1 < a.1 + a.2.2.1) && (decide (a.2.1 < b.2.1 + b.2.2.2) && decide (b.2.1 < a.2.1 + a.2.2.2)))
theorem metB_iff {a b : Bx} : metB a b = true ↔ a.1 < b.1 + b.2.2.1 ∧ b.1 < a.1 + a.2.2.1 ∧ a.2.1 < b.2.1 + b.2.2.2 ∧ b.2.1 < a.2.1 + a.2.2.2 := by
  simp only [metB, Bool.and_eq_true, decide_eq_true_eq]
/-- The numbers of a box are small. -/
def bxS (z : Bx) : Prop := -20000 ≤ z.1 ∧ z.1 ≤ 40000 ∧ -20000 ≤ z.2.1 ∧ z.2.1 ≤ 40000 ∧ -40000 ≤ z.2.2.1 ∧ z.2.2.1 ≤ 40000 ∧ -40000 ≤ z.2.2.2 ∧ z.2.2.2 ≤ 40000
theorem bxS_of {z : Bx} {W L : Int} (h : boxW z W L = true) (hW : W ≤ 20000) (hL : L ≤ 20000) : bxS z := by
  have := boxW_iff.1 h
  unfold bxS; omega
set_option maxRecDepth 100000 in
set_option maxHeartbeats 4000000 in
theorem within_impl (x y a b W L : Int) (w : World) (hW : 0 ≤ W ∧ W ≤ 20000) (hL : 0 ≤ L ∧ L ≤ 20000) :
    Calls Tryd.prog 99 #[.agg #[.int .i64 x, .int .i64 y, .int .i64 a, .int .i64 b], .int .i64 W, .int .i64 L] w fun e w' => e = .returned (.bool (boxW (x, y, a, b) W L)) ∧ Below w.heap.size w w' := by
  by_cases h1 : 0 ≤ x
  rotate_left
  · skip
    have HR := Lib.hid (show boxW (x, y, a, b) W L = false by first | exact boxW_iff.2 (by simp only; omega) | exact Bool.eq_false_iff.2 (fun h => by have := boxW_iff.1 h; simp only at this; omega))
    try have i1 : IntKind.i64.wrap (W - x) = W - x := IntWalk.i64_in _ (by omega)
    try have i2 : IntKind.i64.wrap (L - y) = L - y := IntWalk.i64_in _ (by omega)
    clear hW hL
    rw [HR.out]
    go_enter Tryd.func99, Tryd.ntmps99
    go_wp2
    go_ret
    exact ⟨rfl, one_alloc _⟩
  by_cases h2 : x ≤ W
  rotate_left
  · skip
    have HR := Lib.hid (show boxW (x, y, a, b) W L = false by first | exact boxW_iff.2 (by simp only; omega) | exact Bool.eq_false_iff.2 (fun h => by have := boxW_iff.1 h; simp only at this; omega))
    try have i1 : IntKind.i64.wrap (W - x) = W - x := IntWalk.i64_in _ (by omega)
    try have i2 : IntKind.i64.wrap (L - y) = L - y := IntWalk.i64_in _ (by omega)
    clear hW hL
    rw [HR.out]
    go_enter Tryd.func99, Tryd.ntmps99
    go_wp2
    go_ret
    exact ⟨rfl, one_alloc _⟩
  by_cases h3 : 0 ≤ y
  rotate_left
  · skip
    have HR := Lib.hid (show boxW (x, y, a, b) W L = false by first | exact boxW_iff.2 (by simp only; omega) | exact Bool.eq_false_iff.2 (fun h => by have := boxW_iff.1 h; simp only at this; omega))
    try have i1 : IntKind.i64.wrap (W - x) = W - x := IntWalk.i64_in _ (by omega)
    try have i2 : IntKind.i64.wrap (L - y) = L - y := IntWalk.i64_in _ (by omega)
    clear hW hL
    rw [HR.out]
    go_enter Tryd.func99, Tryd.ntmps99
    go_wp2
    go_ret
    exact ⟨rfl, one_alloc _⟩
  by_cases h4 : y ≤ L
  rotate_left
  · skip
    have HR := Lib.hid (show boxW (x, y, a, b) W L = false by first | exact boxW_iff.2 (by simp only; omega) | exact Bool.eq_false_iff.2 (fun h => by have := boxW_iff.1 h; simp only at this; omega))
    try have i1 : IntKind.i64.wrap (W - x) = W - x := IntWalk.i64_in _ (by omega)
    try have i2 : IntKind.i64.wrap (L - y) = L - y := IntWalk.i64_in _ (by omega)
    clear hW hL
    rw [HR.out]
    go_enter Tryd.func99, Tryd.ntmps99
    go_wp2
    go_ret
    exact ⟨rfl, one_alloc _⟩
  by_cases h5 : 1 ≤ a
  rotate_left
  · skip
    have HR := Lib.hid (show boxW (x, y, a, b) W L = false by first | exact boxW_iff.2 (by simp only; omega) | exact Bool.eq_false_iff.2 (fun h => by have := boxW_iff.1 h; simp only at this; omega))
    try have i1 : IntKind.i64.wrap (W - x) = W - x := IntWalk.i64_in _ (by omega)
    try have i2 : IntKind.i64.wrap (L - y) = L - y := IntWalk.i64_in _ (by omega)
    clear hW hL
    rw [HR.out]
    go_enter Tryd.func99, Tryd.ntmps99
    go_wp2
    go_ret
    exact ⟨rfl, one_alloc _⟩
  by_cases h6 : a ≤ W - x
  rotate_left
  · skip
    have HR := Lib.hid (show boxW (x, y, a, b) W L = false by first | exact boxW_iff.2 (by simp only; omega) | exact Bool.eq_false_iff.2 (fun h => by have := boxW_iff.1 h; simp only at this; omega))
    try have i1 : IntKind.i64.wrap (W - x) = W - x := IntWalk.i64_in _ (by omega)
    try have i2 : IntKind.i64.wrap (L - y) = L - y := IntWalk.i64_in _ (by omega)
    clear hW hL
    rw [HR.out]
    go_enter Tryd.func99, Tryd.ntmps99
    go_wp2
    go_ret
    exact ⟨rfl, one_alloc _⟩
  by_cases h7 : 1 ≤ b
  rotate_left
  · skip
    have HR := Lib.hid (show boxW (x, y, a, b) W L = false by first | exact boxW_iff.2 (by simp only; omega) | exact Bool.eq_false_iff.2 (fun h => by have := boxW_iff.1 h; simp only at this; omega))
    try have i1 : IntKind.i64.wrap (W - x) = W - x := IntWalk.i64_in _ (by omega)
    try have i2 : IntKind.i64.wrap (L - y) = L - y := IntWalk.i64_in _ (by omega)
    clear hW hL
    rw [HR.out]
    go_enter Tryd.func99, Tryd.ntmps99
    go_wp2
    go_ret
    exact ⟨rfl, one_alloc _⟩
  by_cases h8 : b ≤ L - y
  rotate_left
  · skip
    have HR := Lib.hid (show boxW (x, y, a, b) W L = false by first | exact boxW_iff.2 (by simp only; omega) | exact Bool.eq_false_iff.2 (fun h => by have := boxW_iff.1 h; simp only at this; omega))
    try have i1 : IntKind.i64.wrap (W - x) = W - x := IntWalk.i64_in _ (by omega)
    try have i2 : IntKind.i64.wrap (L - y) = L - y := IntWalk.i64_in _ (by omega)
    clear hW hL
    rw [HR.out]
    go_enter Tryd.func99, Tryd.ntmps99
    go_wp2
    go_ret
    exact ⟨rfl, one_alloc _⟩
  have HR := Lib.hid (show boxW (x, y, a, b) W L = true by first | exact boxW_iff.2 (by simp only; omega) | exact Bool.eq_false_iff.2 (fun h => by have := boxW_iff.1 h; simp only at this; omega))
  try have i1 : IntKind.i64.wrap (W - x) = W - x := IntWalk.i64_in _ (by omega)
  try have i2 : IntKind.i64.wrap (L - y) = L - y := IntWalk.i64_in _ (by omega)
  clear hW hL
  rw [HR.out]
  go_enter Tryd.func99, Tryd.ntmps99
  go_wp2
  go_ret
  exact ⟨rfl, one_alloc _⟩
set_option maxRecDepth 100000 in
set_option maxHeartbeats 4000000 in
theorem right_impl (x y a b : Int) (w : World) (h : -9223372036854775808 ≤ x + a ∧ x + a ≤ 9223372036854775807) :
    Calls Tryd.prog 121 #[.agg #[.int .i64 x, .int .i64 y, .int .i64 a, .int .i64 b]] w fun e w' => e = .returned (.int .i64 (x + a)) ∧ Below w.heap.size w w' := by
  have i1 : IntKind.i64.wrap (x + a) = x + a := IntWalk.i64_in _ (by omega)
  clear h
  go_enter Tryd.func121, Tryd.ntmps121
  go_wp2
  go_ret
  exact ⟨rfl, one_alloc _⟩
set_option maxRecDepth 100000 in
set_option maxHeartbeats 4000000 in
theorem high_impl (x y a b : Int) (w : World) (h : -9223372036854775808 ≤ y + b ∧ y + b ≤ 9223372036854775807) :
    Calls Tryd.prog 122 #[.agg #[.int .i64 x, .int .i64 y, .int .i64 a, .int .i64 b]] w fun e w' => e = .returned (.int .i64 (y + b)) ∧ Below w.heap.size w w' := by
  have i1 : IntKind.i64.wrap (y + b) = y + b := IntWalk.i64_in _ (by omega)
  clear h
  go_enter Tryd.func122, Tryd.ntmps122
  go_wp2
  go_ret
  exact ⟨rfl, one_alloc _⟩
set_option maxRecDepth 100000 in
set_option maxHeartbeats 8000000 in
theorem meets_impl (x y a b x' y' a' b' : Int) (w : World) (h : bxS (x, y, a, b)) (h' : bxS (x', y', a', b')) :
    Calls Tryd.prog 100 #[.agg #[.int .i64 x, .int .i64 y, .int .i64 a, .int .i64 b], .agg #[.int .i64 x', .int .i64 y', .int .i64 a', .int .i64 b']] w fun e w' => e = .returned (.bool (metB (x, y, a, b) (x', y', a', b'))) ∧ Below w.heap.size w w' := by
  unfold bxS at h h'
  simp only at h h'
  have HX := Lib.hid (show -9223372036854775808 ≤ x + a ∧ x + a ≤ 9223372036854775807 by omega)
  have HY := Lib.hid (show -9223372036854775808 ≤ y + b ∧ y + b ≤ 9223372036854775807 by omega)
  have HX' := Lib.hid (show -9223372036854775808 ≤ x' + a' ∧ x' + a' ≤ 9223372036854775807 by omega)
  have HY' := Lib.hid (show -9223372036854775808 ≤ y' + b' ∧ y' + b' ≤ 9223372036854775807 by omega)
  clear h h'
  by_cases h1 : decide (x < x' + a') = true
  rotate_left
  · skip
    try simp only [Bool.not_eq_true] at h1
    have HR := Lib.hid (show metB (x, y, a, b) (x', y', a', b') = false by unfold metB; simp only [*, Bool.false_and, Bool.and_false, Bool.and_true, Bool.true_and])
    rw [HR.out]
    go_enter Tryd.func100, Tryd.ntmps100
    go_wp2
    refine wp_region_below (by kernel_rfl) (by kernel_rfl) ?_
    repeat (first | (refine wq_skip ?_ ?_; (focus (go_simp; (first | done | (simp [undef]; done)))); (try simp only [Act.put, List.setIfInBounds_toArray, List.set_cons_zero, List.set_cons_succ])) | (refine wq_val ?_ ?_; (focus (go_simp; done)); apply Exists.intro; refine ⟨fun w1 hw1 => ?_, ?_⟩; (obtain ⟨hc, hf⟩ := bcell hw1; clear hw1; go_simp; (first | done | with_reducible rfl | (with_reducible exact eql2 _ _ _) | (with_reducible exact neq2 _ _ _))); (try simp only [Act.put, List.setIfInBounds_toArray, List.set_cons_zero, List.set_cons_succ])) | (refine wq_call 121 ?_ ?_; (focus (go_simp; done)); apply Exists.intro; refine ⟨fun w1 hw1 => ?_, ?_⟩; (focus (clear hw1; go_simp; (first | done | with_reducible rfl))); apply Exists.intro; refine ⟨fun w1 hw1 => ?_, ?_⟩; (focus (exact calls_below hw1 (right_impl _ _ _ _ _ HX.out); done)); (try simp only [Act.put, List.setIfInBounds_toArray, List.set_cons_zero, List.set_cons_succ])) | (refine wq_call 121 ?_ ?_; (focus (go_simp; done)); apply Exists.intro; refine ⟨fun w1 hw1 => ?_, ?_⟩; (focus (clear hw1; go_simp; (first | done | with_reducible rfl))); apply Exists.intro; refine ⟨fun w1 hw1 => ?_, ?_⟩; (focus (exact calls_below hw1 (right_impl _ _ _ _ _ HX'.out); done)); (try simp only [Act.put, List.setIfInBounds_toArray, List.set_cons_zero, List.set_cons_succ])) | (refine wq_call 122 ?_ ?_; (focus (go_simp; done)); apply Exists.intro; refine ⟨fun w1 hw1 => ?_, ?_⟩; (focus (clear hw1; go_simp; (first | done | with_reducible rfl))); apply Exists.intro; refine ⟨fun w1 hw1 => ?_, ?_⟩; (focus (exact calls_below hw1 (high_impl _ _ _ _ _ HY.out); done)); (try simp only [Act.put, List.setIfInBounds_toArray, List.set_cons_zero, List.set_cons_succ])) | (refine wq_call 122 ?_ ?_; (focus (go_simp; done)); apply Exists.intro; refine ⟨fun w1 hw1 => ?_, ?_⟩; (focus (clear hw1; go_simp; (first | done | with_reducible rfl))); apply Exists.intro; refine ⟨fun w1 hw1 => ?_, ?_⟩; (focus (exact calls_below hw1 (high_impl _ _ _ _ _ HY'.out); done)); (try simp only [Act.put, List.setIfInBounds_toArray, List.set_cons_zero, List.set_cons_succ])))
    refine wq_nil ?_
    intro w1 hb1
    have HB1 := Lib.hid (bseq (two_allocs _ _) hb1)
    clear hb1
    go_wp2
    go_ret
    exact ⟨by first | rfl | exact ret_bool' (by simp [*]), HB1.out⟩
  by_cases h2 : decide (x' < x + a) = true
  rotate_left
  · skip
    try simp only [Bool.not_eq_true] at h2
    have HR := Lib.hid (show metB (x, y, a, b) (x', y', a', b') = false by unfold metB; simp only [*, Bool.false_and, Bool.and_false, Bool.and_true, Bool.true_and])
    rw [HR.out]
    go_enter Tryd.func100, Tryd.ntmps100
    go_wp2
    refine wp_region_below (by kernel_rfl) (by kernel_rfl) ?_
    repeat (first | (refine wq_skip ?_ ?_; (focus (go_simp; (first | done | (simp [undef]; done)))); (try simp only [Act.put, List.setIfInBounds_toArray, List.set_cons_zero, List.set_cons_succ])) | (refine wq_val ?_ ?_; (focus (go_simp; done)); apply Exists.intro; refine ⟨fun w1 hw1 => ?_, ?_⟩; (obtain ⟨hc, hf⟩ := bcell hw1; clear hw1; go_simp; (first | done | with_reducible rfl | (with_reducible exact eql2 _ _ _) | (with_reducible exact neq2 _ _ _))); (try simp only [Act.put, List.setIfInBounds_toArray, List.set_cons_zero, List.set_cons_succ])) | (refine wq_call 121 ?_ ?_; (focus (go_simp; done)); apply Exists.intro; refine ⟨fun w1 hw1 => ?_, ?_⟩; (focus (clear hw1; go_simp; (first | done | with_reducible rfl))); apply Exists.intro; refine ⟨fun w1 hw1 => ?_, ?_⟩; (focus (exact calls_below hw1 (right_impl _ _ _ _ _ HX.out); done)); (try simp only [Act.put, List.setIfInBounds_toArray, List.set_cons_zero, List.set_cons_succ])) | (refine wq_call 121 ?_ ?_; (focus (go_simp; done)); apply Exists.intro; refine ⟨fun w1 hw1 => ?_, ?_⟩; (focus (clear hw1; go_simp; (first | done | with_reducible rfl))); apply Exists.intro; refine ⟨fun w1 hw1 => ?_, ?_⟩; (focus (exact calls_below hw1 (right_impl _ _ _ _ _ HX'.out); done)); (try simp only [Act.put, List.setIfInBounds_toArray, List.set_cons_zero, List.set_cons_succ])) | (refine wq_call 122 ?_ ?_; (focus (go_simp; done)); apply Exists.intro; refine ⟨fun w1 hw1 => ?_, ?_⟩; (focus (clear hw1; go_simp; (first | done | with_reducible rfl))); apply Exists.intro; refine ⟨fun w1 hw1 => ?_, ?_⟩; (focus (exact calls_below hw1 (high_impl _ _ _ _ _ HY.out); done)); (try simp only [Act.put, List.setIfInBounds_toArray, List.set_cons_zero, List.set_cons_succ])) | (refine wq_call 122 ?_ ?_; (focus (go_simp; done)); apply Exists.intro; refine ⟨fun w1 hw1 => ?_, ?_⟩; (focus (clear hw1; go_simp; (first | done | with_reducible rfl))); apply Exists.intro; refine ⟨fun w1 hw1 => ?_, ?_⟩; (focus (exact calls_below hw1 (high_impl _ _ _ _ _ HY'.out); done)); (try simp only [Act.put, List.setIfInBounds_toArray, List.set_cons_zero, List.set_cons_succ])))
    refine wq_nil ?_
    intro w1 hb1
    have HB1 := Lib.hid (bseq (two_allocs _ _) hb1)
    clear hb1
    go_wp2
    go_ret
    exact ⟨by first | rfl | exact ret_bool' (by simp [*]), HB1.out⟩
  by_cases h3 : decide (y < y' + b') = true
  rotate_left
  · skip
    try simp only [Bool.not_eq_true] at h3
    have HR := Lib.hid (show metB (x, y, a, b) (x', y', a', b') = false by unfold metB; simp only [*, Bool.false_and, Bool.and_false, Bool.and_true, Bool.true_and])
    rw [HR.out]
    go_enter Tryd.func100, Tryd.ntmps100
    go_wp2
    refine wp_region_below (by kernel_rfl) (by kernel_rfl) ?_
    repeat (first | (refine wq_skip ?_ ?_; (focus (go_simp; (first | done | (simp [undef]; done)))); (try simp only [Act.put, List.setIfInBounds_toArray, List.set_cons_zero, List.set_cons_succ])) | (refine wq_val ?_ ?_; (focus (go_simp; done)); apply Exists.intro; refine ⟨fun w1 hw1 => ?_, ?_⟩; (obtain ⟨hc, hf⟩ := bcell hw1; clear hw1; go_simp; (first | done | with_reducible rfl | (with_reducible exact eql2 _ _ _) | (with_reducible exact neq2 _ _ _))); (try simp only [Act.put, List.setIfInBounds_toArray, List.set_cons_zero, List.set_cons_succ])) | (refine wq_call 121 ?_ ?_; (focus (go_simp; done)); apply Exists.intro; refine ⟨fun w1 hw1 => ?_, ?_⟩; (focus (clear hw1; go_simp; (first | done | with_reducible rfl))); apply Exists.intro; refine ⟨fun w1 hw1 => ?_, ?_⟩; (focus (exact calls_below hw1 (right_impl _ _ _ _ _ HX.out); done)); (try simp only [Act.put, List.setIfInBounds_toArray, List.set_cons_zero, List.set_cons_succ])) | (refine wq_call 121 ?_ ?_; (focus (go_simp; done)); apply Exists.intro; refine ⟨fun w1 hw1 => ?_, ?_⟩; (focus (clear hw1; go_simp; (first | done | with_reducible rfl))); apply Exists.intro; refine ⟨fun w1 hw1 => ?_, ?_⟩; (focus (exact calls_below hw1 (right_impl _ _ _ _ _ HX'.out); done)); (try simp only [Act.put, List.setIfInBounds_toArray, List.set_cons_zero, List.set_cons_succ])) | (refine wq_call 122 ?_ ?_; (focus (go_simp; done)); apply Exists.intro; refine ⟨fun w1 hw1 => ?_, ?_⟩; (focus (clear hw1; go_simp; (first | done | with_reducible rfl))); apply Exists.intro; refine ⟨fun w1 hw1 => ?_, ?_⟩; (focus (exact calls_below hw1 (high_impl _ _ _ _ _ HY.out); done)); (try simp only [Act.put, List.setIfInBounds_toArray, List.set_cons_zero, List.set_cons_succ])) | (refine wq_call 122 ?_ ?_; (focus (go_simp; done)); apply Exists.intro; refine ⟨fun w1 hw1 => ?_, ?_⟩; (focus (clear hw1; go_simp; (first | done | with_reducible rfl))); apply Exists.intro; refine ⟨fun w1 hw1 => ?_, ?_⟩; (focus (exact calls_below hw1 (high_impl _ _ _ _ _ HY'.out); done)); (try simp only [Act.put, List.setIfInBounds_toArray, List.set_cons_zero, List.set_cons_succ])))
    refine wq_nil ?_
    intro w1 hb1
    have HB1 := Lib.hid (bseq (two_allocs _ _) hb1)
    clear hb1
    go_wp2
    go_ret
    exact ⟨by first | rfl | exact ret_bool' (by simp [*]), HB1.out⟩
  by_cases h4 : decide (y' < y + b) = true
  rotate_left
  · skip
    try simp only [Bool.not_eq_true] at h4
    have HR := Lib.hid (show metB (x, y, a, b) (x', y', a', b') = false by unfold metB; simp only [*, Bool.false_and, Bool.and_false, Bool.and_true, Bool.true_and])
    rw [HR.out]
    go_enter Tryd.func100, Tryd.ntmps100
    go_wp2
    refine wp_region_below (by kernel_rfl) (by kernel_rfl) ?_
    repeat (first | (refine wq_skip ?_ ?_; (focus (go_simp; (first | done | (simp [undef]; done)))); (try simp only [Act.put, List.setIfInBounds_toArray, List.set_cons_zero, List.set_cons_succ])) | (refine wq_val ?_ ?_; (focus (go_simp; done)); apply Exists.intro; refine ⟨fun w1 hw1 => ?_, ?_⟩; (obtain ⟨hc, hf⟩ := bcell hw1; clear hw1; go_simp; (first | done | with_reducible rfl | (with_reducible exact eql2 _ _ _) | (with_reducible exact neq2 _ _ _))); (try simp only [Act.put, List.setIfInBounds_toArray, List.set_cons_zero, List.set_cons_succ])) | (refine wq_call 121 ?_ ?_; (focus (go_simp; done)); apply Exists.intro; refine ⟨fun w1 hw1 => ?_, ?_⟩; (focus (clear hw1; go_simp; (first | done | with_reducible rfl))); apply Exists.intro; refine ⟨fun w1 hw1 => ?_, ?_⟩; (focus (exact calls_below hw1 (right_impl _ _ _ _ _ HX.out); done)); (try simp only [Act.put, List.setIfInBounds_toArray, List.set_cons_zero, List.set_cons_succ])) | (refine wq_call 121 ?_ ?_; (focus (go_simp; done)); apply Exists.intro; refine ⟨fun w1 hw1 => ?_, ?_⟩; (focus (clear hw1; go_simp; (first | done | with_reducible rfl))); apply Exists.intro; refine ⟨fun w1 hw1 => ?_, ?_⟩; (focus (exact calls_below hw1 (right_impl _ _ _ _ _ HX'.out); done)); (try simp only [Act.put, List.setIfInBounds_toArray, List.set_cons_zero, List.set_cons_succ])) | (refine wq_call 122 ?_ ?_; (focus (go_simp; done)); apply Exists.intro; refine ⟨fun w1 hw1 => ?_, ?_⟩; (focus (clear hw1; go_simp; (first | done | with_reducible rfl))); apply Exists.intro; refine ⟨fun w1 hw1 => ?_, ?_⟩; (focus (exact calls_below hw1 (high_impl _ _ _ _ _ HY.out); done)); (try simp only [Act.put, List.setIfInBounds_toArray, List.set_cons_zero, List.set_cons_succ])) | (refine wq_call 122 ?_ ?_; (focus (go_simp; done)); apply Exists.intro; refine ⟨fun w1 hw1 => ?_, ?_⟩; (focus (clear hw1; go_simp; (first | done | with_reducible rfl))); apply Exists.intro; refine ⟨fun w1 hw1 => ?_, ?_⟩; (focus (exact calls_below hw1 (high_impl _ _ _ _ _ HY'.out); done)); (try simp only [Act.put, List.setIfInBounds_toArray, List.set_cons_zero, List.set_cons_succ])))
    refine wq_nil ?_
    intro w1 hb1
    have HB1 := Lib.hid (bseq (two_allocs _ _) hb1)
    clear hb1
    go_wp2
    go_ret
    exact ⟨by first | rfl | exact ret_bool' (by simp [*]), HB1.out⟩
  try simp only [Bool.not_eq_true] at h5
  have HR := Lib.hid (show metB (x, y, a, b) (x', y', a', b') = true by unfold metB; simp only [*, Bool.false_and, Bool.and_false, Bool.and_true, Bool.true_and])
  rw [HR.out]
  go_enter Tryd.func100, Tryd.ntmps100
  go_wp2
  refine wp_region_below (by kernel_rfl) (by kernel_rfl) ?_
  repeat (first | (refine wq_skip ?_ ?_; (focus (go_simp; (first | done | (simp [undef]; done)))); (try simp only [Act.put, List.setIfInBounds_toArray, List.set_cons_zero, List.set_cons_succ])) | (refine wq_val ?_ ?_; (focus (go_simp; done)); apply Exists.intro; refine ⟨fun w1 hw1 => ?_, ?_⟩; (obtain ⟨hc, hf⟩ := bcell hw1; clear hw1; go_simp; (first | done | with_reducible rfl | (with_reducible exact eql2 _ _ _) | (with_reducible exact neq2 _ _ _))); (try simp only [Act.put, List.setIfInBounds_toArray, List.set_cons_zero, List.set_cons_succ])) | (refine wq_call 121 ?_ ?_; (focus (go_simp; done)); apply Exists.intro; refine ⟨fun w1 hw1 => ?_, ?_⟩; (focus (clear hw1; go_simp; (first | done | with_reducible rfl))); apply Exists.intro; refine ⟨fun w1 hw1 => ?_, ?_⟩; (focus (exact calls_below hw1 (right_impl _ _ _ _ _ HX.out); done)); (try simp only [Act.put, List.setIfInBounds_toArray, List.set_cons_zero, List.set_cons_succ])) | (refine wq_call 121 ?_ ?_; (focus (go_simp; done)); apply Exists.intro; refine ⟨fun w1 hw1 => ?_, ?_⟩; (focus (clear hw1; go_simp; (first | done | with_reducible rfl))); apply Exists.intro; refine ⟨fun w1 hw1 => ?_, ?_⟩; (focus (exact calls_below hw1 (right_impl _ _ _ _ _ HX'.out); done)); (try simp only [Act.put, List.setIfInBounds_toArray, List.set_cons_zero, List.set_cons_succ])) | (refine wq_call 122 ?_ ?_; (focus (go_simp; done)); apply Exists.intro; refine ⟨fun w1 hw1 => ?_, ?_⟩; (focus (clear hw1; go_simp; (first | done | with_reducible rfl))); apply Exists.intro; refine ⟨fun w1 hw1 => ?_, ?_⟩; (focus (exact calls_below hw1 (high_impl _ _ _ _ _ HY.out); done)); (try simp only [Act.put, List.setIfInBounds_toArray, List.set_cons_zero, List.set_cons_succ])) | (refine wq_call 122 ?_ ?_; (focus (go_simp; done)); apply Exists.intro; refine ⟨fun w1 hw1 => ?_, ?_⟩; (focus (clear hw1; go_simp; (first | done | with_reducible rfl))); apply Exists.intro; refine ⟨fun w1 hw1 => ?_, ?_⟩; (focus (exact calls_below hw1 (high_impl _ _ _ _ _ HY'.out); done)); (try simp only [Act.put, List.setIfInBounds_toArray, List.set_cons_zero, List.set_cons_succ])))
  refine wq_nil ?_
  intro w1 hb1
  have HB1 := Lib.hid (bseq (two_allocs _ _) hb1)
  clear hb1
  go_wp2
  go_ret
  exact ⟨by first | rfl | exact ret_bool' (by simp [*]), HB1.out⟩
set_option maxRecDepth 100000 in
set_option maxHeartbeats 8000000 in
theorem box_spec (q o : Nat) (z : Bx) (W L : Int) (w : World) (hv : BxAt w q o z) (hW : 0 ≤ W ∧ W ≤ 20000) (hL : 0 ≤ L ∧ L ≤ 20000) :
    Calls Tryd.prog 52 #[.pointer (some ⟨q, o, none⟩), .int .i64 W, .int .i64 L] w fun e w' => e = .returned (.bool (boxW z W L)) ∧ Below w.heap.size w w' := by
  obtain ⟨hq, c0, c1, c2, c3⟩ := hv
  obtain ⟨x, y, a, b⟩ := z
  simp only at c0 c1 c2 c3
  by_cases h1 : inI x 0 W = true
  rotate_left
  · skip
    have HR := Lib.hid (show boxW (x, y, a, b) W L = false by unfold boxW; simp only [*, Bool.false_and, Bool.and_false, Bool.and_true, Bool.true_and])
    try have i1 : IntKind.i64.wrap (W - x) = W - x := IntWalk.i64_in _ (by have := inIb.1 h1; omega)
    try have i2 : IntKind.i64.wrap (L - y) = L - y := IntWalk.i64_in _ (by have := inIb.1 h2; omega)
    try simp only [Bool.not_eq_true] at h1
    clear hW hL
    rw [HR.out]
    go_enter Tryd.func52, Tryd.ntmps52
    go_wp2
    refine wp_region_below (by kernel_rfl) (by kernel_rfl) ?_
    repeat (first | (refine wq_skip ?_ ?_; (focus (go_simp; (first | done | (simp [undef]; done)))); (try simp only [Act.put, List.setIfInBounds_toArray, List.set_cons_zero, List.set_cons_succ])) | (refine wq_val ?_ ?_; (focus (go_simp; done)); apply Exists.intro; refine ⟨fun w1 hw1 => ?_, ?_⟩; (obtain ⟨hc, hf⟩ := bcell hw1; clear hw1; go_simp; (first | done | with_reducible rfl | (with_reducible exact eql2 _ _ _) | (with_reducible exact neq2 _ _ _))); (try simp only [Act.put, List.setIfInBounds_toArray, List.set_cons_zero, List.set_cons_succ])) | (refine wq_call 94 ?_ ?_; (focus (go_simp; done)); apply Exists.intro; refine ⟨fun w1 hw1 => ?_, ?_⟩; (focus (clear hw1; go_simp; (first | done | with_reducible rfl))); apply Exists.intro; refine ⟨fun w1 hw1 => ?_, ?_⟩; (focus (exact calls_below_same hw1 (in_any _ _ _ _); done)); (try simp only [Act.put, List.setIfInBounds_toArray, List.set_cons_zero, List.set_cons_succ])))
    refine wq_nil ?_
    intro w1 hb1
    have HB1 := Lib.hid hb1
    clear hb1
    go_wp2
    go_ret
    exact ⟨by first | rfl | exact ret_bool' (by simp [*]), HB1.out⟩
  by_cases h2 : inI y 0 L = true
  rotate_left
  · skip
    have HR := Lib.hid (show boxW (x, y, a, b) W L = false by unfold boxW; simp only [*, Bool.false_and, Bool.and_false, Bool.and_true, Bool.true_and])
    try have i1 : IntKind.i64.wrap (W - x) = W - x := IntWalk.i64_in _ (by have := inIb.1 h1; omega)
    try have i2 : IntKind.i64.wrap (L - y) = L - y := IntWalk.i64_in _ (by have := inIb.1 h2; omega)
    try simp only [Bool.not_eq_true] at h2
    clear hW hL
    rw [HR.out]
    go_enter Tryd.func52, Tryd.ntmps52
    go_wp2
    refine wp_region_below (by kernel_rfl) (by kernel_rfl) ?_
    repeat (first | (refine wq_skip ?_ ?_; (focus (go_simp; (first | done | (simp [undef]; done)))); (try simp only [Act.put, List.setIfInBounds_toArray, List.set_cons_zero, List.set_cons_succ])) | (refine wq_val ?_ ?_; (focus (go_simp; done)); apply Exists.intro; refine ⟨fun w1 hw1 => ?_, ?_⟩; (obtain ⟨hc, hf⟩ := bcell hw1; clear hw1; go_simp; (first | done | with_reducible rfl | (with_reducible exact eql2 _ _ _) | (with_reducible exact neq2 _ _ _))); (try simp only [Act.put, List.setIfInBounds_toArray, List.set_cons_zero, List.set_cons_succ])) | (refine wq_call 94 ?_ ?_; (focus (go_simp; done)); apply Exists.intro; refine ⟨fun w1 hw1 => ?_, ?_⟩; (focus (clear hw1; go_simp; (first | done | with_reducible rfl))); apply Exists.intro; refine ⟨fun w1 hw1 => ?_, ?_⟩; (focus (exact calls_below_same hw1 (in_any _ _ _ _); done)); (try simp only [Act.put, List.setIfInBounds_toArray, List.set_cons_zero, List.set_cons_succ])))
    refine wq_nil ?_
    intro w1 hb1
    have HB1 := Lib.hid hb1
    clear hb1
    go_wp2
    go_ret
    exact ⟨by first | rfl | exact ret_bool' (by simp [*]), HB1.out⟩
  by_cases h3 : inI a 1 (W - x) = true
  rotate_left
  · skip
    have HR := Lib.hid (show boxW (x, y, a, b) W L = false by unfold boxW; simp only [*, Bool.false_and, Bool.and_false, Bool.and_true, Bool.true_and])
    try have i1 : IntKind.i64.wrap (W - x) = W - x := IntWalk.i64_in _ (by have := inIb.1 h1; omega)
    try have i2 : IntKind.i64.wrap (L - y) = L - y := IntWalk.i64_in _ (by have := inIb.1 h2; omega)
    try simp only [Bool.not_eq_true] at h3
    clear hW hL
    rw [HR.out]
    go_enter Tryd.func52, Tryd.ntmps52
    go_wp2
    refine wp_region_below (by kernel_rfl) (by kernel_rfl) ?_
    repeat (first | (refine wq_skip ?_ ?_; (focus (go_simp; (first | done | (simp [undef]; done)))); (try simp only [Act.put, List.setIfInBounds_toArray, List.set_cons_zero, List.set_cons_succ])) | (refine wq_val ?_ ?_; (focus (go_simp; done)); apply Exists.intro; refine ⟨fun w1 hw1 => ?_, ?_⟩; (obtain ⟨hc, hf⟩ := bcell hw1; clear hw1; go_simp; (first | done | with_reducible rfl | (with_reducible exact eql2 _ _ _) | (with_reducible exact neq2 _ _ _))); (try simp only [Act.put, List.setIfInBounds_toArray, List.set_cons_zero, List.set_cons_succ])) | (refine wq_call 94 ?_ ?_; (focus (go_simp; done)); apply Exists.intro; refine ⟨fun w1 hw1 => ?_, ?_⟩; (focus (clear hw1; go_simp; (first | done | with_reducible rfl))); apply Exists.intro; refine ⟨fun w1 hw1 => ?_, ?_⟩; (focus (exact calls_below_same hw1 (in_any _ _ _ _); done)); (try simp only [Act.put, List.setIfInBounds_toArray, List.set_cons_zero, List.set_cons_succ])))
    refine wq_nil ?_
    intro w1 hb1
    have HB1 := Lib.hid hb1
    clear hb1
    go_wp2
    go_ret
    exact ⟨by first | rfl | exact ret_bool' (by simp [*]), HB1.out⟩
  by_cases h4 : inI b 1 (L - y) = true
  rotate_left
  · skip
    have HR := Lib.hid (show boxW (x, y, a, b) W L = false by unfold boxW; simp only [*, Bool.false_and, Bool.and_false, Bool.and_true, Bool.true_and])
    try have i1 : IntKind.i64.wrap (W - x) = W - x := IntWalk.i64_in _ (by have := inIb.1 h1; omega)
    try have i2 : IntKind.i64.wrap (L - y) = L - y := IntWalk.i64_in _ (by have := inIb.1 h2; omega)
    try simp only [Bool.not_eq_true] at h4
    clear hW hL
    rw [HR.out]
    go_enter Tryd.func52, Tryd.ntmps52
    go_wp2
    refine wp_region_below (by kernel_rfl) (by kernel_rfl) ?_
    repeat (first | (refine wq_skip ?_ ?_; (focus (go_simp; (first | done | (simp [undef]; done)))); (try simp only [Act.put, List.setIfInBounds_toArray, List.set_cons_zero, List.set_cons_succ])) | (refine wq_val ?_ ?_; (focus (go_simp; done)); apply Exists.intro; refine ⟨fun w1 hw1 => ?_, ?_⟩; (obtain ⟨hc, hf⟩ := bcell hw1; clear hw1; go_simp; (first | done | with_reducible rfl | (with_reducible exact eql2 _ _ _) | (with_reducible exact neq2 _ _ _))); (try simp only [Act.put, List.setIfInBounds_toArray, List.set_cons_zero, List.set_cons_succ])) | (refine wq_call 94 ?_ ?_; (focus (go_simp; done)); apply Exists.intro; refine ⟨fun w1 hw1 => ?_, ?_⟩; (focus (clear hw1; go_simp; (first | done | with_reducible rfl))); apply Exists.intro; refine ⟨fun w1 hw1 => ?_, ?_⟩; (focus (exact calls_below_same hw1 (in_any _ _ _ _); done)); (try simp only [Act.put, List.setIfInBounds_toArray, List.set_cons_zero, List.set_cons_succ])))
    refine wq_nil ?_
    intro w1 hb1
    have HB1 := Lib.hid hb1
    clear hb1
    go_wp2
    go_ret
    exact ⟨by first | rfl | exact ret_bool' (by simp [*]), HB1.out⟩
  have HR := Lib.hid (show boxW (x, y, a, b) W L = true by unfold boxW; simp only [*, Bool.false_and, Bool.and_false, Bool.and_true, Bool.true_and])
  try have i1 : IntKind.i64.wrap (W - x) = W - x := IntWalk.i64_in _ (by have := inIb.1 h1; omega)
  try have i2 : IntKind.i64.wrap (L - y) = L - y := IntWalk.i64_in _ (by have := inIb.1 h2; omega)
  try simp only [Bool.not_eq_true] at h5
  clear hW hL
  rw [HR.out]
  go_enter Tryd.func52, Tryd.ntmps52
  go_wp2
  refine wp_region_below (by kernel_rfl) (by kernel_rfl) ?_
  repeat (first | (refine wq_skip ?_ ?_; (focus (go_simp; (first | done | (simp [undef]; done)))); (try simp only [Act.put, List.setIfInBounds_toArray, List.set_cons_zero, List.set_cons_succ])) | (refine wq_val ?_ ?_; (focus (go_simp; done)); apply Exists.intro; refine ⟨fun w1 hw1 => ?_, ?_⟩; (obtain ⟨hc, hf⟩ := bcell hw1; clear hw1; go_simp; (first | done | with_reducible rfl | (with_reducible exact eql2 _ _ _) | (with_reducible exact neq2 _ _ _))); (try simp only [Act.put, List.setIfInBounds_toArray, List.set_cons_zero, List.set_cons_succ])) | (refine wq_call 94 ?_ ?_; (focus (go_simp; done)); apply Exists.intro; refine ⟨fun w1 hw1 => ?_, ?_⟩; (focus (clear hw1; go_simp; (first | done | with_reducible rfl))); apply Exists.intro; refine ⟨fun w1 hw1 => ?_, ?_⟩; (focus (exact calls_below_same hw1 (in_any _ _ _ _); done)); (try simp only [Act.put, List.setIfInBounds_toArray, List.set_cons_zero, List.set_cons_succ])))
  refine wq_nil ?_
  intro w1 hb1
  have HB1 := Lib.hid hb1
  clear hb1
  go_wp2
  go_ret
  exact ⟨by first | rfl | exact ret_bool' (by simp [*]), HB1.out⟩
set_option maxRecDepth 100000 in
set_option maxHeartbeats 8000000 in
theorem bxm_spec (p i q o : Nat) (z z' : Bx) (w : World) (hv : BxAt w p i z) (hv' : BxAt w q o z') (h : bxS z) (h' : bxS z') :
    Calls Tryd.prog 53 #[.pointer (some ⟨p, i, none⟩), .pointer (some ⟨q, o, none⟩)] w fun e w' => e = .returned (.bool (metB z z')) ∧ Below w.heap.size w w' := by
  obtain ⟨hp, c0, c1, c2, c3⟩ := hv
  obtain ⟨hq, d0, d1, d2, d3⟩ := hv'
  obtain ⟨x, y, a, b⟩ := z
  obtain ⟨x', y', a', b'⟩ := z'
  unfold bxS at h h'
  simp only at c0 c1 c2 c3 d0 d1 d2 d3 h h'
  have i1 : IntKind.i64.wrap (x + a) = x + a := IntWalk.i64_in _ (by omega)
  have i2 : IntKind.i64.wrap (y + b) = y + b := IntWalk.i64_in _ (by omega)
  have i3 : IntKind.i64.wrap (x' + a') = x' + a' := IntWalk.i64_in _ (by omega)
  have i4 : IntKind.i64.wrap (y' + b') = y' + b' := IntWalk.i64_in _ (by omega)
  clear h h'
  by_cases h1 : decide (x < x' + a') = true
  rotate_left
  · skip
    try simp only [Bool.not_eq_true] at h1
    have HR := Lib.hid (show metB (x, y, a, b) (x', y', a', b') = false by unfold metB; simp only [*, Bool.false_and, Bool.and_false, Bool.and_true, Bool.true_and])
    rw [HR.out]
    go_enter Tryd.func53, Tryd.ntmps53
    go_wp2
    refine wp_region_below (by kernel_rfl) (by kernel_rfl) ?_
    repeat (first | (refine wq_skip ?_ ?_; (focus (go_simp; (first | done | (simp [undef]; done)))); (try simp only [Act.put, List.setIfInBounds_toArray, List.set_cons_zero, List.set_cons_succ])) | (refine wq_val ?_ ?_; (focus (go_simp; done)); apply Exists.intro; refine ⟨fun w1 hw1 => ?_, ?_⟩; (obtain ⟨hc, hf⟩ := bcell hw1; clear hw1; go_simp; (first | done | with_reducible rfl | (with_reducible exact eql2 _ _ _) | (with_reducible exact neq2 _ _ _))); (try simp only [Act.put, List.setIfInBounds_toArray, List.set_cons_zero, List.set_cons_succ])))
    refine wq_nil ?_
    intro w1 hb1
    have HB1 := Lib.hid hb1
    clear hb1
    go_wp2
    go_ret
    exact ⟨by first | rfl | exact ret_bool' (by simp [*]), HB1.out⟩
  by_cases h2 : decide (x' < x + a) = true
  rotate_left
  · skip
    try simp only [Bool.not_eq_true] at h2
    have HR := Lib.hid (show metB (x, y, a, b) (x', y', a', b') = false by unfold metB; simp only [*, Bool.false_and, Bool.and_false, Bool.and_true, Bool.true_and])
    rw [HR.out]
    go_enter Tryd.func53, Tryd.ntmps53
    go_wp2
    refine wp_region_below (by kernel_rfl) (by kernel_rfl) ?_
    repeat (first | (refine wq_skip ?_ ?_; (focus (go_simp; (first | done | (simp [undef]; done)))); (try simp only [Act.put, List.setIfInBounds_toArray, List.set_cons_zero, List.set_cons_succ])) | (refine wq_val ?_ ?_; (focus (go_simp; done)); apply Exists.intro; refine ⟨fun w1 hw1 => ?_, ?_⟩; (obtain ⟨hc, hf⟩ := bcell hw1; clear hw1; go_simp; (first | done | with_reducible rfl | (with_reducible exact eql2 _ _ _) | (with_reducible exact neq2 _ _ _))); (try simp only [Act.put, List.setIfInBounds_toArray, List.set_cons_zero, List.set_cons_succ])))
    refine wq_nil ?_
    intro w1 hb1
    have HB1 := Lib.hid hb1
    clear hb1
    go_wp2
    go_ret
    exact ⟨by first | rfl | exact ret_bool' (by simp [*]), HB1.out⟩
  by_cases h3 : decide (y < y' + b') = true
  rotate_left
  · skip
    try simp only [Bool.not_eq_true] at h3
    have HR := Lib.hid (show metB (x, y, a, b) (x', y', a', b') = false by unfold metB; simp only [*, Bool.false_and, Bool.and_false, Bool.and_true, Bool.true_and])
    rw [HR.out]
    go_enter Tryd.func53, Tryd.ntmps53
    go_wp2
    refine wp_region_below (by kernel_rfl) (by kernel_rfl) ?_
    repeat (first | (refine wq_skip ?_ ?_; (focus (go_simp; (first | done | (simp [undef]; done)))); (try simp only [Act.put, List.setIfInBounds_toArray, List.set_cons_zero, List.set_cons_succ])) | (refine wq_val ?_ ?_; (focus (go_simp; done)); apply Exists.intro; refine ⟨fun w1 hw1 => ?_, ?_⟩; (obtain ⟨hc, hf⟩ := bcell hw1; clear hw1; go_simp; (first | done | with_reducible rfl | (with_reducible exact eql2 _ _ _) | (with_reducible exact neq2 _ _ _))); (try simp only [Act.put, List.setIfInBounds_toArray, List.set_cons_zero, List.set_cons_succ])))
    refine wq_nil ?_
    intro w1 hb1
    have HB1 := Lib.hid hb1
    clear hb1
    go_wp2
    go_ret
    exact ⟨by first | rfl | exact ret_bool' (by simp [*]), HB1.out⟩
  by_cases h4 : decide (y' < y + b) = true
  rotate_left
  · skip
    try simp only [Bool.not_eq_true] at h4
    have HR := Lib.hid (show metB (x, y, a, b) (x', y', a', b') = false by unfold metB; simp only [*, Bool.false_and, Bool.and_false, Bool.and_true, Bool.true_and])
    rw [HR.out]
    go_enter Tryd.func53, Tryd.ntmps53
    go_wp2
    refine wp_region_below (by kernel_rfl) (by kernel_rfl) ?_
    repeat (first | (refine wq_skip ?_ ?_; (focus (go_simp; (first | done | (simp [undef]; done)))); (try simp only [Act.put, List.setIfInBounds_toArray, List.set_cons_zero, List.set_cons_succ])) | (refine wq_val ?_ ?_; (focus (go_simp; done)); apply Exists.intro; refine ⟨fun w1 hw1 => ?_, ?_⟩; (obtain ⟨hc, hf⟩ := bcell hw1; clear hw1; go_simp; (first | done | with_reducible rfl | (with_reducible exact eql2 _ _ _) | (with_reducible exact neq2 _ _ _))); (try simp only [Act.put, List.setIfInBounds_toArray, List.set_cons_zero, List.set_cons_succ])))
    refine wq_nil ?_
    intro w1 hb1
    have HB1 := Lib.hid hb1
    clear hb1
    go_wp2
    go_ret
    exact ⟨by first | rfl | exact ret_bool' (by simp [*]), HB1.out⟩
  try simp only [Bool.not_eq_true] at h5
  have HR := Lib.hid (show metB (x, y, a, b) (x', y', a', b') = true by unfold metB; simp only [*, Bool.false_and, Bool.and_false, Bool.and_true, Bool.true_and])
  rw [HR.out]
  go_enter Tryd.func53, Tryd.ntmps53
  go_wp2
  refine wp_region_below (by kernel_rfl) (by kernel_rfl) ?_
  repeat (first | (refine wq_skip ?_ ?_; (focus (go_simp; (first | done | (simp [undef]; done)))); (try simp only [Act.put, List.setIfInBounds_toArray, List.set_cons_zero, List.set_cons_succ])) | (refine wq_val ?_ ?_; (focus (go_simp; done)); apply Exists.intro; refine ⟨fun w1 hw1 => ?_, ?_⟩; (obtain ⟨hc, hf⟩ := bcell hw1; clear hw1; go_simp; (first | done | with_reducible rfl | (with_reducible exact eql2 _ _ _) | (with_reducible exact neq2 _ _ _))); (try simp only [Act.put, List.setIfInBounds_toArray, List.set_cons_zero, List.set_cons_succ])))
  refine wq_nil ?_
  intro w1 hb1
  have HB1 := Lib.hid hb1
  clear hb1
  go_wp2
  go_ret
  exact ⟨by first | rfl | exact ret_bool' (by simp [*]), HB1.out⟩
end Go.Proofs.YthocpiklbcahgaaDoor
