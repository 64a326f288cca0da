/- Rules of a nesting, one placement: are they valid: spec and impl. -/
import Derived.Test.YtmfchcaidfloaaaDoorTyPlacement
import Derived.Test.YtmfchcaidfloaaaDoorTyRules
import Derived.Test.YtmfchcaidfloaaaDoorVen14
import Derived.Test.YtmfchcaidfloaaaDoorSeq3
namespace Go.Proofs.YtmfchcaidfloaaaDoor
open Seq2 Go.ChangeShapes Go.WideShapes Go.ChangeAt Go.RowKit
set_option linter.unusedVariables false
set_option linter.unusedSimpArgs false

def ruB (z : Ru) : Bool := inI z.1 0 500 && (inI z.2.1 0 500 && (inI z.2.2.1 0 90 && inI z.2.2.2 0 100))
theorem ruB_iff {z : Ru} : ruB z = true ↔ (0 ≤ z.1 ∧ z.1 ≤ 500) ∧ (0 ≤ z.2.1 ∧ z.2.1 ≤ 500) ∧ (0 ≤ z.2.2.1 ∧ z.2.2.1 ≤ 90) ∧ 0 ≤ z.2.2.2 ∧ z.2.2.2 ≤ 100 := by
  simp only [ruB, inI, Bool.and_eq_true, decide_eq_true_eq]
def pmB (z : Pm) : Bool := inI z.1 0 23 && (inI z.2.1 0 15 && (inI z.2.2.1 0 20000 && (inI z.2.2.2.1 0 20000 && inI z.2.2.2.2 0 7)))
theorem pmB_iff {z : Pm} : pmB z = true ↔ (0 ≤ z.1 ∧ z.1 ≤ 23) ∧ (0 ≤ z.2.1 ∧ z.2.1 ≤ 15) ∧ (0 ≤ z.2.2.1 ∧ z.2.2.1 ≤ 20000) ∧ (0 ≤ z.2.2.2.1 ∧ z.2.2.2.1 ≤ 20000) ∧ 0 ≤ z.2.2.2.2 ∧ z.2.2.2.2 ≤ 7 := by
  simp only [pmB, inI, Bool.and_eq_true, decide_eq_true_eq]
set_option maxRecDepth 100000 in
set_option maxHeartbeats 4000000 in
theorem rules_at (q o : Nat) (z : Ru) (w : World) (hv : RuAt w q o z) : Calls Tryd.prog 35 #[.pointer (some ⟨q, o, none⟩)] w fun e w' => e = .returned (.bool (ruB z)) ∧ w = w' := by
  obtain ⟨hq, v0, v1, v2, v3⟩ := hv
  obtain ⟨x, y, a, b⟩ := z
  simp only at v0 v1 v2 v3
  by_cases h1 : inI x 0 500 = true
  rotate_left
  · skip
    try simp only [Bool.not_eq_true] at h1
    have HR := Lib.hid (show ruB (x, y, a, b) = false by unfold ruB; simp only [*, Bool.false_and, Bool.and_false, Bool.and_true, Bool.true_and])
    rw [HR.out]
    go_enter Tryd.func35, Tryd.ntmps35
    go_wp2_with fail
    refine (in_any _ _ _ _).mono ?_
    rintro e w1 ⟨rfl, rfl⟩
    rw [h1]
    go_wp2
    go_ret
    exact ⟨rfl, rfl⟩
  by_cases h2 : inI y 0 500 = true
  rotate_left
  · skip
    try simp only [Bool.not_eq_true] at h2
    have HR := Lib.hid (show ruB (x, y, a, b) = false by unfold ruB; simp only [*, Bool.false_and, Bool.and_false, Bool.and_true, Bool.true_and])
    rw [HR.out]
    go_enter Tryd.func35, Tryd.ntmps35
    go_wp2_with fail
    refine (in_any _ _ _ _).mono ?_
    rintro e w1 ⟨rfl, rfl⟩
    rw [h1]
    go_wp2_with fail
    refine (in_any _ _ _ _).mono ?_
    rintro e w1 ⟨rfl, rfl⟩
    rw [h2]
    go_wp2
    go_ret
    exact ⟨rfl, rfl⟩
  by_cases h3 : inI a 0 90 = true
  rotate_left
  · skip
    try simp only [Bool.not_eq_true] at h3
    have HR := Lib.hid (show ruB (x, y, a, b) = false by unfold ruB; simp only [*, Bool.false_and, Bool.and_false, Bool.and_true, Bool.true_and])
    rw [HR.out]
    go_enter Tryd.func35, Tryd.ntmps35
    go_wp2_with fail
    refine (in_any _ _ _ _).mono ?_
    rintro e w1 ⟨rfl, rfl⟩
    rw [h1]
    go_wp2_with fail
    refine (in_any _ _ _ _).mono ?_
    rintro e w1 ⟨rfl, rfl⟩
    rw [h2]
    go_wp2_with fail
    refine (in_any _ _ _ _).mono ?_
    rintro e w1 ⟨rfl, rfl⟩
    rw [h3]
    go_wp2
    go_ret
    exact ⟨rfl, rfl⟩
  by_cases h4 : inI b 0 100 = true
  rotate_left
  · skip
    try simp only [Bool.not_eq_true] at h4
    have HR := Lib.hid (show ruB (x, y, a, b) = false by unfold ruB; simp only [*, Bool.false_and, Bool.and_false, Bool.and_true, Bool.true_and])
    rw [HR.out]
    go_enter Tryd.func35, Tryd.ntmps35
    go_wp2_with fail
    refine (in_any _ _ _ _).mono ?_
    rintro e w1 ⟨rfl, rfl⟩
    rw [h1]
    go_wp2_with fail
    refine (in_any _ _ _ _).mono ?_
    rintro e w1 ⟨rfl, rfl⟩
    rw [h2]
    go_wp2_with fail
    refine (in_any _ _ _ _).mono ?_
    rintro e w1 ⟨rfl, rfl⟩
    rw [h3]
    go_wp2_with fail
    refine (in_any _ _ _ _).mono ?_
    rintro e w1 ⟨rfl, rfl⟩
    rw [h4]
    go_wp2
    go_ret
    exact ⟨rfl, rfl⟩
  try simp only [Bool.not_eq_true] at h5
  have HR := Lib.hid (show ruB (x, y, a, b) = true by unfold ruB; simp only [*, Bool.false_and, Bool.and_false, Bool.and_true, Bool.true_and])
  rw [HR.out]
  go_enter Tryd.func35, Tryd.ntmps35
  go_wp2_with fail
  refine (in_any _ _ _ _).mono ?_
  rintro e w1 ⟨rfl, rfl⟩
  rw [h1]
  go_wp2_with fail
  refine (in_any _ _ _ _).mono ?_
  rintro e w1 ⟨rfl, rfl⟩
  rw [h2]
  go_wp2_with fail
  refine (in_any _ _ _ _).mono ?_
  rintro e w1 ⟨rfl, rfl⟩
  rw [h3]
  go_wp2_with fail
  refine (in_any _ _ _ _).mono ?_
  rintro e w1 ⟨rfl, rfl⟩
  rw [h4]
  go_wp2
  go_ret
  exact ⟨rfl, rfl⟩
set_option maxRecDepth 100000 in
theorem RuAt.box (w : World) (x y a b : Int) (t : TypeId) : RuAt (w.alloc (.cells #[.int .i64 x, .int .i64 y, .int .i64 a, .int .i64 b] t)) w.heap.size 0 (x, y, a, b) := by
  have h := World.alloc_heap_new w (.cells #[.int .i64 x, .int .i64 y, .int .i64 a, .int .i64 b] t)
  obtain ⟨c0, _, c1, _, c2, _, c3, _⟩ := cells4_of h
  exact ⟨blk_lt h, c0, c1, c2, c3⟩
theorem space_any (n : Int) (w : World) : Calls Tryd.prog 80 #[.int .i64 n] w fun e w' => e = .returned (.bool (inI n 0 500)) ∧ w = w' := by
  by_cases h1 : 0 ≤ n
  · have HR := Lib.hid (show inI n 0 500 = decide (n ≤ 500) by unfold inI; rw [decide_eq_true h1, Bool.true_and])
    rw [HR.out]
    go_enter Tryd.func80, Tryd.ntmps80
    go_wp2
    go_ret
    exact ⟨rfl, rfl⟩
  · have HR := Lib.hid (show inI n 0 500 = false by unfold inI; rw [decide_eq_false h1, Bool.false_and])
    rw [HR.out]
    go_enter Tryd.func80, Tryd.ntmps80
    go_wp2
    go_ret
    exact ⟨rfl, rfl⟩
set_option maxRecDepth 100000 in
set_option maxHeartbeats 4000000 in
theorem rules_impl (x y a b : Int) (w : World) : Calls Tryd.prog 42 #[.agg #[.int .i64 x, .int .i64 y, .int .i64 a, .int .i64 b]] w fun e w' => e = .returned (.bool (ruB (x, y, a, b))) ∧ Below w.heap.size w w' := by
  by_cases h1 : inI x 0 500 = true
  rotate_left
  · skip
    try simp only [Bool.not_eq_true] at h1
    try simp only [Bool.not_eq_true] at h2
    try simp only [Bool.not_eq_true] at h5
    have HR := Lib.hid (show ruB (x, y, a, b) = false by unfold ruB; (try rw [show inI a 0 90 = false by unfold inI; simp; omega]); (try rw [show inI a 0 90 = true by unfold inI; simp; omega]); simp only [*, Bool.false_and, Bool.and_false, Bool.and_true, Bool.true_and])
    rw [HR.out]
    go_enter Tryd.func42, Tryd.ntmps42
    go_wp2_with fail
    refine (space_any _ _).mono ?_
    rintro e w1 ⟨rfl, rfl⟩
    rw [h1]
    go_wp2
    go_ret
    exact ⟨rfl, one_alloc _⟩
  by_cases h2 : inI y 0 500 = true
  rotate_left
  · skip
    try simp only [Bool.not_eq_true] at h1
    try simp only [Bool.not_eq_true] at h2
    try simp only [Bool.not_eq_true] at h5
    have HR := Lib.hid (show ruB (x, y, a, b) = false by unfold ruB; (try rw [show inI a 0 90 = false by unfold inI; simp; omega]); (try rw [show inI a 0 90 = true by unfold inI; simp; omega]); simp only [*, Bool.false_and, Bool.and_false, Bool.and_true, Bool.true_and])
    rw [HR.out]
    go_enter Tryd.func42, Tryd.ntmps42
    go_wp2_with fail
    refine (space_any _ _).mono ?_
    rintro e w1 ⟨rfl, rfl⟩
    rw [h1]
    go_wp2_with fail
    refine (space_any _ _).mono ?_
    rintro e w1 ⟨rfl, rfl⟩
    rw [h2]
    go_wp2
    go_ret
    exact ⟨rfl, one_alloc _⟩
  by_cases h3 : 0 ≤ a
  rotate_left
  · skip
    try simp only [Bool.not_eq_true] at h1
    try simp only [Bool.not_eq_true] at h2
    try simp only [Bool.not_eq_true] at h5
    have HR := Lib.hid (show ruB (x, y, a, b) = false by unfold ruB; (try rw [show inI a 0 90 = false by unfold inI; simp; omega]); (try rw [show inI a 0 90 = true by unfold inI; simp; omega]); simp only [*, Bool.false_and, Bool.and_false, Bool.and_true, Bool.true_and])
    rw [HR.out]
    go_enter Tryd.func42, Tryd.ntmps42
    go_wp2_with fail
    refine (space_any _ _).mono ?_
    rintro e w1 ⟨rfl, rfl⟩
    rw [h1]
    go_wp2_with fail
    refine (space_any _ _).mono ?_
    rintro e w1 ⟨rfl, rfl⟩
    rw [h2]
    go_wp2
    go_ret
    exact ⟨rfl, one_alloc _⟩
  by_cases h4 : a ≤ 90
  rotate_left
  · skip
    try simp only [Bool.not_eq_true] at h1
    try simp only [Bool.not_eq_true] at h2
    try simp only [Bool.not_eq_true] at h5
    have HR := Lib.hid (show ruB (x, y, a, b) = false by unfold ruB; (try rw [show inI a 0 90 = false by unfold inI; simp; omega]); (try rw [show inI a 0 90 = true by unfold inI; simp; omega]); simp only [*, Bool.false_and, Bool.and_false, Bool.and_true, Bool.true_and])
    rw [HR.out]
    go_enter Tryd.func42, Tryd.ntmps42
    go_wp2_with fail
    refine (space_any _ _).mono ?_
    rintro e w1 ⟨rfl, rfl⟩
    rw [h1]
    go_wp2_with fail
    refine (space_any _ _).mono ?_
    rintro e w1 ⟨rfl, rfl⟩
    rw [h2]
    go_wp2
    go_ret
    exact ⟨rfl, one_alloc _⟩
  by_cases h5 : inI b 0 100 = true
  rotate_left
  · skip
    try simp only [Bool.not_eq_true] at h1
    try simp only [Bool.not_eq_true] at h2
    try simp only [Bool.not_eq_true] at h5
    have HR := Lib.hid (show ruB (x, y, a, b) = false by unfold ruB; (try rw [show inI a 0 90 = false by unfold inI; simp; omega]); (try rw [show inI a 0 90 = true by unfold inI; simp; omega]); simp only [*, Bool.false_and, Bool.and_false, Bool.and_true, Bool.true_and])
    rw [HR.out]
    go_enter Tryd.func42, Tryd.ntmps42
    go_wp2_with fail
    refine (space_any _ _).mono ?_
    rintro e w1 ⟨rfl, rfl⟩
    rw [h1]
    go_wp2_with fail
    refine (space_any _ _).mono ?_
    rintro e w1 ⟨rfl, rfl⟩
    rw [h2]
    go_wp2_with fail
    refine (shade_ven _ _).mono ?_
    rintro e w1 ⟨rfl, rfl⟩
    rw [h5]
    go_wp2
    go_ret
    exact ⟨rfl, one_alloc _⟩
  try simp only [Bool.not_eq_true] at h1
  try simp only [Bool.not_eq_true] at h2
  try simp only [Bool.not_eq_true] at h5
  have HR := Lib.hid (show ruB (x, y, a, b) = true by unfold ruB; (try rw [show inI a 0 90 = false by unfold inI; simp; omega]); (try rw [show inI a 0 90 = true by unfold inI; simp; omega]); simp only [*, Bool.false_and, Bool.and_false, Bool.and_true, Bool.true_and])
  rw [HR.out]
  go_enter Tryd.func42, Tryd.ntmps42
  go_wp2_with fail
  refine (space_any _ _).mono ?_
  rintro e w1 ⟨rfl, rfl⟩
  rw [h1]
  go_wp2_with fail
  refine (space_any _ _).mono ?_
  rintro e w1 ⟨rfl, rfl⟩
  rw [h2]
  go_wp2_with fail
  refine (shade_ven _ _).mono ?_
  rintro e w1 ⟨rfl, rfl⟩
  rw [h5]
  go_wp2
  go_ret
  exact ⟨rfl, one_alloc _⟩
set_option maxRecDepth 100000 in
set_option maxHeartbeats 4000000 in
theorem one_pm (q o : Nat) (z : Pm) (w : World) (hv : PmAt w q o z) : Calls Tryd.prog 26 #[.pointer (some ⟨q, o, none⟩)] w fun e w' => e = .returned (.bool (pmB z)) ∧ w = w' := by
  obtain ⟨hq, v0, v1, v2, v3, v4⟩ := hv
  obtain ⟨f, l, x, y, t⟩ := z
  simp only at v0 v1 v2 v3 v4
  by_cases h1 : inI f 0 23 = true
  rotate_left
  · skip
    try simp only [Bool.not_eq_true] at h1
    have HR := Lib.hid (show pmB (f, l, x, y, t) = false by unfold pmB; simp only [*, Bool.false_and, Bool.and_false, Bool.and_true, Bool.true_and])
    rw [HR.out]
    go_enter Tryd.func26, Tryd.ntmps26
    go_wp2_with fail
    refine (in_any _ _ _ _).mono ?_
    rintro e w1 ⟨rfl, rfl⟩
    rw [h1]
    go_wp2
    go_ret
    exact ⟨rfl, rfl⟩
  by_cases h2 : inI l 0 15 = true
  rotate_left
  · skip
    try simp only [Bool.not_eq_true] at h2
    have HR := Lib.hid (show pmB (f, l, x, y, t) = false by unfold pmB; simp only [*, Bool.false_and, Bool.and_false, Bool.and_true, Bool.true_and])
    rw [HR.out]
    go_enter Tryd.func26, Tryd.ntmps26
    go_wp2_with fail
    refine (in_any _ _ _ _).mono ?_
    rintro e w1 ⟨rfl, rfl⟩
    rw [h1]
    go_wp2_with fail
    refine (in_any _ _ _ _).mono ?_
    rintro e w1 ⟨rfl, rfl⟩
    rw [h2]
    go_wp2
    go_ret
    exact ⟨rfl, rfl⟩
  by_cases h3 : inI x 0 20000 = true
  rotate_left
  · skip
    try simp only [Bool.not_eq_true] at h3
    have HR := Lib.hid (show pmB (f, l, x, y, t) = false by unfold pmB; simp only [*, Bool.false_and, Bool.and_false, Bool.and_true, Bool.true_and])
    rw [HR.out]
    go_enter Tryd.func26, Tryd.ntmps26
    go_wp2_with fail
    refine (in_any _ _ _ _).mono ?_
    rintro e w1 ⟨rfl, rfl⟩
    rw [h1]
    go_wp2_with fail
    refine (in_any _ _ _ _).mono ?_
    rintro e w1 ⟨rfl, rfl⟩
    rw [h2]
    go_wp2_with fail
    refine (in_any _ _ _ _).mono ?_
    rintro e w1 ⟨rfl, rfl⟩
    rw [h3]
    go_wp2
    go_ret
    exact ⟨rfl, rfl⟩
  by_cases h4 : inI y 0 20000 = true
  rotate_left
  · skip
    try simp only [Bool.not_eq_true] at h4
    have HR := Lib.hid (show pmB (f, l, x, y, t) = false by unfold pmB; simp only [*, Bool.false_and, Bool.and_false, Bool.and_true, Bool.true_and])
    rw [HR.out]
    go_enter Tryd.func26, Tryd.ntmps26
    go_wp2_with fail
    refine (in_any _ _ _ _).mono ?_
    rintro e w1 ⟨rfl, rfl⟩
    rw [h1]
    go_wp2_with fail
    refine (in_any _ _ _ _).mono ?_
    rintro e w1 ⟨rfl, rfl⟩
    rw [h2]
    go_wp2_with fail
    refine (in_any _ _ _ _).mono ?_
    rintro e w1 ⟨rfl, rfl⟩
    rw [h3]
    go_wp2_with fail
    refine (in_any _ _ _ _).mono ?_
    rintro e w1 ⟨rfl, rfl⟩
    rw [h4]
    go_wp2
    go_ret
    exact ⟨rfl, rfl⟩
  by_cases h5 : inI t 0 7 = true
  rotate_left
  · skip
    try simp only [Bool.not_eq_true] at h5
    have HR := Lib.hid (show pmB (f, l, x, y, t) = false by unfold pmB; simp only [*, Bool.false_and, Bool.and_false, Bool.and_true, Bool.true_and])
    rw [HR.out]
    go_enter Tryd.func26, Tryd.ntmps26
    go_wp2_with fail
    refine (in_any _ _ _ _).mono ?_
    rintro e w1 ⟨rfl, rfl⟩
    rw [h1]
    go_wp2_with fail
    refine (in_any _ _ _ _).mono ?_
    rintro e w1 ⟨rfl, rfl⟩
    rw [h2]
    go_wp2_with fail
    refine (in_any _ _ _ _).mono ?_
    rintro e w1 ⟨rfl, rfl⟩
    rw [h3]
    go_wp2_with fail
    refine (in_any _ _ _ _).mono ?_
    rintro e w1 ⟨rfl, rfl⟩
    rw [h4]
    go_wp2_with fail
    refine (turn3_ven _ _).mono ?_
    rintro e w1 ⟨rfl, rfl⟩
    rw [h5]
    go_wp2
    go_ret
    exact ⟨rfl, rfl⟩
  try simp only [Bool.not_eq_true] at h6
  have HR := Lib.hid (show pmB (f, l, x, y, t) = true by unfold pmB; simp only [*, Bool.false_and, Bool.and_false, Bool.and_true, Bool.true_and])
  rw [HR.out]
  go_enter Tryd.func26, Tryd.ntmps26
  go_wp2_with fail
  refine (in_any _ _ _ _).mono ?_
  rintro e w1 ⟨rfl, rfl⟩
  rw [h1]
  go_wp2_with fail
  refine (in_any _ _ _ _).mono ?_
  rintro e w1 ⟨rfl, rfl⟩
  rw [h2]
  go_wp2_with fail
  refine (in_any _ _ _ _).mono ?_
  rintro e w1 ⟨rfl, rfl⟩
  rw [h3]
  go_wp2_with fail
  refine (in_any _ _ _ _).mono ?_
  rintro e w1 ⟨rfl, rfl⟩
  rw [h4]
  go_wp2_with fail
  refine (turn3_ven _ _).mono ?_
  rintro e w1 ⟨rfl, rfl⟩
  rw [h5]
  go_wp2
  go_ret
  exact ⟨rfl, rfl⟩
set_option maxRecDepth 100000 in
set_option maxHeartbeats 4000000 in
theorem valid_pm (f l x y t : Int) (w : World) : Calls Tryd.prog 28 #[.agg #[.int .i64 f, .int .i64 l, .int .i64 x, .int .i64 y, .int .i64 t]] w fun e w' => e = .returned (.bool (pmB (f, l, x, y, t))) ∧ Below w.heap.size w w' := by
  by_cases h1 : 0 ≤ f
  rotate_left
  · skip
    try simp only [Bool.not_eq_true] at h5
    try simp only [Bool.not_eq_true] at h6
    have HR := Lib.hid (show pmB (f, l, x, y, t) = false by first | (rw [Bool.eq_false_iff]; intro hh; have hp := pmB_iff.1 hh; simp only at hp; (first | omega | (simp [okI, inI] at h5; omega) | (simp [inI] at h6; omega))) | (rw [pmB_iff]; simp [okI, inI] at h5 h6; simp only; omega))
    rw [HR.out]
    go_enter Tryd.func28, Tryd.ntmps28
    go_wp2
    go_ret
    exact ⟨rfl, one_alloc _⟩
  by_cases h2 : f < 24
  rotate_left
  · skip
    try simp only [Bool.not_eq_true] at h5
    try simp only [Bool.not_eq_true] at h6
    have HR := Lib.hid (show pmB (f, l, x, y, t) = false by first | (rw [Bool.eq_false_iff]; intro hh; have hp := pmB_iff.1 hh; simp only at hp; (first | omega | (simp [okI, inI] at h5; omega) | (simp [inI] at h6; omega))) | (rw [pmB_iff]; simp [okI, inI] at h5 h6; simp only; omega))
    rw [HR.out]
    go_enter Tryd.func28, Tryd.ntmps28
    go_wp2
    go_ret
    exact ⟨rfl, one_alloc _⟩
  by_cases h3 : 0 ≤ l
  rotate_left
  · skip
    try simp only [Bool.not_eq_true] at h5
    try simp only [Bool.not_eq_true] at h6
    have HR := Lib.hid (show pmB (f, l, x, y, t) = false by first | (rw [Bool.eq_false_iff]; intro hh; have hp := pmB_iff.1 hh; simp only at hp; (first | omega | (simp [okI, inI] at h5; omega) | (simp [inI] at h6; omega))) | (rw [pmB_iff]; simp [okI, inI] at h5 h6; simp only; omega))
    rw [HR.out]
    go_enter Tryd.func28, Tryd.ntmps28
    go_wp2
    go_ret
    exact ⟨rfl, one_alloc _⟩
  by_cases h4 : l < 16
  rotate_left
  · skip
    try simp only [Bool.not_eq_true] at h5
    try simp only [Bool.not_eq_true] at h6
    have HR := Lib.hid (show pmB (f, l, x, y, t) = false by first | (rw [Bool.eq_false_iff]; intro hh; have hp := pmB_iff.1 hh; simp only at hp; (first | omega | (simp [okI, inI] at h5; omega) | (simp [inI] at h6; omega))) | (rw [pmB_iff]; simp [okI, inI] at h5 h6; simp only; omega))
    rw [HR.out]
    go_enter Tryd.func28, Tryd.ntmps28
    go_wp2
    go_ret
    exact ⟨rfl, one_alloc _⟩
  by_cases h5 : okI x y = true
  rotate_left
  · skip
    try simp only [Bool.not_eq_true] at h5
    try simp only [Bool.not_eq_true] at h6
    have HR := Lib.hid (show pmB (f, l, x, y, t) = false by first | (rw [Bool.eq_false_iff]; intro hh; have hp := pmB_iff.1 hh; simp only at hp; (first | omega | (simp [okI, inI] at h5; omega) | (simp [inI] at h6; omega))) | (rw [pmB_iff]; simp [okI, inI] at h5 h6; simp only; omega))
    rw [HR.out]
    go_enter Tryd.func28, Tryd.ntmps28
    go_wp2_with fail
    refine (valid_impl x y _).mono ?_
    rintro e w1 ⟨rfl, g1⟩
    have HG := Lib.hid (bseq (one_alloc _) g1)
    obtain ⟨k1, q1⟩ := bcell g1
    clear g1
    rw [h5]
    go_wp2
    go_ret
    exact ⟨rfl, HG.out⟩
  by_cases h6 : inI t 0 7 = true
  rotate_left
  · skip
    try simp only [Bool.not_eq_true] at h5
    try simp only [Bool.not_eq_true] at h6
    have HR := Lib.hid (show pmB (f, l, x, y, t) = false by first | (rw [Bool.eq_false_iff]; intro hh; have hp := pmB_iff.1 hh; simp only at hp; (first | omega | (simp [okI, inI] at h5; omega) | (simp [inI] at h6; omega))) | (rw [pmB_iff]; simp [okI, inI] at h5 h6; simp only; omega))
    rw [HR.out]
    go_enter Tryd.func28, Tryd.ntmps28
    go_wp2_with fail
    refine (valid_impl x y _).mono ?_
    rintro e w1 ⟨rfl, g1⟩
    have HG := Lib.hid (bseq (one_alloc _) g1)
    obtain ⟨k1, q1⟩ := bcell g1
    clear g1
    rw [h5]
    go_wp2_with fail
    refine (isturn_ven _ _).mono ?_
    rintro e w2 ⟨rfl, rfl⟩
    rw [h6]
    go_wp2
    go_ret
    exact ⟨rfl, HG.out⟩
  try simp only [Bool.not_eq_true] at h5
  try simp only [Bool.not_eq_true] at h6
  have HR := Lib.hid (show pmB (f, l, x, y, t) = true by first | (rw [Bool.eq_false_iff]; intro hh; have hp := pmB_iff.1 hh; simp only at hp; (first | omega | (simp [okI, inI] at h5; omega) | (simp [inI] at h6; omega))) | (rw [pmB_iff]; simp [okI, inI] at h5 h6; simp only; omega))
  rw [HR.out]
  go_enter Tryd.func28, Tryd.ntmps28
  go_wp2_with fail
  refine (valid_impl x y _).mono ?_
  rintro e w1 ⟨rfl, g1⟩
  have HG := Lib.hid (bseq (one_alloc _) g1)
  obtain ⟨k1, q1⟩ := bcell g1
  clear g1
  rw [h5]
  go_wp2_with fail
  refine (isturn_ven _ _).mono ?_
  rintro e w2 ⟨rfl, rfl⟩
  rw [h6]
  go_wp2
  go_ret
  exact ⟨rfl, HG.out⟩
end Go.Proofs.YtmfchcaidfloaaaDoor
