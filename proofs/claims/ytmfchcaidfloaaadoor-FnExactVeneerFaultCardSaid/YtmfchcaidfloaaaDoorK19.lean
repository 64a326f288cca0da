/- Several texts in one: Lea1, Lea2, Lea3, Lea4. -/
import Derived.Test.YtmfchcaidfloaaaDoorTyBox
import Derived.Test.YtmfchcaidfloaaaDoorK1
import Derived.Test.YtmfchcaidfloaaaDoorSeq3
import Derived.Test.YtmfchcaidfloaaaDoorDrw9
import Derived.Test.YtmfchcaidfloaaaDoorK20
import Derived.Test.YtmfchcaidfloaaaDoorVen6
import Derived.Test.YtmfchcaidfloaaaDoorVen8
import Derived.Test.YtmfchcaidfloaaaDoorK16
import Derived.Test.YtmfchcaidfloaaaDoorBl
namespace Go.Proofs.YtmfchcaidfloaaaDoor
open Seq2 Go.ChangeShapes Go.WideShapes Go.ChangeAt Go.RowKit
set_option linter.unusedVariables false
set_option linter.unusedSimpArgs false

theorem inIb {a lo hi : Int} : inI a lo hi = true ↔ lo ≤ a ∧ a ≤ hi := by unfold inI; simp
def boxW (z : Bx) (W L : Int) : Bool := inI z.1 0 W && (inI z.2.1 0 L && (inI z.2.2.1 1 (W - z.1) && inI z.2.2.2 1 (L - z.2.1)))
theorem boxW_iff {z : Bx} {W L : Int} : boxW z W L = true ↔ 0 ≤ z.1 ∧ z.1 ≤ W ∧ 0 ≤ z.2.1 ∧ z.2.1 ≤ L ∧ 1 ≤ z.2.2.1 ∧ z.2.2.1 ≤ W - z.1 ∧ 1 ≤ z.2.2.2 ∧ z.2.2.2 ≤ L - z.2.1 := by
  simp only [boxW, inI, Bool.and_eq_true, decide_eq_true_eq, and_assoc]
def metB (a b : Bx) : Bool := decide (a.1 < b.1 + b.2.2.1) && (decide (b.1 < a.1 + a.2.2.1) && (decide (a.2.1 < b.2.1 + b.2.2.2) && decide (b.2.1 < a.2.1 + a.2.2.2)))
theorem metB_iff {a b : Bx} : metB a b = true ↔ a.1 < b.1 + b.2.2.1 ∧ b.1 < a.1 + a.2.2.1 ∧ a.2.1 < b.2.1 + b.2.2.2 ∧ b.2.1 < a.2.1 + a.2.2.2 := by
  simp only [metB, Bool.and_eq_true, decide_eq_true_eq]
/-- The numbers of a box are small. -/
def bxS (z : Bx) : Prop := -20000 ≤ z.1 ∧ z.1 ≤ 40000 ∧ -20000 ≤ z.2.1 ∧ z.2.1 ≤ 40000 ∧ -40000 ≤ z.2.2.1 ∧ z.2.2.1 ≤ 40000 ∧ -40000 ≤ z.2.2.2 ∧ z.2.2.2 ≤ 40000
theorem bxS_of {z : Bx} {W L : Int} (h : boxW z W L = true) (hW : W ≤ 20000) (hL : L ≤ 20000) : bxS z := by
  have := boxW_iff.1 h
  unfold bxS; omega
set_option maxRecDepth 100000 in
set_option maxHeartbeats 4000000 in
theorem within_impl (x y a b W L : Int) (w : World) (hW : 0 ≤ W ∧ W ≤ 20000) (hL : 0 ≤ L ∧ L ≤ 20000) :
    Calls Tryd.prog 108 #[.agg #[.int .i64 x, .int .i64 y, .int .i64 a, .int .i64 b], .int .i64 W, .int .i64 L] w fun e w' => e = .returned (.bool (boxW (x, y, a, b) W L)) ∧ Below w.heap.size w w' := by
  by_cases h1 : 0 ≤ x
  rotate_left
  · skip
    have HR := Lib.hid (show boxW (x, y, a, b) W L = false by first | exact boxW_iff.2 (by simp only; omega) | exact Bool.eq_false_iff.2 (fun h => by have := boxW_iff.1 h; simp only at this; omega))
    try have i1 : IntKind.i64.wrap (W - x) = W - x := IntWalk.i64_in _ (by omega)
    try have i2 : IntKind.i64.wrap (L - y) = L - y := IntWalk.i64_in _ (by omega)
    clear hW hL
    rw [HR.out]
    go_enter Tryd.func108, Tryd.ntmps108
    go_wp2
    go_ret
    exact ⟨rfl, one_alloc _⟩
  by_cases h2 : x ≤ W
  rotate_left
  · skip
    have HR := Lib.hid (show boxW (x, y, a, b) W L = false by first | exact boxW_iff.2 (by simp only; omega) | exact Bool.eq_false_iff.2 (fun h => by have := boxW_iff.1 h; simp only at this; omega))
    try have i1 : IntKind.i64.wrap (W - x) = W - x := IntWalk.i64_in _ (by omega)
    try have i2 : IntKind.i64.wrap (L - y) = L - y := IntWalk.i64_in _ (by omega)
    clear hW hL
    rw [HR.out]
    go_enter Tryd.func108, Tryd.ntmps108
    go_wp2
    go_ret
    exact ⟨rfl, one_alloc _⟩
  by_cases h3 : 0 ≤ y
  rotate_left
  · skip
    have HR := Lib.hid (show boxW (x, y, a, b) W L = false by first | exact boxW_iff.2 (by simp only; omega) | exact Bool.eq_false_iff.2 (fun h => by have := boxW_iff.1 h; simp only at this; omega))
    try have i1 : IntKind.i64.wrap (W - x) = W - x := IntWalk.i64_in _ (by omega)
    try have i2 : IntKind.i64.wrap (L - y) = L - y := IntWalk.i64_in _ (by omega)
    clear hW hL
    rw [HR.out]
    go_enter Tryd.func108, Tryd.ntmps108
    go_wp2
    go_ret
    exact ⟨rfl, one_alloc _⟩
  by_cases h4 : y ≤ L
  rotate_left
  · skip
    have HR := Lib.hid (show boxW (x, y, a, b) W L = false by first | exact boxW_iff.2 (by simp only; omega) | exact Bool.eq_false_iff.2 (fun h => by have := boxW_iff.1 h; simp only at this; omega))
    try have i1 : IntKind.i64.wrap (W - x) = W - x := IntWalk.i64_in _ (by omega)
    try have i2 : IntKind.i64.wrap (L - y) = L - y := IntWalk.i64_in _ (by omega)
    clear hW hL
    rw [HR.out]
    go_enter Tryd.func108, Tryd.ntmps108
    go_wp2
    go_ret
    exact ⟨rfl, one_alloc _⟩
  by_cases h5 : 1 ≤ a
  rotate_left
  · skip
    have HR := Lib.hid (show boxW (x, y, a, b) W L = false by first | exact boxW_iff.2 (by simp only; omega) | exact Bool.eq_false_iff.2 (fun h => by have := boxW_iff.1 h; simp only at this; omega))
    try have i1 : IntKind.i64.wrap (W - x) = W - x := IntWalk.i64_in _ (by omega)
    try have i2 : IntKind.i64.wrap (L - y) = L - y := IntWalk.i64_in _ (by omega)
    clear hW hL
    rw [HR.out]
    go_enter Tryd.func108, Tryd.ntmps108
    go_wp2
    go_ret
    exact ⟨rfl, one_alloc _⟩
  by_cases h6 : a ≤ W - x
  rotate_left
  · skip
    have HR := Lib.hid (show boxW (x, y, a, b) W L = false by first | exact boxW_iff.2 (by simp only; omega) | exact Bool.eq_false_iff.2 (fun h => by have := boxW_iff.1 h; simp only at this; omega))
    try have i1 : IntKind.i64.wrap (W - x) = W - x := IntWalk.i64_in _ (by omega)
    try have i2 : IntKind.i64.wrap (L - y) = L - y := IntWalk.i64_in _ (by omega)
    clear hW hL
    rw [HR.out]
    go_enter Tryd.func108, Tryd.ntmps108
    go_wp2
    go_ret
    exact ⟨rfl, one_alloc _⟩
  by_cases h7 : 1 ≤ b
  rotate_left
  · skip
    have HR := Lib.hid (show boxW (x, y, a, b) W L = false by first | exact boxW_iff.2 (by simp only; omega) | exact Bool.eq_false_iff.2 (fun h => by have := boxW_iff.1 h; simp only at this; omega))
    try have i1 : IntKind.i64.wrap (W - x) = W - x := IntWalk.i64_in _ (by omega)
    try have i2 : IntKind.i64.wrap (L - y) = L - y := IntWalk.i64_in _ (by omega)
    clear hW hL
    rw [HR.out]
    go_enter Tryd.func108, Tryd.ntmps108
    go_wp2
    go_ret
    exact ⟨rfl, one_alloc _⟩
  by_cases h8 : b ≤ L - y
  rotate_left
  · skip
    have HR := Lib.hid (show boxW (x, y, a, b) W L = false by first | exact boxW_iff.2 (by simp only; omega) | exact Bool.eq_false_iff.2 (fun h => by have := boxW_iff.1 h; simp only at this; omega))
    try have i1 : IntKind.i64.wrap (W - x) = W - x := IntWalk.i64_in _ (by omega)
    try have i2 : IntKind.i64.wrap (L - y) = L - y := IntWalk.i64_in _ (by omega)
    clear hW hL
    rw [HR.out]
    go_enter Tryd.func108, Tryd.ntmps108
    go_wp2
    go_ret
    exact ⟨rfl, one_alloc _⟩
  have HR := Lib.hid (show boxW (x, y, a, b) W L = true by first | exact boxW_iff.2 (by simp only; omega) | exact Bool.eq_false_iff.2 (fun h => by have := boxW_iff.1 h; simp only at this; omega))
  try have i1 : IntKind.i64.wrap (W - x) = W - x := IntWalk.i64_in _ (by omega)
  try have i2 : IntKind.i64.wrap (L - y) = L - y := IntWalk.i64_in _ (by omega)
  clear hW hL
  rw [HR.out]
  go_enter Tryd.func108, Tryd.ntmps108
  go_wp2
  go_ret
  exact ⟨rfl, one_alloc _⟩
set_option maxRecDepth 100000 in
set_option maxHeartbeats 8000000 in
theorem box_spec (q o : Nat) (z : Bx) (W L : Int) (w : World) (hv : BxAt w q o z) (hW : 0 ≤ W ∧ W ≤ 20000) (hL : 0 ≤ L ∧ L ≤ 20000) :
    Calls Tryd.prog 68 #[.pointer (some ⟨q, o, none⟩), .int .i64 W, .int .i64 L] w fun e w' => e = .returned (.bool (boxW z W L)) ∧ Below w.heap.size w w' := by
  obtain ⟨hq, c0, c1, c2, c3⟩ := hv
  obtain ⟨x, y, a, b⟩ := z
  simp only at c0 c1 c2 c3
  by_cases h1 : inI x 0 W = true
  rotate_left
  · skip
    have HR := Lib.hid (show boxW (x, y, a, b) W L = false by unfold boxW; simp only [*, Bool.false_and, Bool.and_false, Bool.and_true, Bool.true_and])
    try have i1 : IntKind.i64.wrap (W - x) = W - x := IntWalk.i64_in _ (by have := inIb.1 h1; omega)
    try have i2 : IntKind.i64.wrap (L - y) = L - y := IntWalk.i64_in _ (by have := inIb.1 h2; omega)
    try simp only [Bool.not_eq_true] at h1
    clear hW hL
    rw [HR.out]
    go_enter Tryd.func68, Tryd.ntmps68
    go_wp2
    refine wp_region_below (by kernel_rfl) (by kernel_rfl) ?_
    repeat (first | (refine wq_skip ?_ ?_; (focus (go_simp; (first | done | (simp [undef]; done)))); (try simp only [Act.put, List.setIfInBounds_toArray, List.set_cons_zero, List.set_cons_succ])) | (refine wq_val ?_ ?_; (focus (go_simp; done)); apply Exists.intro; refine ⟨fun w1 hw1 => ?_, ?_⟩; (obtain ⟨hc, hf⟩ := bcell hw1; clear hw1; go_simp; (first | done | with_reducible rfl | (with_reducible exact eql2 _ _ _) | (with_reducible exact neq2 _ _ _))); (try simp only [Act.put, List.setIfInBounds_toArray, List.set_cons_zero, List.set_cons_succ])) | (refine wq_call 55 ?_ ?_; (focus (go_simp; done)); apply Exists.intro; refine ⟨fun w1 hw1 => ?_, ?_⟩; (focus (clear hw1; go_simp; (first | done | with_reducible rfl))); apply Exists.intro; refine ⟨fun w1 hw1 => ?_, ?_⟩; (focus (exact calls_below_same hw1 (in_any _ _ _ _); done)); (try simp only [Act.put, List.setIfInBounds_toArray, List.set_cons_zero, List.set_cons_succ])))
    refine wq_nil ?_
    intro w1 hb1
    have HB1 := Lib.hid hb1
    clear hb1
    go_wp2
    go_ret
    exact ⟨by first | rfl | exact ret_bool' (by simp [*]), HB1.out⟩
  by_cases h2 : inI y 0 L = true
  rotate_left
  · skip
    have HR := Lib.hid (show boxW (x, y, a, b) W L = false by unfold boxW; simp only [*, Bool.false_and, Bool.and_false, Bool.and_true, Bool.true_and])
    try have i1 : IntKind.i64.wrap (W - x) = W - x := IntWalk.i64_in _ (by have := inIb.1 h1; omega)
    try have i2 : IntKind.i64.wrap (L - y) = L - y := IntWalk.i64_in _ (by have := inIb.1 h2; omega)
    try simp only [Bool.not_eq_true] at h2
    clear hW hL
    rw [HR.out]
    go_enter Tryd.func68, Tryd.ntmps68
    go_wp2
    refine wp_region_below (by kernel_rfl) (by kernel_rfl) ?_
    repeat (first | (refine wq_skip ?_ ?_; (focus (go_simp; (first | done | (simp [undef]; done)))); (try simp only [Act.put, List.setIfInBounds_toArray, List.set_cons_zero, List.set_cons_succ])) | (refine wq_val ?_ ?_; (focus (go_simp; done)); apply Exists.intro; refine ⟨fun w1 hw1 => ?_, ?_⟩; (obtain ⟨hc, hf⟩ := bcell hw1; clear hw1; go_simp; (first | done | with_reducible rfl | (with_reducible exact eql2 _ _ _) | (with_reducible exact neq2 _ _ _))); (try simp only [Act.put, List.setIfInBounds_toArray, List.set_cons_zero, List.set_cons_succ])) | (refine wq_call 55 ?_ ?_; (focus (go_simp; done)); apply Exists.intro; refine ⟨fun w1 hw1 => ?_, ?_⟩; (focus (clear hw1; go_simp; (first | done | with_reducible rfl))); apply Exists.intro; refine ⟨fun w1 hw1 => ?_, ?_⟩; (focus (exact calls_below_same hw1 (in_any _ _ _ _); done)); (try simp only [Act.put, List.setIfInBounds_toArray, List.set_cons_zero, List.set_cons_succ])))
    refine wq_nil ?_
    intro w1 hb1
    have HB1 := Lib.hid hb1
    clear hb1
    go_wp2
    go_ret
    exact ⟨by first | rfl | exact ret_bool' (by simp [*]), HB1.out⟩
  by_cases h3 : inI a 1 (W - x) = true
  rotate_left
  · skip
    have HR := Lib.hid (show boxW (x, y, a, b) W L = false by unfold boxW; simp only [*, Bool.false_and, Bool.and_false, Bool.and_true, Bool.true_and])
    try have i1 : IntKind.i64.wrap (W - x) = W - x := IntWalk.i64_in _ (by have := inIb.1 h1; omega)
    try have i2 : IntKind.i64.wrap (L - y) = L - y := IntWalk.i64_in _ (by have := inIb.1 h2; omega)
    try simp only [Bool.not_eq_true] at h3
    clear hW hL
    rw [HR.out]
    go_enter Tryd.func68, Tryd.ntmps68
    go_wp2
    refine wp_region_below (by kernel_rfl) (by kernel_rfl) ?_
    repeat (first | (refine wq_skip ?_ ?_; (focus (go_simp; (first | done | (simp [undef]; done)))); (try simp only [Act.put, List.setIfInBounds_toArray, List.set_cons_zero, List.set_cons_succ])) | (refine wq_val ?_ ?_; (focus (go_simp; done)); apply Exists.intro; refine ⟨fun w1 hw1 => ?_, ?_⟩; (obtain ⟨hc, hf⟩ := bcell hw1; clear hw1; go_simp; (first | done | with_reducible rfl | (with_reducible exact eql2 _ _ _) | (with_reducible exact neq2 _ _ _))); (try simp only [Act.put, List.setIfInBounds_toArray, List.set_cons_zero, List.set_cons_succ])) | (refine wq_call 55 ?_ ?_; (focus (go_simp; done)); apply Exists.intro; refine ⟨fun w1 hw1 => ?_, ?_⟩; (focus (clear hw1; go_simp; (first | done | with_reducible rfl))); apply Exists.intro; refine ⟨fun w1 hw1 => ?_, ?_⟩; (focus (exact calls_below_same hw1 (in_any _ _ _ _); done)); (try simp only [Act.put, List.setIfInBounds_toArray, List.set_cons_zero, List.set_cons_succ])))
    refine wq_nil ?_
    intro w1 hb1
    have HB1 := Lib.hid hb1
    clear hb1
    go_wp2
    go_ret
    exact ⟨by first | rfl | exact ret_bool' (by simp [*]), HB1.out⟩
  by_cases h4 : inI b 1 (L - y) = true
  rotate_left
  · skip
    have HR := Lib.hid (show boxW (x, y, a, b) W L = false by unfold boxW; simp only [*, Bool.false_and, Bool.and_false, Bool.and_true, Bool.true_and])
    try have i1 : IntKind.i64.wrap (W - x) = W - x := IntWalk.i64_in _ (by have := inIb.1 h1; omega)
    try have i2 : IntKind.i64.wrap (L - y) = L - y := IntWalk.i64_in _ (by have := inIb.1 h2; omega)
    try simp only [Bool.not_eq_true] at h4
    clear hW hL
    rw [HR.out]
    go_enter Tryd.func68, Tryd.ntmps68
    go_wp2
    refine wp_region_below (by kernel_rfl) (by kernel_rfl) ?_
    repeat (first | (refine wq_skip ?_ ?_; (focus (go_simp; (first | done | (simp [undef]; done)))); (try simp only [Act.put, List.setIfInBounds_toArray, List.set_cons_zero, List.set_cons_succ])) | (refine wq_val ?_ ?_; (focus (go_simp; done)); apply Exists.intro; refine ⟨fun w1 hw1 => ?_, ?_⟩; (obtain ⟨hc, hf⟩ := bcell hw1; clear hw1; go_simp; (first | done | with_reducible rfl | (with_reducible exact eql2 _ _ _) | (with_reducible exact neq2 _ _ _))); (try simp only [Act.put, List.setIfInBounds_toArray, List.set_cons_zero, List.set_cons_succ])) | (refine wq_call 55 ?_ ?_; (focus (go_simp; done)); apply Exists.intro; refine ⟨fun w1 hw1 => ?_, ?_⟩; (focus (clear hw1; go_simp; (first | done | with_reducible rfl))); apply Exists.intro; refine ⟨fun w1 hw1 => ?_, ?_⟩; (focus (exact calls_below_same hw1 (in_any _ _ _ _); done)); (try simp only [Act.put, List.setIfInBounds_toArray, List.set_cons_zero, List.set_cons_succ])))
    refine wq_nil ?_
    intro w1 hb1
    have HB1 := Lib.hid hb1
    clear hb1
    go_wp2
    go_ret
    exact ⟨by first | rfl | exact ret_bool' (by simp [*]), HB1.out⟩
  have HR := Lib.hid (show boxW (x, y, a, b) W L = true by unfold boxW; simp only [*, Bool.false_and, Bool.and_false, Bool.and_true, Bool.true_and])
  try have i1 : IntKind.i64.wrap (W - x) = W - x := IntWalk.i64_in _ (by have := inIb.1 h1; omega)
  try have i2 : IntKind.i64.wrap (L - y) = L - y := IntWalk.i64_in _ (by have := inIb.1 h2; omega)
  try simp only [Bool.not_eq_true] at h5
  clear hW hL
  rw [HR.out]
  go_enter Tryd.func68, Tryd.ntmps68
  go_wp2
  refine wp_region_below (by kernel_rfl) (by kernel_rfl) ?_
  repeat (first | (refine wq_skip ?_ ?_; (focus (go_simp; (first | done | (simp [undef]; done)))); (try simp only [Act.put, List.setIfInBounds_toArray, List.set_cons_zero, List.set_cons_succ])) | (refine wq_val ?_ ?_; (focus (go_simp; done)); apply Exists.intro; refine ⟨fun w1 hw1 => ?_, ?_⟩; (obtain ⟨hc, hf⟩ := bcell hw1; clear hw1; go_simp; (first | done | with_reducible rfl | (with_reducible exact eql2 _ _ _) | (with_reducible exact neq2 _ _ _))); (try simp only [Act.put, List.setIfInBounds_toArray, List.set_cons_zero, List.set_cons_succ])) | (refine wq_call 55 ?_ ?_; (focus (go_simp; done)); apply Exists.intro; refine ⟨fun w1 hw1 => ?_, ?_⟩; (focus (clear hw1; go_simp; (first | done | with_reducible rfl))); apply Exists.intro; refine ⟨fun w1 hw1 => ?_, ?_⟩; (focus (exact calls_below_same hw1 (in_any _ _ _ _); done)); (try simp only [Act.put, List.setIfInBounds_toArray, List.set_cons_zero, List.set_cons_succ])))
  refine wq_nil ?_
  intro w1 hb1
  have HB1 := Lib.hid hb1
  clear hb1
  go_wp2
  go_ret
  exact ⟨by first | rfl | exact ret_bool' (by simp [*]), HB1.out⟩
end Go.Proofs.YtmfchcaidfloaaaDoor
namespace Go.Proofs.YtmfchcaidfloaaaDoor
open Seq2 Go.ChangeShapes Go.WideShapes Go.ChangeAt Go.RowKit
set_option linter.unusedVariables false
set_option linter.unusedSimpArgs false

theorem allG_no {α : Type} {p : α → Bool} {zs : List α} {d : α} {k : Nat} (hk : k < zs.length) (h : p (zs.getD k d) = false) : zs.all p = false := by
  rw [List.all_eq_false]
  refine ⟨zs.getD k d, ?_, by rw [h]; simp⟩
  rw [List.getD_eq_getElem?_getD, List.getElem?_eq_getElem hk]
  exact List.getElem_mem hk
theorem allG_yes {α : Type} {p : α → Bool} {zs : List α} {d : α} (h : ∀ j, j < zs.length → p (zs.getD j d) = true) : zs.all p = true := by
  rw [List.all_eq_true]
  intro x hx
  obtain ⟨j, hj, rfl⟩ := List.getElem_of_mem hx
  have := h j hj
  rwa [List.getD_eq_getElem?_getD, List.getElem?_eq_getElem hj] at this
def dfsB (W L : Int) (ds : List Bx) : Bool := ds.all (fun d => boxW d W L)
def lfB (z : Lf) : Bool := nameB z.id && (nameB z.fl && (inI z.nu 0 999 && (vnB z.ve && (inI z.wd 10 20000 && (inI z.ln 10 20000 && (decide (z.df.length ≤ 6) && dfsB z.wd z.ln z.df))))))
/-- A leaf lies in block b from offset o on. -/
def LfAt (w : World) (b o : Nat) (z : Lf) : Prop := ∃ v, LfV w v z ∧ AtV w b o v
theorem LfAt.below {w w' : World} {b o : Nat} {z : Lf} (h : LfAt w b o z) (hb : Below w.heap.size w w') : LfAt w' b o z := by
  obtain ⟨v, h1, h2⟩ := h
  exact ⟨v, h1.below hb, h2.below hb⟩
theorem LfV.at {w : World} {v : Value} {z : Lf} (h : LfV w v z) (t : TypeId) : LfAt (w.alloc (.cells v.cells t)) w.heap.size 0 z := ⟨v, h.below (one_alloc _), AtV.box w v t⟩
set_option maxRecDepth 100000 in
set_option maxHeartbeats 16000000 in
theorem one_lea (q o : Nat) (z : Lf) (w : World) (hv : LfAt w q o z) : Calls Tryd.prog 34 #[.pointer (some ⟨q, o, none⟩)] w fun e w' => e = .returned (.bool (lfB z)) ∧ Below w.heap.size w w' := by
  obtain ⟨v, hz, hat⟩ := hv
  obtain ⟨ao, n, c, rfl, hs, m0, m1, _, m3, _, _, hn, hd⟩ := hz.out
  have c0 : w.cell? ⟨q, o, none⟩ = some _ := hat.at 0 rfl
  have c1 : w.cell? ⟨q, o + 1, none⟩ = some _ := hat.at 1 rfl
  have c2 : w.cell? ⟨q, o + 2, none⟩ = some _ := hat.at 2 rfl
  have HVC := Lib.hid (show VC w q (o + 3) z.ve.1 z.ve.2.1 z.ve.2.2 from ⟨hat.1, hat.at 3 rfl, hat.at 4 rfl, hat.at 5 rfl⟩)
  have HAT := Lib.hid hat
  have HD := Lib.hid hd
  have HN := Lib.hid hd.1
  have hq := hat.1
  have M0 := Lib.hid (show z.id.size ≤ maxLen by unfold maxLen; omega)
  have M1 := Lib.hid (show z.fl.size ≤ maxLen by unfold maxLen; omega)
  clear hz hat hd hs m0 m1 m3
  by_cases h1 : nameB z.id = true
  rotate_left
  · skip
    try simp only [Bool.not_eq_true] at h1
    have HR := Lib.hid (show lfB z = false by unfold lfB vnB; simp only [*, Bool.false_and, Bool.and_false, Bool.and_true, Bool.true_and])
    go_enter Tryd.func34, Tryd.ntmps34
    go_wp2_with fail
    refine (name_l01 z.id _ M0.out).mono ?_
    rintro e w1 ⟨rfl, rfl⟩
    rw [h1]
    go_wp2
    go_ret
    exact ⟨ret_bool' HR.out.symm, Below.refl _ _⟩
  by_cases h2 : nameB z.fl = true
  rotate_left
  · skip
    try simp only [Bool.not_eq_true] at h2
    have HR := Lib.hid (show lfB z = false by unfold lfB vnB; simp only [*, Bool.false_and, Bool.and_false, Bool.and_true, Bool.true_and])
    go_enter Tryd.func34, Tryd.ntmps34
    go_wp2_with fail
    refine (name_l01 z.id _ M0.out).mono ?_
    rintro e w1 ⟨rfl, rfl⟩
    rw [h1]
    go_wp2_with fail
    refine (name_l01 z.fl _ M1.out).mono ?_
    rintro e w1 ⟨rfl, rfl⟩
    rw [h2]
    go_wp2
    go_ret
    exact ⟨ret_bool' HR.out.symm, Below.refl _ _⟩
  by_cases h3 : inI z.nu 0 999 = true
  rotate_left
  · skip
    try simp only [Bool.not_eq_true] at h3
    have HR := Lib.hid (show lfB z = false by unfold lfB vnB; simp only [*, Bool.false_and, Bool.and_false, Bool.and_true, Bool.true_and])
    go_enter Tryd.func34, Tryd.ntmps34
    go_wp2_with fail
    refine (name_l01 z.id _ M0.out).mono ?_
    rintro e w1 ⟨rfl, rfl⟩
    rw [h1]
    go_wp2_with fail
    refine (name_l01 z.fl _ M1.out).mono ?_
    rintro e w1 ⟨rfl, rfl⟩
    rw [h2]
    go_wp2_with fail
    refine (in_any _ _ _ _).mono ?_
    rintro e w1 ⟨rfl, rfl⟩
    rw [h3]
    go_wp2
    go_ret
    exact ⟨ret_bool' HR.out.symm, Below.refl _ _⟩
  by_cases h4 : venB z.ve.1 z.ve.2.1 z.ve.2.2 = true
  rotate_left
  · skip
    try simp only [Bool.not_eq_true] at h4
    have HR := Lib.hid (show lfB z = false by unfold lfB vnB; simp only [*, Bool.false_and, Bool.and_false, Bool.and_true, Bool.true_and])
    go_enter Tryd.func34, Tryd.ntmps34
    go_wp2_with fail
    refine (name_l01 z.id _ M0.out).mono ?_
    rintro e w1 ⟨rfl, rfl⟩
    rw [h1]
    go_wp2_with fail
    refine (name_l01 z.fl _ M1.out).mono ?_
    rintro e w1 ⟨rfl, rfl⟩
    rw [h2]
    go_wp2_with fail
    refine (in_any _ _ _ _).mono ?_
    rintro e w1 ⟨rfl, rfl⟩
    rw [h3]
    go_wp2_with fail
    refine (ok_ven _ _ _ _ _ _ HVC.out).mono ?_
    rintro e w1 ⟨rfl, g1⟩
    rw [h4]
    have HG := Lib.hid g1
    clear g1
    go_wp2
    go_ret
    exact ⟨ret_bool' HR.out.symm, HG.out⟩
  try simp only [Bool.not_eq_true] at h5
  skip
  go_enter Tryd.func34, Tryd.ntmps34
  go_wp2_with fail
  refine (name_l01 z.id _ M0.out).mono ?_
  rintro e w1 ⟨rfl, rfl⟩
  rw [h1]
  go_wp2_with fail
  refine (name_l01 z.fl _ M1.out).mono ?_
  rintro e w1 ⟨rfl, rfl⟩
  rw [h2]
  go_wp2_with fail
  refine (in_any _ _ _ _).mono ?_
  rintro e w1 ⟨rfl, rfl⟩
  rw [h3]
  go_wp2_with fail
  refine (ok_ven _ _ _ _ _ _ HVC.out).mono ?_
  rintro e w1 ⟨rfl, g1⟩
  rw [h4]
  have HG := Lib.hid g1
  clear g1
  have HAT1 := Lib.hid (HAT.out.below HG.out)
  have hq1 := HAT1.out.1
  have d4 : w1.cell? ⟨q, o + 6, none⟩ = some _ := HAT1.out.at 6 rfl
  have d5 : w1.cell? ⟨q, o + 7, none⟩ = some _ := HAT1.out.at 7 rfl
  have d6 : w1.cell? ⟨q, o + 8, none⟩ = some _ := HAT1.out.at 8 rfl
  clear c0 c1 c2
  have HRR := Lib.hid (show lfB z = (inI z.wd 10 20000 && (inI z.ln 10 20000 && (decide (z.df.length ≤ 6) && dfsB z.wd z.ln z.df))) by unfold lfB vnB; simp only [*, Bool.true_and])
  clear h1 h2 h3 h4
  by_cases h1 : inI z.wd 10 20000 = true
  rotate_left
  · skip
    try simp only [Bool.not_eq_true] at h1
    have HR := Lib.hid (show lfB z = false by rw [HRR.out]; simp only [*, Bool.false_and, Bool.and_false, Bool.and_true, Bool.true_and])
    go_wp2_with fail
    refine (in_any _ _ _ _).mono ?_
    rintro e w2 ⟨rfl, rfl⟩
    rw [h1]
    go_wp2
    go_ret
    exact ⟨ret_bool' HR.out.symm, HG.out⟩
  by_cases h2 : inI z.ln 10 20000 = true
  rotate_left
  · skip
    try simp only [Bool.not_eq_true] at h2
    have HR := Lib.hid (show lfB z = false by rw [HRR.out]; simp only [*, Bool.false_and, Bool.and_false, Bool.and_true, Bool.true_and])
    go_wp2_with fail
    refine (in_any _ _ _ _).mono ?_
    rintro e w2 ⟨rfl, rfl⟩
    rw [h1]
    go_wp2_with fail
    refine (in_any _ _ _ _).mono ?_
    rintro e w2 ⟨rfl, rfl⟩
    rw [h2]
    go_wp2
    go_ret
    exact ⟨ret_bool' HR.out.symm, HG.out⟩
  by_cases h3 : n ≤ 6
  rotate_left
  · skip
    try simp only [Bool.not_eq_true] at h3
    have HR := Lib.hid (show lfB z = false by rw [HRR.out, decide_eq_false (show ¬ z.df.length ≤ 6 by have := HN.out; omega)]; simp only [*, Bool.false_and, Bool.and_false, Bool.and_true, Bool.true_and])
    go_wp2_with fail
    refine (in_any _ _ _ _).mono ?_
    rintro e w2 ⟨rfl, rfl⟩
    rw [h1]
    go_wp2_with fail
    refine (in_any _ _ _ _).mono ?_
    rintro e w2 ⟨rfl, rfl⟩
    rw [h2]
    have h3' : decide ((6 : Int) < (n : Int)) = true := by simp; omega
    go_wp2
    go_ret
    exact ⟨ret_bool' HR.out.symm, HG.out⟩
  try simp only [Bool.not_eq_true] at h4
  have HR := Lib.hid (show lfB z = dfsB z.wd z.ln z.df by rw [HRR.out, decide_eq_true (show z.df.length ≤ 6 by have := HN.out; omega)]; simp only [*, Bool.true_and])
  go_wp2_with fail
  refine (in_any _ _ _ _).mono ?_
  rintro e w2 ⟨rfl, rfl⟩
  rw [h1]
  go_wp2_with fail
  refine (in_any _ _ _ _).mono ?_
  rintro e w2 ⟨rfl, rfl⟩
  rw [h2]
  have h3' : decide ((6 : Int) < (n : Int)) = false := by simp; omega
  go_wp2
  have HW := Lib.hid ((inI_iff _ _ _).1 h1)
  have HL := Lib.hid ((inI_iff _ _ _).1 h2)
  clear h1 h2 h3' d4 d5 d6
  go_loopw [3] (fun iv wr => ∃ k : Nat, k ≤ n ∧ iv = .int .i64 k ∧ Hid (∀ j, j < k → boxW (z.df.getD j bx0) z.wd z.ln = true) ∧ Hid (Below w.heap.size w wr)) (fun i _ => n - (intOf i).toNat)
  case atStart => exact ⟨0, by omega, rfl, Lib.hid (fun j hj => absurd hj (by omega)), HG⟩
  case round =>
    obtain ⟨k, hk, rfl, hi, hb⟩ := hrel
    have HATk := Lib.hid (HAT.out.below hb.out)
    have hqk := HATk.out.1
    have d4 : wr.cell? ⟨q, o + 6, none⟩ = some _ := HATk.out.at 6 rfl
    have d5 : wr.cell? ⟨q, o + 7, none⟩ = some _ := HATk.out.at 7 rfl
    have d6 : wr.cell? ⟨q, o + 8, none⟩ = some _ := HATk.out.at 8 rfl
    by_cases hlt : k < n
    · obtain ⟨b, rfl, hbx⟩ := (HD.out.below hb.out).2.resolve_left (by omega)
      have hbk := hbx k hlt
      have HBK := Lib.hid hbk
      have hbw := hbk.1
      clear hbx hbk
      cases hs : boxW (z.df.getD k bx0) z.wd z.ln with
      | false =>
        have HF := Lib.hid (show dfsB z.wd z.ln z.df = false from allG_no (p := fun d => boxW d z.wd z.ln) (by have := HN.out; omega) hs)
        go_wp2
        refine wp_region_below (by kernel_rfl) (by kernel_rfl) ?_
        repeat (first | (refine wq_skip ?_ ?_; (focus (go_simp; (first | done | (simp [undef]; done)))); (try simp only [Act.put, List.setIfInBounds_toArray, List.set_cons_zero, List.set_cons_succ])) | (refine wq_val ?_ ?_; (focus (go_simp; done)); apply Exists.intro; refine ⟨fun w1 hw1 => ?_, ?_⟩; (obtain ⟨hc, hf⟩ := bcell hw1; clear hw1; go_simp; (first | done | with_reducible rfl | (with_reducible exact eql2 _ _ _) | (with_reducible exact neq2 _ _ _))); (try simp only [Act.put, List.setIfInBounds_toArray, List.set_cons_zero, List.set_cons_succ])) | (refine wq_call 68 ?_ ?_; (focus (go_simp; done)); apply Exists.intro; refine ⟨fun w1 hw1 => ?_, ?_⟩; (focus (clear hw1; go_simp; (first | done | with_reducible rfl))); apply Exists.intro; refine ⟨fun w1 hw1 => ?_, ?_⟩; (focus (exact calls_below hw1 (by have := box_spec b (k * 4) (z.df.getD k bx0) z.wd z.ln w1 (HBK.out.below hw1) ⟨by have := HW.out.1; omega, HW.out.2⟩ ⟨by have := HL.out.1; omega, HL.out.2⟩; rw [hs] at this; exact this); done)); (try simp only [Act.put, List.setIfInBounds_toArray, List.set_cons_zero, List.set_cons_succ])))
        refine wq_nil ?_
        intro wa hba
        have HB := Lib.hid (hb.out.trans (hba.mono hb.out.size))
        clear hba
        go_wp2
        go_ret
        exact ⟨ret_bool' (HR.out.trans HF.out).symm, HB.out⟩
      | true =>
        go_wp2
        refine wp_region_below (by kernel_rfl) (by kernel_rfl) ?_
        repeat (first | (refine wq_skip ?_ ?_; (focus (go_simp; (first | done | (simp [undef]; done)))); (try simp only [Act.put, List.setIfInBounds_toArray, List.set_cons_zero, List.set_cons_succ])) | (refine wq_val ?_ ?_; (focus (go_simp; done)); apply Exists.intro; refine ⟨fun w1 hw1 => ?_, ?_⟩; (obtain ⟨hc, hf⟩ := bcell hw1; clear hw1; go_simp; (first | done | with_reducible rfl | (with_reducible exact eql2 _ _ _) | (with_reducible exact neq2 _ _ _))); (try simp only [Act.put, List.setIfInBounds_toArray, List.set_cons_zero, List.set_cons_succ])) | (refine wq_call 68 ?_ ?_; (focus (go_simp; done)); apply Exists.intro; refine ⟨fun w1 hw1 => ?_, ?_⟩; (focus (clear hw1; go_simp; (first | done | with_reducible rfl))); apply Exists.intro; refine ⟨fun w1 hw1 => ?_, ?_⟩; (focus (exact calls_below hw1 (by have := box_spec b (k * 4) (z.df.getD k bx0) z.wd z.ln w1 (HBK.out.below hw1) ⟨by have := HW.out.1; omega, HW.out.2⟩ ⟨by have := HL.out.1; omega, HL.out.2⟩; rw [hs] at this; exact this); done)); (try simp only [Act.put, List.setIfInBounds_toArray, List.set_cons_zero, List.set_cons_succ])))
        refine wq_nil ?_
        intro wa hba
        have HB := Lib.hid (hb.out.trans (hba.mono hb.out.size))
        clear hba
        go_wp2
        go_roundw
        case rel => exact ⟨k + 1, by omega, by go_num, Lib.hid (fun j hj => (Nat.lt_succ_iff_lt_or_eq.1 hj).elim (hi.out j) (fun e => by subst e; exact hs)), HB⟩
        case measure => simp [intOf]; omega
    · obtain rfl : k = n := by omega
      have HF := Lib.hid (show dfsB z.wd z.ln z.df = true from allG_yes (d := bx0) (by rw [← HN.out]; exact hi.out))
      go_wp2
      go_ret
      exact ⟨ret_bool' (HR.out.trans HF.out).symm, hb.out⟩
end Go.Proofs.YtmfchcaidfloaaaDoor
namespace Go.Proofs.YtmfchcaidfloaaaDoor
open Seq2 Go.ChangeShapes Go.WideShapes Go.ChangeAt Go.RowKit
set_option linter.unusedVariables false
set_option linter.unusedSimpArgs false

def dfB (z : Lf) : Bool := decide (z.df.length ≤ 6) && dfsB z.wd z.ln z.df
set_option maxRecDepth 100000 in
set_option maxHeartbeats 8000000 in
theorem df_impl (v : Value) (z : Lf) (w : World) (hv : LfV w v z) (hW : 10 ≤ z.wd ∧ z.wd ≤ 20000) (hL : 10 ≤ z.ln ∧ z.ln ≤ 20000) : Calls Tryd.prog 79 #[v] w fun e w' => e = .returned (.bool (dfB z)) ∧ Below w.heap.size w w' := by
  obtain ⟨ao, n, c, rfl, hs, m0, m1, _, m3, _, _, hn, hd⟩ := hv.out
  have HA := Lib.hid (one_alloc (w := w) (.cells #[.string z.id, .string z.fl, .int .i64 z.nu, .string z.ve.1, .int .i64 z.ve.2.1, .int .i64 z.ve.2.2, .int .i64 z.wd, .int .i64 z.ln, .slice ao n c] 47))
  have HX := Lib.hid (World.alloc_heap_new w (.cells #[.string z.id, .string z.fl, .int .i64 z.nu, .string z.ve.1, .int .i64 z.ve.2.1, .int .i64 z.ve.2.2, .int .i64 z.wd, .int .i64 z.ln, .slice ao n c] 47))
  have HD := Lib.hid (hd.below HA.out)
  have HN := Lib.hid hd.1
  have HWW := Lib.hid (show 0 ≤ z.wd ∧ z.wd ≤ 20000 by omega)
  have HLL := Lib.hid (show 0 ≤ z.ln ∧ z.ln ≤ 20000 by omega)
  clear hv hs m0 m1 m3 hd hW hL
  by_cases h6 : n ≤ 6
  rotate_left
  · have HR := Lib.hid (show dfB z = false by unfold dfB; rw [decide_eq_false (show ¬ z.df.length ≤ 6 by have := HN.out; omega)]; rfl)
    have h3' : decide ((6 : Int) < (n : Int)) = true := by simp; omega
    clear h6
    go_enter Tryd.func79, Tryd.ntmps79
    go_wp2
    go_ret
    exact ⟨ret_bool' HR.out.symm, HA.out⟩
  have HR := Lib.hid (show dfB z = dfsB z.wd z.ln z.df by unfold dfB; rw [decide_eq_true (show z.df.length ≤ 6 by have := HN.out; omega)]; rfl)
  have h3' : decide ((6 : Int) < (n : Int)) = false := by simp; omega
  go_enter Tryd.func79, Tryd.ntmps79
  go_wp2
  generalize w.alloc _ = W at *
  clear h3'
  go_loopw [12] (fun iv wr => ∃ k : Nat, k ≤ n ∧ iv = .int .i64 k ∧ Hid (∀ j, j < k → boxW (z.df.getD j bx0) z.wd z.ln = true) ∧ Hid (Below W.heap.size W wr)) (fun i _ => n - (intOf i).toNat)
  case atStart => exact ⟨0, by omega, rfl, Lib.hid (fun j hj => absurd hj (by omega)), Lib.hid (Below.refl _ _)⟩
  case round =>
    obtain ⟨k, hk, rfl, hi, hb⟩ := hrel
    by_cases hlt : k < n
    · obtain ⟨b, rfl, hbx⟩ := (HD.out.below hb.out).2.resolve_left (by omega)
      obtain ⟨hbw, v0, v1, v2, v3⟩ := hbx k hlt
      have HXk := Lib.hid ((hb.out.block _ (blk_lt HX.out)).trans HX.out)
      have hzk := blk_lt HXk.out
      have a4 := (cell_of_arr HXk.out (j := 6) rfl).1
      have a5 := (cell_of_arr HXk.out (j := 7) rfl).1
      clear hbx
      obtain ⟨d, hd⟩ : ∃ d, z.df.getD k bx0 = d := ⟨_, rfl⟩
      rw [hd] at v0 v1 v2 v3
      have HDK := Lib.hid hd
      clear hd
      obtain ⟨x, y, a, b'⟩ := d
      simp only at v0 v1 v2 v3
      have HBk := Lib.hid (hb.out.trans ((one_alloc (w := wr) (.cells #[.int .i64 x, .int .i64 y, .int .i64 a, .int .i64 b'] 111)).mono hb.out.size))
      go_wp2_with fail
      refine (within_impl x y a b' z.wd z.ln _ HWW.out HLL.out).mono ?_
      rintro e w1 ⟨rfl, g1⟩
      have HG := Lib.hid (HBk.out.trans (g1.mono HBk.out.size))
      clear g1
      cases hs : boxW (x, y, a, b') z.wd z.ln with
      | false =>
        have HF := Lib.hid (show dfsB z.wd z.ln z.df = false from allG_no (p := fun d => boxW d z.wd z.ln) (zs := z.df) (d := bx0) (k := k) (by have := HN.out; omega) (by rw [HDK.out]; exact hs))
        go_wp2
        go_ret
        exact ⟨ret_bool' (HR.out.trans HF.out).symm, bseq HA.out HG.out⟩
      | true =>
        go_wp2
        go_roundw
        case rel => exact ⟨k + 1, by omega, by go_num, Lib.hid (fun j hj => (Nat.lt_succ_iff_lt_or_eq.1 hj).elim (hi.out j) (fun e => by subst e; rw [HDK.out]; exact hs)), HG⟩
        case measure => simp [intOf]; omega
    · obtain rfl : k = n := by omega
      have HF := Lib.hid (show dfsB z.wd z.ln z.df = true from allG_yes (d := bx0) (by rw [← HN.out]; exact hi.out))
      go_wp2
      go_ret
      exact ⟨ret_bool' (HR.out.trans HF.out).symm, bseq HA.out hb.out⟩
set_option maxRecDepth 100000 in
set_option maxHeartbeats 16000000 in
theorem validL_impl (v : Value) (z : Lf) (w : World) (hv : LfV w v z) (ht : TabAt w) : Calls Tryd.prog 41 #[v] w fun e w' => e = .returned (.bool (lfB z)) ∧ Below w.heap.size w w' := by
  have HV := Lib.hid hv
  obtain ⟨ao, n, c, rfl, hs, m0, m1, _, m3, _, _, hn, hd⟩ := hv.out
  have HA := Lib.hid (one_alloc (w := w) (.cells #[.string z.id, .string z.fl, .int .i64 z.nu, .string z.ve.1, .int .i64 z.ve.2.1, .int .i64 z.ve.2.2, .int .i64 z.wd, .int .i64 z.ln, .slice ao n c] 47))
  have HX := Lib.hid (World.alloc_heap_new w (.cells #[.string z.id, .string z.fl, .int .i64 z.nu, .string z.ve.1, .int .i64 z.ve.2.1, .int .i64 z.ve.2.2, .int .i64 z.wd, .int .i64 z.ln, .slice ao n c] 47))
  have HT := Lib.hid (ht.below HA.out)
  have M0 := Lib.hid (show z.id.size ≤ maxLen by unfold maxLen; omega)
  have M1 := Lib.hid (show z.fl.size ≤ maxLen by unfold maxLen; omega)
  clear hv hs m0 m1 m3 hd ht
  have HB := Lib.hid (show lfB z = (nameB z.id && (nameB z.fl && (decide (0 ≤ z.nu) && (decide (z.nu ≤ 999) && (venB z.ve.1 z.ve.2.1 z.ve.2.2 && (decide (10 ≤ min z.wd z.ln) && (decide (max z.wd z.ln ≤ 20000) && dfB z))))))) by
    have e : (inI z.wd 10 20000 && inI z.ln 10 20000) = (decide (10 ≤ min z.wd z.ln) && decide (max z.wd z.ln ≤ 20000)) := by
      unfold inI
      rw [← Bool.decide_and, ← Bool.decide_and, ← Bool.decide_and, ← Bool.decide_and]
      exact decide_eq_decide.2 (by omega)
    rw [← Bool.and_assoc (decide (10 ≤ min z.wd z.ln)), ← e]
    unfold lfB vnB dfB inI
    simp only [Bool.and_assoc])
  by_cases h1 : nameB z.id = true
  rotate_left
  · skip
    try simp only [Bool.not_eq_true] at h1
    have HR := Lib.hid (show lfB z = false by rw [HB.out]; simp only [*, Bool.false_and, Bool.and_false, Bool.and_true, Bool.true_and])
    go_enter Tryd.func41, Tryd.ntmps41
    go_wp2_with fail
    refine (name_impl z.id _ M0.out).mono ?_
    rintro e w1 ⟨rfl, rfl⟩
    rw [h1]
    go_wp2
    go_ret
    exact ⟨ret_bool' HR.out.symm, HA.out⟩
  by_cases h2 : nameB z.fl = true
  rotate_left
  · skip
    try simp only [Bool.not_eq_true] at h2
    have HR := Lib.hid (show lfB z = false by rw [HB.out]; simp only [*, Bool.false_and, Bool.and_false, Bool.and_true, Bool.true_and])
    go_enter Tryd.func41, Tryd.ntmps41
    go_wp2_with fail
    refine (name_impl z.id _ M0.out).mono ?_
    rintro e w1 ⟨rfl, rfl⟩
    rw [h1]
    go_wp2_with fail
    refine (name_impl z.fl _ M1.out).mono ?_
    rintro e w1 ⟨rfl, rfl⟩
    rw [h2]
    go_wp2
    go_ret
    exact ⟨ret_bool' HR.out.symm, HA.out⟩
  by_cases h3 : decide (0 ≤ z.nu) = true
  rotate_left
  · skip
    try simp only [Bool.not_eq_true] at h3
    have HR := Lib.hid (show lfB z = false by rw [HB.out]; simp only [*, Bool.false_and, Bool.and_false, Bool.and_true, Bool.true_and])
    go_enter Tryd.func41, Tryd.ntmps41
    go_wp2_with fail
    refine (name_impl z.id _ M0.out).mono ?_
    rintro e w1 ⟨rfl, rfl⟩
    rw [h1]
    go_wp2_with fail
    refine (name_impl z.fl _ M1.out).mono ?_
    rintro e w1 ⟨rfl, rfl⟩
    rw [h2]
    go_wp2
    go_ret
    exact ⟨ret_bool' HR.out.symm, HA.out⟩
  by_cases h4 : decide (z.nu ≤ 999) = true
  rotate_left
  · skip
    try simp only [Bool.not_eq_true] at h4
    have HR := Lib.hid (show lfB z = false by rw [HB.out]; simp only [*, Bool.false_and, Bool.and_false, Bool.and_true, Bool.true_and])
    go_enter Tryd.func41, Tryd.ntmps41
    go_wp2_with fail
    refine (name_impl z.id _ M0.out).mono ?_
    rintro e w1 ⟨rfl, rfl⟩
    rw [h1]
    go_wp2_with fail
    refine (name_impl z.fl _ M1.out).mono ?_
    rintro e w1 ⟨rfl, rfl⟩
    rw [h2]
    go_wp2
    go_ret
    exact ⟨ret_bool' HR.out.symm, HA.out⟩
  by_cases h5 : venB z.ve.1 z.ve.2.1 z.ve.2.2 = true
  rotate_left
  · skip
    try simp only [Bool.not_eq_true] at h5
    have HR := Lib.hid (show lfB z = false by rw [HB.out]; simp only [*, Bool.false_and, Bool.and_false, Bool.and_true, Bool.true_and])
    go_enter Tryd.func41, Tryd.ntmps41
    go_wp2_with fail
    refine (name_impl z.id _ M0.out).mono ?_
    rintro e w1 ⟨rfl, rfl⟩
    rw [h1]
    go_wp2_with fail
    refine (name_impl z.fl _ M1.out).mono ?_
    rintro e w1 ⟨rfl, rfl⟩
    rw [h2]
    go_wp2_with fail
    refine (valid_vimpl _ _ _ _ HT.out).mono ?_
    rintro e w1 ⟨rfl, g1⟩
    have HG := Lib.hid (bseq HA.out g1)
    have HX1 := Lib.hid ((g1.block _ (blk_lt HX.out)).trans HX.out)
    clear g1
    have hz := blk_lt HX1.out
    have a0 := (cell_of_arr HX1.out (j := 0) rfl).1
    have a1 := (cell_of_arr HX1.out (j := 1) rfl).1
    have a2 := (cell_of_arr HX1.out (j := 2) rfl).1
    have a3 := (cell_of_arr HX1.out (j := 3) rfl).1
    have a4 := (cell_of_arr HX1.out (j := 4) rfl).1
    have a5 := (cell_of_arr HX1.out (j := 5) rfl).1
    have a6 := (cell_of_arr HX1.out (j := 6) rfl).1
    have a7 := (cell_of_arr HX1.out (j := 7) rfl).1
    have a8 := (cell_of_arr HX1.out (j := 8) rfl).1
    rw [h5]
    go_wp2
    go_ret
    exact ⟨ret_bool' HR.out.symm, HG.out⟩
  by_cases h6 : decide (10 ≤ min z.wd z.ln) = true
  rotate_left
  · skip
    try simp only [Bool.not_eq_true] at h6
    have HR := Lib.hid (show lfB z = false by rw [HB.out]; simp only [*, Bool.false_and, Bool.and_false, Bool.and_true, Bool.true_and])
    go_enter Tryd.func41, Tryd.ntmps41
    go_wp2_with fail
    refine (name_impl z.id _ M0.out).mono ?_
    rintro e w1 ⟨rfl, rfl⟩
    rw [h1]
    go_wp2_with fail
    refine (name_impl z.fl _ M1.out).mono ?_
    rintro e w1 ⟨rfl, rfl⟩
    rw [h2]
    go_wp2_with fail
    refine (valid_vimpl _ _ _ _ HT.out).mono ?_
    rintro e w1 ⟨rfl, g1⟩
    have HG := Lib.hid (bseq HA.out g1)
    have HX1 := Lib.hid ((g1.block _ (blk_lt HX.out)).trans HX.out)
    clear g1
    have hz := blk_lt HX1.out
    have a0 := (cell_of_arr HX1.out (j := 0) rfl).1
    have a1 := (cell_of_arr HX1.out (j := 1) rfl).1
    have a2 := (cell_of_arr HX1.out (j := 2) rfl).1
    have a3 := (cell_of_arr HX1.out (j := 3) rfl).1
    have a4 := (cell_of_arr HX1.out (j := 4) rfl).1
    have a5 := (cell_of_arr HX1.out (j := 5) rfl).1
    have a6 := (cell_of_arr HX1.out (j := 6) rfl).1
    have a7 := (cell_of_arr HX1.out (j := 7) rfl).1
    have a8 := (cell_of_arr HX1.out (j := 8) rfl).1
    rw [h5]
    go_wp2
    go_ret
    exact ⟨ret_bool' HR.out.symm, HG.out⟩
  by_cases h7 : decide (max z.wd z.ln ≤ 20000) = true
  rotate_left
  · skip
    try simp only [Bool.not_eq_true] at h7
    have HR := Lib.hid (show lfB z = false by rw [HB.out]; simp only [*, Bool.false_and, Bool.and_false, Bool.and_true, Bool.true_and])
    go_enter Tryd.func41, Tryd.ntmps41
    go_wp2_with fail
    refine (name_impl z.id _ M0.out).mono ?_
    rintro e w1 ⟨rfl, rfl⟩
    rw [h1]
    go_wp2_with fail
    refine (name_impl z.fl _ M1.out).mono ?_
    rintro e w1 ⟨rfl, rfl⟩
    rw [h2]
    go_wp2_with fail
    refine (valid_vimpl _ _ _ _ HT.out).mono ?_
    rintro e w1 ⟨rfl, g1⟩
    have HG := Lib.hid (bseq HA.out g1)
    have HX1 := Lib.hid ((g1.block _ (blk_lt HX.out)).trans HX.out)
    clear g1
    have hz := blk_lt HX1.out
    have a0 := (cell_of_arr HX1.out (j := 0) rfl).1
    have a1 := (cell_of_arr HX1.out (j := 1) rfl).1
    have a2 := (cell_of_arr HX1.out (j := 2) rfl).1
    have a3 := (cell_of_arr HX1.out (j := 3) rfl).1
    have a4 := (cell_of_arr HX1.out (j := 4) rfl).1
    have a5 := (cell_of_arr HX1.out (j := 5) rfl).1
    have a6 := (cell_of_arr HX1.out (j := 6) rfl).1
    have a7 := (cell_of_arr HX1.out (j := 7) rfl).1
    have a8 := (cell_of_arr HX1.out (j := 8) rfl).1
    rw [h5]
    go_wp2
    go_ret
    exact ⟨ret_bool' HR.out.symm, HG.out⟩
  by_cases h8 : dfB z = true
  rotate_left
  · skip
    try simp only [Bool.not_eq_true] at h8
    have HR := Lib.hid (show lfB z = false by rw [HB.out]; simp only [*, Bool.false_and, Bool.and_false, Bool.and_true, Bool.true_and])
    have HWL := Lib.hid (show (10 ≤ z.wd ∧ z.wd ≤ 20000) ∧ (10 ≤ z.ln ∧ z.ln ≤ 20000) by have := of_decide_eq_true h6; have := of_decide_eq_true h7; omega)
    go_enter Tryd.func41, Tryd.ntmps41
    go_wp2_with fail
    refine (name_impl z.id _ M0.out).mono ?_
    rintro e w1 ⟨rfl, rfl⟩
    rw [h1]
    go_wp2_with fail
    refine (name_impl z.fl _ M1.out).mono ?_
    rintro e w1 ⟨rfl, rfl⟩
    rw [h2]
    go_wp2_with fail
    refine (valid_vimpl _ _ _ _ HT.out).mono ?_
    rintro e w1 ⟨rfl, g1⟩
    have HG := Lib.hid (bseq HA.out g1)
    have HX1 := Lib.hid ((g1.block _ (blk_lt HX.out)).trans HX.out)
    clear g1
    have hz := blk_lt HX1.out
    have a0 := (cell_of_arr HX1.out (j := 0) rfl).1
    have a1 := (cell_of_arr HX1.out (j := 1) rfl).1
    have a2 := (cell_of_arr HX1.out (j := 2) rfl).1
    have a3 := (cell_of_arr HX1.out (j := 3) rfl).1
    have a4 := (cell_of_arr HX1.out (j := 4) rfl).1
    have a5 := (cell_of_arr HX1.out (j := 5) rfl).1
    have a6 := (cell_of_arr HX1.out (j := 6) rfl).1
    have a7 := (cell_of_arr HX1.out (j := 7) rfl).1
    have a8 := (cell_of_arr HX1.out (j := 8) rfl).1
    rw [h5]
    go_wp2_with fail
    refine (df_impl _ z _ (HV.out.below HG.out) HWL.out.1 HWL.out.2).mono ?_
    rintro e w2 ⟨rfl, g2⟩
    have HG2 := Lib.hid (bseq HG.out g2)
    clear g2
    rw [h8]
    go_wp2
    go_ret
    exact ⟨ret_bool' HR.out.symm, HG2.out⟩
  try simp only [Bool.not_eq_true] at h9
  have HR := Lib.hid (show lfB z = true by rw [HB.out]; simp only [*, Bool.false_and, Bool.and_false, Bool.and_true, Bool.true_and])
  have HWL := Lib.hid (show (10 ≤ z.wd ∧ z.wd ≤ 20000) ∧ (10 ≤ z.ln ∧ z.ln ≤ 20000) by have := of_decide_eq_true h6; have := of_decide_eq_true h7; omega)
  go_enter Tryd.func41, Tryd.ntmps41
  go_wp2_with fail
  refine (name_impl z.id _ M0.out).mono ?_
  rintro e w1 ⟨rfl, rfl⟩
  rw [h1]
  go_wp2_with fail
  refine (name_impl z.fl _ M1.out).mono ?_
  rintro e w1 ⟨rfl, rfl⟩
  rw [h2]
  go_wp2_with fail
  refine (valid_vimpl _ _ _ _ HT.out).mono ?_
  rintro e w1 ⟨rfl, g1⟩
  have HG := Lib.hid (bseq HA.out g1)
  have HX1 := Lib.hid ((g1.block _ (blk_lt HX.out)).trans HX.out)
  clear g1
  have hz := blk_lt HX1.out
  have a0 := (cell_of_arr HX1.out (j := 0) rfl).1
  have a1 := (cell_of_arr HX1.out (j := 1) rfl).1
  have a2 := (cell_of_arr HX1.out (j := 2) rfl).1
  have a3 := (cell_of_arr HX1.out (j := 3) rfl).1
  have a4 := (cell_of_arr HX1.out (j := 4) rfl).1
  have a5 := (cell_of_arr HX1.out (j := 5) rfl).1
  have a6 := (cell_of_arr HX1.out (j := 6) rfl).1
  have a7 := (cell_of_arr HX1.out (j := 7) rfl).1
  have a8 := (cell_of_arr HX1.out (j := 8) rfl).1
  rw [h5]
  go_wp2_with fail
  refine (df_impl _ z _ (HV.out.below HG.out) HWL.out.1 HWL.out.2).mono ?_
  rintro e w2 ⟨rfl, g2⟩
  have HG2 := Lib.hid (bseq HG.out g2)
  clear g2
  rw [h8]
  go_wp2
  go_ret
  exact ⟨ret_bool' HR.out.symm, HG2.out⟩
end Go.Proofs.YtmfchcaidfloaaaDoor
namespace Go.Proofs.YtmfchcaidfloaaaDoor
open Seq2 Go.ChangeShapes Go.WideShapes Go.ChangeAt Go.RowKit
set_option linter.unusedVariables false
set_option linter.unusedSimpArgs false

/-- The name before. -/
def befL (zs : List Lf) (k : Nat) : ByteArray := if k = 0 then ⟨#[]⟩ else (zs.getD (k - 1) lf0).id
def ordL (zs : List Lf) (j : Nat) : Bool := decide (j = 0) || Op.bytesLess (zs.getD (j - 1) lf0).id.toList (zs.getD j lf0).id.toList
def okL (zs : List Lf) (j : Nat) : Bool := lfB (zs.getD j lf0) && ordL zs j
def lfsB (zs : List Lf) : Bool := decide (zs.length ≤ 16) && (List.range zs.length).all (okL zs)
theorem lfsB_no {zs : List Lf} {k : Nat} (hk : k < zs.length) (h : okL zs k = false) : lfsB zs = false := by
  have : (List.range zs.length).all (okL zs) = false := List.all_eq_false.2 ⟨k, List.mem_range.2 hk, by rw [h]; simp⟩
  rw [lfsB, this, Bool.and_false]
theorem lfsB_yes {zs : List Lf} (h : ∀ j, j < zs.length → okL zs j = true) : lfsB zs = decide (zs.length ≤ 16) := by
  have : (List.range zs.length).all (okL zs) = true := List.all_eq_true.2 (fun j hj => h j (List.mem_range.1 hj))
  rw [lfsB, this, Bool.and_true]
theorem lfsB_ok {zs : List Lf} (h : lfsB zs = true) : zs.length ≤ 16 ∧ ∀ j, j < zs.length → lfB (zs.getD j lf0) = true ∧ (0 < j → Op.bytesLess (zs.getD (j - 1) lf0).id.toList (zs.getD j lf0).id.toList = true) := by
  simp only [lfsB, Bool.and_eq_true, decide_eq_true_eq, List.all_eq_true, List.mem_range] at h
  refine ⟨h.1, fun j hj => ?_⟩
  have h2 := h.2 j hj
  simp only [okL, ordL, Bool.and_eq_true, Bool.or_eq_true, decide_eq_true_eq] at h2
  exact ⟨h2.1, fun h0 => h2.2.resolve_left (by omega)⟩
theorem bytesLess_nil (l : List UInt8) : Op.bytesLess [] l = !l.isEmpty := by cases l <;> rfl
theorem lfB_name {z : Lf} (h : nameB z.id = false) : lfB z = false := by unfold lfB; rw [h]; rfl
theorem okL_bef (zs : List Lf) (k : Nat) : okL zs k = (lfB (zs.getD k lf0) && Op.bytesLess (befL zs k).toList (zs.getD k lf0).id.toList) := by
  unfold okL ordL befL
  by_cases h : k = 0
  · subst h
    rw [if_pos rfl, show (ByteArray.mk #[]).toList = [] by unfold ByteArray.toList; unfold ByteArray.toList.loop; rfl, bytesLess_nil]
    by_cases h0 : (zs.getD 0 lf0).id.size = 0
    · rw [lfB_name (name_zero _ h0)]; rfl
    · rw [isEmpty_of _ (by omega)]; rfl
  · rw [if_neg h, decide_eq_false h, Bool.false_or]
end Go.Proofs.YtmfchcaidfloaaaDoor
