/- The contrast of two veneers: spec. -/
import Derived.Test.YthjimogeimigmaaDoorVen6
namespace Go.Proofs.YthjimogeimigmaaDoor
open Seq2 Go.ChangeShapes Go.WideShapes Go.ChangeAt Go.RowKit
set_option linter.unusedVariables false
set_option linter.unusedSimpArgs false

def conI (x0 y0 x1 y1 : Int) : Int := awy x0 x1 + angI y0 y1 / 6
theorem ang_rng {a b : Int} (ha : 0 ≤ a) (ha2 : a ≤ 180) (hb : 0 ≤ b) (hb2 : b ≤ 180) : 0 ≤ angI a b ∧ angI a b ≤ 180 := by
  unfold angI lesI awy; split <;> split <;> omega
set_option maxRecDepth 100000 in
set_option maxHeartbeats 4000000 in
theorem con_spec (q o r u : Nat) (s0 : ByteArray) (x0 y0 : Int) (s1 : ByteArray) (x1 y1 : Int) (w : World) (h0 : VC w q o s0 x0 y0) (h1 : VC w r u s1 x1 y1)
    (a0 : 0 ≤ x0) (a1 : x0 ≤ 100) (b0 : 0 ≤ y0) (b1 : y0 ≤ 179) (c0 : 0 ≤ x1) (c1 : x1 ≤ 100) (d0 : 0 ≤ y1) (d1 : y1 ≤ 179) :
    Calls Tryd.prog 59 #[.pointer (some ⟨q, o, none⟩), .pointer (some ⟨r, u, none⟩)] w fun e w' => e = .returned (.int .i64 (conI x0 y0 x1 y1)) ∧ Below w.heap.size w w' := by
  obtain ⟨hq, v0, v1, v2⟩ := h0
  obtain ⟨hr, u0, u1, u2⟩ := h1
  have e1 : IntKind.i64.wrap (x0 - x1) = x0 - x1 := IntWalk.i64_in _ (by omega)
  have e2 : IntKind.i64.wrap (x1 - x0) = x1 - x0 := IntWalk.i64_in _ (by omega)
  have ha := awy_rng a0 a1 c0 c1
  have hg := ang_rng b0 (by omega : y0 ≤ 180) d0 (by omega : y1 ≤ 180)
  have e3 : (angI y0 y1).tdiv 6 = angI y0 y1 / 6 := Int.tdiv_eq_ediv_of_nonneg hg.1
  have e4 : IntKind.i64.wrap (angI y0 y1 / 6) = angI y0 y1 / 6 := IntWalk.i64_in _ (by omega)
  have e5 : IntKind.i64.wrap (awy x0 x1 + angI y0 y1 / 6) = awy x0 x1 + angI y0 y1 / 6 := IntWalk.i64_in _ (by omega)
  have HC := Lib.hid (show conI x0 y0 x1 y1 = awy x0 x1 + angI y0 y1 / 6 from rfl)
  have HA := Lib.hid (awy_grt x0 x1)
  rw [HC.out]
  go_enter Tryd.func59, Tryd.ntmps59
  go_wp2
  refine wp_region_below (by kernel_rfl) (by kernel_rfl) ?_
  repeat (first | (refine wq_skip ?_ ?_; (focus (go_simp; (first | done | (simp [undef]; done)))); (try simp only [Act.put, List.setIfInBounds_toArray, List.set_cons_zero, List.set_cons_succ])) | (refine wq_val ?_ ?_; (focus (go_simp; done)); apply Exists.intro; refine ⟨fun w1 hw1 => ?_, ?_⟩; (obtain ⟨hc, hf⟩ := bcell hw1; clear hw1; go_simp; (first | done | with_reducible rfl | (with_reducible exact eql2 _ _ _) | (with_reducible exact neq2 _ _ _))); (try simp only [Act.put, List.setIfInBounds_toArray, List.set_cons_zero, List.set_cons_succ])) | (refine wq_call 64 ?_ ?_; (focus (go_simp; done)); apply Exists.intro; refine ⟨fun w1 hw1 => ?_, ?_⟩; (focus (clear hw1; go_simp; (first | done | with_reducible rfl))); apply Exists.intro; refine ⟨fun w1 hw1 => ?_, ?_⟩; (focus (exact calls_below_same hw1 (by have h := max_ven (x0 - x1) (x1 - x0) w1; rw [← HA.out] at h; exact h); done)); (try simp only [Act.put, List.setIfInBounds_toArray, List.set_cons_zero, List.set_cons_succ])) | (refine wq_call 78 ?_ ?_; (focus (go_simp; done)); apply Exists.intro; refine ⟨fun w1 hw1 => ?_, ?_⟩; (focus (clear hw1; go_simp; (first | done | with_reducible rfl))); apply Exists.intro; refine ⟨fun w1 hw1 => ?_, ?_⟩; (focus (exact calls_below_same hw1 (angle_spec y0 y1 w1 b0 (by omega) d0 (by omega)); done)); (try simp only [Act.put, List.setIfInBounds_toArray, List.set_cons_zero, List.set_cons_succ])))
  refine wq_nil ?_
  intro w1 hb1
  have HB1 := Lib.hid hb1
  clear hb1
  go_wp2
  go_ret
  exact ⟨rfl, HB1.out⟩
end Go.Proofs.YthjimogeimigmaaDoor
