/- The score of two leaves: mathematics, spec. -/
import Derived.Test.YtcjpplijbdfgbaaDoorK19
import Derived.Test.YtcjpplijbdfgbaaDoorVen4
namespace Go.Proofs.YtcjpplijbdfgbaaDoor
open Seq2 Go.ChangeShapes Go.WideShapes Go.ChangeAt Go.RowKit
set_option linter.unusedVariables false
set_option linter.unusedSimpArgs false

def mirG (g : Int) : Int := (180 - g) % 180
def scG (y : Lf) (bk : Bool) : Int := if bk then mirG y.ve.2.2 else y.ve.2.2
def scN (z y : Lf) : Int := if z.fl.toList == y.fl.toList then lesI 20 (awy z.nu y.nu) else 500
def scS (z y : Lf) : Int := if z.ve.1.toList == y.ve.1.toList then 0 else 500
def scI (z y : Lf) (bk : Bool) : Int := 3 * awy z.ve.2.1 y.ve.2.1 + angI z.ve.2.2 (scG y bk) + scN z y + scS z y
theorem ang_180 {a b : Int} (ha : 0 ≤ a) (ha2 : a ≤ 180) (hb : 0 ≤ b) (hb2 : b ≤ 180) : 0 ≤ angI a b ∧ angI a b ≤ 180 := by
  unfold angI lesI awy; split <;> split <;> omega
theorem mirG_rng {g : Int} (h0 : 0 ≤ g) (h1 : g ≤ 179) : 0 ≤ mirG g ∧ mirG g ≤ 179 := by unfold mirG; omega
/-- The numbers of a valid leaf. -/
structure LfN (z : Lf) : Prop where
  nu : 0 ≤ z.nu ∧ z.nu ≤ 999
  sh : 0 ≤ z.ve.2.1 ∧ z.ve.2.1 ≤ 100
  gr : 0 ≤ z.ve.2.2 ∧ z.ve.2.2 ≤ 179
theorem lfN_of {z : Lf} (h : lfB z = true) : LfN z := by
  simp only [lfB, Bool.and_eq_true, decide_eq_true_eq, inI_iff, vnB] at h
  obtain ⟨_, _, h3, h4, _⟩ := h
  obtain ⟨_, a, b, c, d⟩ := venB_ok h4
  exact ⟨h3, ⟨a, b⟩, ⟨c, d⟩⟩
theorem scG_rng {y : Lf} (h : LfN y) (bk : Bool) : 0 ≤ scG y bk ∧ scG y bk ≤ 179 := by
  unfold scG
  cases bk with
  | false => exact h.gr
  | true => exact mirG_rng h.gr.1 h.gr.2
theorem scI_rng {z y : Lf} (hz : LfN z) (hy : LfN y) (bk : Bool) : 0 ≤ scI z y bk ∧ scI z y bk ≤ 2000 := by
  have h1 := awy_rng hz.sh.1 hz.sh.2 hy.sh.1 hy.sh.2
  have hg := scG_rng hy bk
  have h2 := ang_180 hz.gr.1 (by have := hz.gr; omega) hg.1 (by omega : scG y bk ≤ 180)
  have h3 := awy_rng hz.nu.1 hz.nu.2 hy.nu.1 hy.nu.2
  have h4 : 0 ≤ scN z y ∧ scN z y ≤ 1000 := by unfold scN lesI; split <;> (try split) <;> omega
  have h5 : 0 ≤ scS z y ∧ scS z y ≤ 500 := by unfold scS; split <;> omega
  unfold scI; omega
theorem awy_neg (a b : Int) : grtI (a - b) (-(a - b)) = awy a b := by unfold grtI awy; split <;> split <;> omega
set_option maxRecDepth 100000 in
set_option maxHeartbeats 16000000 in
theorem score_spec (p i q o : Nat) (z y : Lf) (bk : Bool) (w : World) (hz : LfAt w p i z) (hy : LfAt w q o y) (h1 : LfN z) (h2 : LfN y) :
    Calls Tryd.prog 64 #[.pointer (some ⟨p, i, none⟩), .pointer (some ⟨q, o, none⟩), .bool bk] w fun e w' => e = .returned (.int .i64 (scI z y bk)) ∧ Below w.heap.size w w' := by
  obtain ⟨v, hz, hat⟩ := hz
  obtain ⟨v', hy, hbt⟩ := hy
  obtain ⟨ao, n, c, rfl, _, _, _, _, _, _, _, _, _⟩ := hz.out
  obtain ⟨ao', n', c', rfl, _, _, _, _, _, _, _, _, _⟩ := hy.out
  clear hz hy
  obtain ⟨id0, f0, u0, ⟨s0, x0, g0⟩, W0, L0, D0⟩ := z
  obtain ⟨id1, f1, u1, ⟨s1, x1, g1⟩, W1, L1, D1⟩ := y
  obtain ⟨⟨a0, a1⟩, ⟨a2, a3⟩, ⟨a4, a5⟩⟩ := h1
  obtain ⟨⟨b0, b1⟩, ⟨b2, b3⟩, ⟨b4, b5⟩⟩ := h2
  simp only at a0 a1 a2 a3 a4 a5 b0 b1 b2 b3 b4 b5 hat hbt
  have HAT := Lib.hid hat
  have HBT := Lib.hid hbt
  have hx := awy_rng a2 a3 b2 b3
  have hu := awy_rng a0 a1 b0 b1
  have hm := mirG_rng b4 b5
  have hl : 0 ≤ lesI 20 (awy u0 u1) ∧ lesI 20 (awy u0 u1) ≤ 20 := by unfold lesI; split <;> omega
  have e1 : IntKind.i64.wrap (x0 - x1) = x0 - x1 := IntWalk.i64_in _ (by omega)
  have e2 : IntKind.i64.wrap (-(x0 - x1)) = -(x0 - x1) := IntWalk.i64_in _ (by omega)
  have e3 : IntKind.i64.wrap (3 * awy x0 x1) = 3 * awy x0 x1 := IntWalk.i64_in _ (by omega)
  have e5 : IntKind.i64.wrap (180 - g1) = 180 - g1 := IntWalk.i64_in _ (by omega)
  have e6 : (180 - g1).tmod 180 = mirG g1 := Int.tmod_eq_emod_of_nonneg (by omega)
  have e7 : IntKind.i64.wrap (mirG g1) = mirG g1 := IntWalk.i64_in _ (by omega)
  have e8 : IntKind.i64.wrap (u0 - u1) = u0 - u1 := IntWalk.i64_in _ (by omega)
  have e9 : IntKind.i64.wrap (u1 - u0) = u1 - u0 := IntWalk.i64_in _ (by omega)
  have HMX := Lib.hid (awy_neg x0 x1)
  have HMN := Lib.hid (awy_grt u0 u1)
  cases hf : (f0.toList == f1.toList) <;> cases hs : (s0.toList == s1.toList) <;> cases bk
  · have hg := ang_180 a4 (by omega : g0 ≤ 180) b4 (by omega : g1 ≤ 180)
    have e4 : IntKind.i64.wrap (3 * awy x0 x1 + angI g0 g1) = 3 * awy x0 x1 + angI g0 g1 := IntWalk.i64_in _ (by omega)
    have e10 : IntKind.i64.wrap (3 * awy x0 x1 + angI g0 g1 + 500) = 3 * awy x0 x1 + angI g0 g1 + 500 := IntWalk.i64_in _ (by omega)
    have e11 : IntKind.i64.wrap (3 * awy x0 x1 + angI g0 g1 + 500 + 500) = 3 * awy x0 x1 + angI g0 g1 + 500 + 500 := IntWalk.i64_in _ (by omega)
    have HR := Lib.hid (show scI ⟨id0, f0, u0, (s0, x0, g0), W0, L0, D0⟩ ⟨id1, f1, u1, (s1, x1, g1), W1, L1, D1⟩ false = 3 * awy x0 x1 + angI g0 g1 + 500 + 500 by
      unfold scI scN scS scG; simp only [hf, hs, if_true, if_false, Bool.false_eq_true, Int.add_zero])
    have hs2 : (s0.toList != s1.toList) = true := by rw [bne, hs]; rfl
    have c1 : w.cell? ⟨p, i + 1, none⟩ = some (.string f0) := HAT.out.at 1 rfl
    have d1 : w.cell? ⟨q, o + 1, none⟩ = some (.string f1) := HBT.out.at 1 rfl
    have c2 : w.cell? ⟨p, i + 2, none⟩ = some (.int .i64 u0) := HAT.out.at 2 rfl
    have d2 : w.cell? ⟨q, o + 2, none⟩ = some (.int .i64 u1) := HBT.out.at 2 rfl
    have c3 : w.cell? ⟨p, i + 3, none⟩ = some (.string s0) := HAT.out.at 3 rfl
    have d3 : w.cell? ⟨q, o + 3, none⟩ = some (.string s1) := HBT.out.at 3 rfl
    have c4 : w.cell? ⟨p, i + 4, none⟩ = some (.int .i64 x0) := HAT.out.at 4 rfl
    have d4 : w.cell? ⟨q, o + 4, none⟩ = some (.int .i64 x1) := HBT.out.at 4 rfl
    have c5 : w.cell? ⟨p, i + 5, none⟩ = some (.int .i64 g0) := HAT.out.at 5 rfl
    have d5 : w.cell? ⟨q, o + 5, none⟩ = some (.int .i64 g1) := HBT.out.at 5 rfl
    have hp := HAT.out.1
    have hq := HBT.out.1
    rw [HR.out]
    go_enter Tryd.func64, Tryd.ntmps64
    go_wp2
    refine wp_region_below (by kernel_rfl) (by kernel_rfl) ?_
    repeat (first | (refine wq_val ?_ ?_; (focus (go_simp; done)); apply Exists.intro; refine ⟨fun w1 hw1 => ?_, ?_⟩; (obtain ⟨hc, hf⟩ := bcell hw1; clear hw1; go_simp; (first | done | with_reducible rfl | (with_reducible exact eql2 _ _ _) | (with_reducible exact neq2 _ _ _))); (try simp only [Act.put, List.setIfInBounds_toArray, List.set_cons_zero, List.set_cons_succ])) | (refine wq_skip ?_ ?_; (focus (go_simp; (first | done | (simp [undef]; done)))); (try simp only [Act.put, List.setIfInBounds_toArray, List.set_cons_zero, List.set_cons_succ])))
    refine wq_nil ?_
    intro w1 hb
    have HB := Lib.hid hb
    replace HAT := Lib.hid (HAT.out.below hb)
    replace HBT := Lib.hid (HBT.out.below hb)
    clear hb
    clear hp hq c1 d1 c2 d2 c3 d3 c4 d4 c5 d5
    have c1 : w1.cell? ⟨p, i + 1, none⟩ = some (.string f0) := HAT.out.at 1 rfl
    have d1 : w1.cell? ⟨q, o + 1, none⟩ = some (.string f1) := HBT.out.at 1 rfl
    have c2 : w1.cell? ⟨p, i + 2, none⟩ = some (.int .i64 u0) := HAT.out.at 2 rfl
    have d2 : w1.cell? ⟨q, o + 2, none⟩ = some (.int .i64 u1) := HBT.out.at 2 rfl
    have c3 : w1.cell? ⟨p, i + 3, none⟩ = some (.string s0) := HAT.out.at 3 rfl
    have d3 : w1.cell? ⟨q, o + 3, none⟩ = some (.string s1) := HBT.out.at 3 rfl
    have c4 : w1.cell? ⟨p, i + 4, none⟩ = some (.int .i64 x0) := HAT.out.at 4 rfl
    have d4 : w1.cell? ⟨q, o + 4, none⟩ = some (.int .i64 x1) := HBT.out.at 4 rfl
    have c5 : w1.cell? ⟨p, i + 5, none⟩ = some (.int .i64 g0) := HAT.out.at 5 rfl
    have d5 : w1.cell? ⟨q, o + 5, none⟩ = some (.int .i64 g1) := HBT.out.at 5 rfl
    have hp := HAT.out.1
    have hq := HBT.out.1
    go_wp2
    refine wp_region_below (by kernel_rfl) (by kernel_rfl) ?_
    repeat (first | (refine wq_val ?_ ?_; (focus (go_simp; done)); apply Exists.intro; refine ⟨fun w1 hw1 => ?_, ?_⟩; (obtain ⟨hc, hf⟩ := bcell hw1; clear hw1; go_simp; (first | done | with_reducible rfl | (with_reducible exact eql2 _ _ _) | (with_reducible exact neq2 _ _ _))); (try simp only [Act.put, List.setIfInBounds_toArray, List.set_cons_zero, List.set_cons_succ])) | (refine wq_skip ?_ ?_; (focus (go_simp; (first | done | (simp [undef]; done)))); (try simp only [Act.put, List.setIfInBounds_toArray, List.set_cons_zero, List.set_cons_succ])) | (refine wq_call 49 ?_ ?_; (focus (go_simp; done)); apply Exists.intro; refine ⟨fun w1 hw1 => ?_, ?_⟩; (focus (clear hw1; go_simp; (first | done | with_reducible rfl))); apply Exists.intro; refine ⟨fun w1 hw1 => ?_, ?_⟩; (focus (exact calls_below_same hw1 (by have h := max_ven (x0 - x1) (-(x0 - x1)) w1; rw [HMX.out] at h; exact h); done)); (try simp only [Act.put, List.setIfInBounds_toArray, List.set_cons_zero, List.set_cons_succ])) | (refine wq_call 97 ?_ ?_; (focus (go_simp; done)); apply Exists.intro; refine ⟨fun w1 hw1 => ?_, ?_⟩; (focus (clear hw1; go_simp; (first | done | with_reducible rfl))); apply Exists.intro; refine ⟨fun w1 hw1 => ?_, ?_⟩; (focus (exact calls_below_same hw1 (angle_spec g0 g1 w1 a4 (by omega) b4 (by omega)); done)); (try simp only [Act.put, List.setIfInBounds_toArray, List.set_cons_zero, List.set_cons_succ])))
    refine wq_nil ?_
    intro w2 hb
    replace HB := Lib.hid (bseq HB.out hb)
    replace HAT := Lib.hid (HAT.out.below hb)
    replace HBT := Lib.hid (HBT.out.below hb)
    clear hb
    clear hp hq c1 d1 c2 d2 c3 d3 c4 d4 c5 d5
    have c1 : w2.cell? ⟨p, i + 1, none⟩ = some (.string f0) := HAT.out.at 1 rfl
    have d1 : w2.cell? ⟨q, o + 1, none⟩ = some (.string f1) := HBT.out.at 1 rfl
    have c2 : w2.cell? ⟨p, i + 2, none⟩ = some (.int .i64 u0) := HAT.out.at 2 rfl
    have d2 : w2.cell? ⟨q, o + 2, none⟩ = some (.int .i64 u1) := HBT.out.at 2 rfl
    have c3 : w2.cell? ⟨p, i + 3, none⟩ = some (.string s0) := HAT.out.at 3 rfl
    have d3 : w2.cell? ⟨q, o + 3, none⟩ = some (.string s1) := HBT.out.at 3 rfl
    have c4 : w2.cell? ⟨p, i + 4, none⟩ = some (.int .i64 x0) := HAT.out.at 4 rfl
    have d4 : w2.cell? ⟨q, o + 4, none⟩ = some (.int .i64 x1) := HBT.out.at 4 rfl
    have c5 : w2.cell? ⟨p, i + 5, none⟩ = some (.int .i64 g0) := HAT.out.at 5 rfl
    have d5 : w2.cell? ⟨q, o + 5, none⟩ = some (.int .i64 g1) := HBT.out.at 5 rfl
    have hp := HAT.out.1
    have hq := HBT.out.1
    go_wp2
    refine wp_region_below (by kernel_rfl) (by kernel_rfl) ?_
    repeat (first | (refine wq_val ?_ ?_; (focus (go_simp; done)); apply Exists.intro; refine ⟨fun w1 hw1 => ?_, ?_⟩; (obtain ⟨hc, hf⟩ := bcell hw1; clear hw1; go_simp; (first | done | with_reducible rfl | (with_reducible exact eql2 _ _ _) | (with_reducible exact neq2 _ _ _))); (try simp only [Act.put, List.setIfInBounds_toArray, List.set_cons_zero, List.set_cons_succ])) | (refine wq_skip ?_ ?_; (focus (go_simp; (first | done | (simp [undef]; done)))); (try simp only [Act.put, List.setIfInBounds_toArray, List.set_cons_zero, List.set_cons_succ])))
    refine wq_nil ?_
    intro w3 hb
    replace HB := Lib.hid (bseq HB.out hb)
    replace HAT := Lib.hid (HAT.out.below hb)
    replace HBT := Lib.hid (HBT.out.below hb)
    clear hb
    clear hp hq c1 d1 c2 d2 c3 d3 c4 d4 c5 d5
    have c1 : w3.cell? ⟨p, i + 1, none⟩ = some (.string f0) := HAT.out.at 1 rfl
    have d1 : w3.cell? ⟨q, o + 1, none⟩ = some (.string f1) := HBT.out.at 1 rfl
    have c2 : w3.cell? ⟨p, i + 2, none⟩ = some (.int .i64 u0) := HAT.out.at 2 rfl
    have d2 : w3.cell? ⟨q, o + 2, none⟩ = some (.int .i64 u1) := HBT.out.at 2 rfl
    have c3 : w3.cell? ⟨p, i + 3, none⟩ = some (.string s0) := HAT.out.at 3 rfl
    have d3 : w3.cell? ⟨q, o + 3, none⟩ = some (.string s1) := HBT.out.at 3 rfl
    have c4 : w3.cell? ⟨p, i + 4, none⟩ = some (.int .i64 x0) := HAT.out.at 4 rfl
    have d4 : w3.cell? ⟨q, o + 4, none⟩ = some (.int .i64 x1) := HBT.out.at 4 rfl
    have c5 : w3.cell? ⟨p, i + 5, none⟩ = some (.int .i64 g0) := HAT.out.at 5 rfl
    have d5 : w3.cell? ⟨q, o + 5, none⟩ = some (.int .i64 g1) := HBT.out.at 5 rfl
    have hp := HAT.out.1
    have hq := HBT.out.1
    go_wp2
    refine wp_region_below (by kernel_rfl) (by kernel_rfl) ?_
    repeat (first | (refine wq_val ?_ ?_; (focus (go_simp; done)); apply Exists.intro; refine ⟨fun w1 hw1 => ?_, ?_⟩; (obtain ⟨hc, hf⟩ := bcell hw1; clear hw1; go_simp; (first | done | with_reducible rfl | (with_reducible exact eql2 _ _ _) | (with_reducible exact neq2 _ _ _))); (try simp only [Act.put, List.setIfInBounds_toArray, List.set_cons_zero, List.set_cons_succ])) | (refine wq_skip ?_ ?_; (focus (go_simp; (first | done | (simp [undef]; done)))); (try simp only [Act.put, List.setIfInBounds_toArray, List.set_cons_zero, List.set_cons_succ])))
    refine wq_nil ?_
    intro w4 hb
    replace HB := Lib.hid (bseq HB.out hb)
    replace HAT := Lib.hid (HAT.out.below hb)
    replace HBT := Lib.hid (HBT.out.below hb)
    clear hb
    clear hp hq c1 d1 c2 d2 c3 d3 c4 d4 c5 d5
    have c1 : w4.cell? ⟨p, i + 1, none⟩ = some (.string f0) := HAT.out.at 1 rfl
    have d1 : w4.cell? ⟨q, o + 1, none⟩ = some (.string f1) := HBT.out.at 1 rfl
    have c2 : w4.cell? ⟨p, i + 2, none⟩ = some (.int .i64 u0) := HAT.out.at 2 rfl
    have d2 : w4.cell? ⟨q, o + 2, none⟩ = some (.int .i64 u1) := HBT.out.at 2 rfl
    have c3 : w4.cell? ⟨p, i + 3, none⟩ = some (.string s0) := HAT.out.at 3 rfl
    have d3 : w4.cell? ⟨q, o + 3, none⟩ = some (.string s1) := HBT.out.at 3 rfl
    have c4 : w4.cell? ⟨p, i + 4, none⟩ = some (.int .i64 x0) := HAT.out.at 4 rfl
    have d4 : w4.cell? ⟨q, o + 4, none⟩ = some (.int .i64 x1) := HBT.out.at 4 rfl
    have c5 : w4.cell? ⟨p, i + 5, none⟩ = some (.int .i64 g0) := HAT.out.at 5 rfl
    have d5 : w4.cell? ⟨q, o + 5, none⟩ = some (.int .i64 g1) := HBT.out.at 5 rfl
    have hp := HAT.out.1
    have hq := HBT.out.1
    go_wp2
    go_ret
    exact ⟨rfl, HB.out⟩
  · have hg := ang_180 a4 (by omega : g0 ≤ 180) hm.1 (by omega : (mirG g1) ≤ 180)
    have e4 : IntKind.i64.wrap (3 * awy x0 x1 + angI g0 (mirG g1)) = 3 * awy x0 x1 + angI g0 (mirG g1) := IntWalk.i64_in _ (by omega)
    have e10 : IntKind.i64.wrap (3 * awy x0 x1 + angI g0 (mirG g1) + 500) = 3 * awy x0 x1 + angI g0 (mirG g1) + 500 := IntWalk.i64_in _ (by omega)
    have e11 : IntKind.i64.wrap (3 * awy x0 x1 + angI g0 (mirG g1) + 500 + 500) = 3 * awy x0 x1 + angI g0 (mirG g1) + 500 + 500 := IntWalk.i64_in _ (by omega)
    have HR := Lib.hid (show scI ⟨id0, f0, u0, (s0, x0, g0), W0, L0, D0⟩ ⟨id1, f1, u1, (s1, x1, g1), W1, L1, D1⟩ true = 3 * awy x0 x1 + angI g0 (mirG g1) + 500 + 500 by
      unfold scI scN scS scG; simp only [hf, hs, if_true, if_false, Bool.false_eq_true, Int.add_zero])
    have hs2 : (s0.toList != s1.toList) = true := by rw [bne, hs]; rfl
    have c1 : w.cell? ⟨p, i + 1, none⟩ = some (.string f0) := HAT.out.at 1 rfl
    have d1 : w.cell? ⟨q, o + 1, none⟩ = some (.string f1) := HBT.out.at 1 rfl
    have c2 : w.cell? ⟨p, i + 2, none⟩ = some (.int .i64 u0) := HAT.out.at 2 rfl
    have d2 : w.cell? ⟨q, o + 2, none⟩ = some (.int .i64 u1) := HBT.out.at 2 rfl
    have c3 : w.cell? ⟨p, i + 3, none⟩ = some (.string s0) := HAT.out.at 3 rfl
    have d3 : w.cell? ⟨q, o + 3, none⟩ = some (.string s1) := HBT.out.at 3 rfl
    have c4 : w.cell? ⟨p, i + 4, none⟩ = some (.int .i64 x0) := HAT.out.at 4 rfl
    have d4 : w.cell? ⟨q, o + 4, none⟩ = some (.int .i64 x1) := HBT.out.at 4 rfl
    have c5 : w.cell? ⟨p, i + 5, none⟩ = some (.int .i64 g0) := HAT.out.at 5 rfl
    have d5 : w.cell? ⟨q, o + 5, none⟩ = some (.int .i64 g1) := HBT.out.at 5 rfl
    have hp := HAT.out.1
    have hq := HBT.out.1
    rw [HR.out]
    go_enter Tryd.func64, Tryd.ntmps64
    go_wp2
    refine wp_region_below (by kernel_rfl) (by kernel_rfl) ?_
    repeat (first | (refine wq_val ?_ ?_; (focus (go_simp; done)); apply Exists.intro; refine ⟨fun w1 hw1 => ?_, ?_⟩; (obtain ⟨hc, hf⟩ := bcell hw1; clear hw1; go_simp; (first | done | with_reducible rfl | (with_reducible exact eql2 _ _ _) | (with_reducible exact neq2 _ _ _))); (try simp only [Act.put, List.setIfInBounds_toArray, List.set_cons_zero, List.set_cons_succ])) | (refine wq_skip ?_ ?_; (focus (go_simp; (first | done | (simp [undef]; done)))); (try simp only [Act.put, List.setIfInBounds_toArray, List.set_cons_zero, List.set_cons_succ])))
    refine wq_nil ?_
    intro w1 hb
    have HB := Lib.hid hb
    replace HAT := Lib.hid (HAT.out.below hb)
    replace HBT := Lib.hid (HBT.out.below hb)
    clear hb
    clear hp hq c1 d1 c2 d2 c3 d3 c4 d4 c5 d5
    have c1 : w1.cell? ⟨p, i + 1, none⟩ = some (.string f0) := HAT.out.at 1 rfl
    have d1 : w1.cell? ⟨q, o + 1, none⟩ = some (.string f1) := HBT.out.at 1 rfl
    have c2 : w1.cell? ⟨p, i + 2, none⟩ = some (.int .i64 u0) := HAT.out.at 2 rfl
    have d2 : w1.cell? ⟨q, o + 2, none⟩ = some (.int .i64 u1) := HBT.out.at 2 rfl
    have c3 : w1.cell? ⟨p, i + 3, none⟩ = some (.string s0) := HAT.out.at 3 rfl
    have d3 : w1.cell? ⟨q, o + 3, none⟩ = some (.string s1) := HBT.out.at 3 rfl
    have c4 : w1.cell? ⟨p, i + 4, none⟩ = some (.int .i64 x0) := HAT.out.at 4 rfl
    have d4 : w1.cell? ⟨q, o + 4, none⟩ = some (.int .i64 x1) := HBT.out.at 4 rfl
    have c5 : w1.cell? ⟨p, i + 5, none⟩ = some (.int .i64 g0) := HAT.out.at 5 rfl
    have d5 : w1.cell? ⟨q, o + 5, none⟩ = some (.int .i64 g1) := HBT.out.at 5 rfl
    have hp := HAT.out.1
    have hq := HBT.out.1
    go_wp2
    refine wp_region_below (by kernel_rfl) (by kernel_rfl) ?_
    repeat (first | (refine wq_val ?_ ?_; (focus (go_simp; done)); apply Exists.intro; refine ⟨fun w1 hw1 => ?_, ?_⟩; (obtain ⟨hc, hf⟩ := bcell hw1; clear hw1; go_simp; (first | done | with_reducible rfl | (with_reducible exact eql2 _ _ _) | (with_reducible exact neq2 _ _ _))); (try simp only [Act.put, List.setIfInBounds_toArray, List.set_cons_zero, List.set_cons_succ])) | (refine wq_skip ?_ ?_; (focus (go_simp; (first | done | (simp [undef]; done)))); (try simp only [Act.put, List.setIfInBounds_toArray, List.set_cons_zero, List.set_cons_succ])) | (refine wq_call 49 ?_ ?_; (focus (go_simp; done)); apply Exists.intro; refine ⟨fun w1 hw1 => ?_, ?_⟩; (focus (clear hw1; go_simp; (first | done | with_reducible rfl))); apply Exists.intro; refine ⟨fun w1 hw1 => ?_, ?_⟩; (focus (exact calls_below_same hw1 (by have h := max_ven (x0 - x1) (-(x0 - x1)) w1; rw [HMX.out] at h; exact h); done)); (try simp only [Act.put, List.setIfInBounds_toArray, List.set_cons_zero, List.set_cons_succ])) | (refine wq_call 97 ?_ ?_; (focus (go_simp; done)); apply Exists.intro; refine ⟨fun w1 hw1 => ?_, ?_⟩; (focus (clear hw1; go_simp; (first | done | with_reducible rfl))); apply Exists.intro; refine ⟨fun w1 hw1 => ?_, ?_⟩; (focus (exact calls_below_same hw1 (angle_spec g0 (mirG g1) w1 a4 (by omega) hm.1 (by omega)); done)); (try simp only [Act.put, List.setIfInBounds_toArray, List.set_cons_zero, List.set_cons_succ])))
    refine wq_nil ?_
    intro w2 hb
    replace HB := Lib.hid (bseq HB.out hb)
    replace HAT := Lib.hid (HAT.out.below hb)
    replace HBT := Lib.hid (HBT.out.below hb)
    clear hb
    clear hp hq c1 d1 c2 d2 c3 d3 c4 d4 c5 d5
    have c1 : w2.cell? ⟨p, i + 1, none⟩ = some (.string f0) := HAT.out.at 1 rfl
    have d1 : w2.cell? ⟨q, o + 1, none⟩ = some (.string f1) := HBT.out.at 1 rfl
    have c2 : w2.cell? ⟨p, i + 2, none⟩ = some (.int .i64 u0) := HAT.out.at 2 rfl
    have d2 : w2.cell? ⟨q, o + 2, none⟩ = some (.int .i64 u1) := HBT.out.at 2 rfl
    have c3 : w2.cell? ⟨p, i + 3, none⟩ = some (.string s0) := HAT.out.at 3 rfl
    have d3 : w2.cell? ⟨q, o + 3, none⟩ = some (.string s1) := HBT.out.at 3 rfl
    have c4 : w2.cell? ⟨p, i + 4, none⟩ = some (.int .i64 x0) := HAT.out.at 4 rfl
    have d4 : w2.cell? ⟨q, o + 4, none⟩ = some (.int .i64 x1) := HBT.out.at 4 rfl
    have c5 : w2.cell? ⟨p, i + 5, none⟩ = some (.int .i64 g0) := HAT.out.at 5 rfl
    have d5 : w2.cell? ⟨q, o + 5, none⟩ = some (.int .i64 g1) := HBT.out.at 5 rfl
    have hp := HAT.out.1
    have hq := HBT.out.1
    go_wp2
    refine wp_region_below (by kernel_rfl) (by kernel_rfl) ?_
    repeat (first | (refine wq_val ?_ ?_; (focus (go_simp; done)); apply Exists.intro; refine ⟨fun w1 hw1 => ?_, ?_⟩; (obtain ⟨hc, hf⟩ := bcell hw1; clear hw1; go_simp; (first | done | with_reducible rfl | (with_reducible exact eql2 _ _ _) | (with_reducible exact neq2 _ _ _))); (try simp only [Act.put, List.setIfInBounds_toArray, List.set_cons_zero, List.set_cons_succ])) | (refine wq_skip ?_ ?_; (focus (go_simp; (first | done | (simp [undef]; done)))); (try simp only [Act.put, List.setIfInBounds_toArray, List.set_cons_zero, List.set_cons_succ])))
    refine wq_nil ?_
    intro w3 hb
    replace HB := Lib.hid (bseq HB.out hb)
    replace HAT := Lib.hid (HAT.out.below hb)
    replace HBT := Lib.hid (HBT.out.below hb)
    clear hb
    clear hp hq c1 d1 c2 d2 c3 d3 c4 d4 c5 d5
    have c1 : w3.cell? ⟨p, i + 1, none⟩ = some (.string f0) := HAT.out.at 1 rfl
    have d1 : w3.cell? ⟨q, o + 1, none⟩ = some (.string f1) := HBT.out.at 1 rfl
    have c2 : w3.cell? ⟨p, i + 2, none⟩ = some (.int .i64 u0) := HAT.out.at 2 rfl
    have d2 : w3.cell? ⟨q, o + 2, none⟩ = some (.int .i64 u1) := HBT.out.at 2 rfl
    have c3 : w3.cell? ⟨p, i + 3, none⟩ = some (.string s0) := HAT.out.at 3 rfl
    have d3 : w3.cell? ⟨q, o + 3, none⟩ = some (.string s1) := HBT.out.at 3 rfl
    have c4 : w3.cell? ⟨p, i + 4, none⟩ = some (.int .i64 x0) := HAT.out.at 4 rfl
    have d4 : w3.cell? ⟨q, o + 4, none⟩ = some (.int .i64 x1) := HBT.out.at 4 rfl
    have c5 : w3.cell? ⟨p, i + 5, none⟩ = some (.int .i64 g0) := HAT.out.at 5 rfl
    have d5 : w3.cell? ⟨q, o + 5, none⟩ = some (.int .i64 g1) := HBT.out.at 5 rfl
    have hp := HAT.out.1
    have hq := HBT.out.1
    go_wp2
    refine wp_region_below (by kernel_rfl) (by kernel_rfl) ?_
    repeat (first | (refine wq_val ?_ ?_; (focus (go_simp; done)); apply Exists.intro; refine ⟨fun w1 hw1 => ?_, ?_⟩; (obtain ⟨hc, hf⟩ := bcell hw1; clear hw1; go_simp; (first | done | with_reducible rfl | (with_reducible exact eql2 _ _ _) | (with_reducible exact neq2 _ _ _))); (try simp only [Act.put, List.setIfInBounds_toArray, List.set_cons_zero, List.set_cons_succ])) | (refine wq_skip ?_ ?_; (focus (go_simp; (first | done | (simp [undef]; done)))); (try simp only [Act.put, List.setIfInBounds_toArray, List.set_cons_zero, List.set_cons_succ])))
    refine wq_nil ?_
    intro w4 hb
    replace HB := Lib.hid (bseq HB.out hb)
    replace HAT := Lib.hid (HAT.out.below hb)
    replace HBT := Lib.hid (HBT.out.below hb)
    clear hb
    clear hp hq c1 d1 c2 d2 c3 d3 c4 d4 c5 d5
    have c1 : w4.cell? ⟨p, i + 1, none⟩ = some (.string f0) := HAT.out.at 1 rfl
    have d1 : w4.cell? ⟨q, o + 1, none⟩ = some (.string f1) := HBT.out.at 1 rfl
    have c2 : w4.cell? ⟨p, i + 2, none⟩ = some (.int .i64 u0) := HAT.out.at 2 rfl
    have d2 : w4.cell? ⟨q, o + 2, none⟩ = some (.int .i64 u1) := HBT.out.at 2 rfl
    have c3 : w4.cell? ⟨p, i + 3, none⟩ = some (.string s0) := HAT.out.at 3 rfl
    have d3 : w4.cell? ⟨q, o + 3, none⟩ = some (.string s1) := HBT.out.at 3 rfl
    have c4 : w4.cell? ⟨p, i + 4, none⟩ = some (.int .i64 x0) := HAT.out.at 4 rfl
    have d4 : w4.cell? ⟨q, o + 4, none⟩ = some (.int .i64 x1) := HBT.out.at 4 rfl
    have c5 : w4.cell? ⟨p, i + 5, none⟩ = some (.int .i64 g0) := HAT.out.at 5 rfl
    have d5 : w4.cell? ⟨q, o + 5, none⟩ = some (.int .i64 g1) := HBT.out.at 5 rfl
    have hp := HAT.out.1
    have hq := HBT.out.1
    go_wp2
    go_ret
    exact ⟨rfl, HB.out⟩
  · have hg := ang_180 a4 (by omega : g0 ≤ 180) b4 (by omega : g1 ≤ 180)
    have e4 : IntKind.i64.wrap (3 * awy x0 x1 + angI g0 g1) = 3 * awy x0 x1 + angI g0 g1 := IntWalk.i64_in _ (by omega)
    have e10 : IntKind.i64.wrap (3 * awy x0 x1 + angI g0 g1 + 500) = 3 * awy x0 x1 + angI g0 g1 + 500 := IntWalk.i64_in _ (by omega)
    have HR := Lib.hid (show scI ⟨id0, f0, u0, (s0, x0, g0), W0, L0, D0⟩ ⟨id1, f1, u1, (s1, x1, g1), W1, L1, D1⟩ false = 3 * awy x0 x1 + angI g0 g1 + 500 by
      unfold scI scN scS scG; simp only [hf, hs, if_true, if_false, Bool.false_eq_true, Int.add_zero])
    have hs2 : (s0.toList != s1.toList) = false := by rw [bne, hs]; rfl
    have c1 : w.cell? ⟨p, i + 1, none⟩ = some (.string f0) := HAT.out.at 1 rfl
    have d1 : w.cell? ⟨q, o + 1, none⟩ = some (.string f1) := HBT.out.at 1 rfl
    have c2 : w.cell? ⟨p, i + 2, none⟩ = some (.int .i64 u0) := HAT.out.at 2 rfl
    have d2 : w.cell? ⟨q, o + 2, none⟩ = some (.int .i64 u1) := HBT.out.at 2 rfl
    have c3 : w.cell? ⟨p, i + 3, none⟩ = some (.string s0) := HAT.out.at 3 rfl
    have d3 : w.cell? ⟨q, o + 3, none⟩ = some (.string s1) := HBT.out.at 3 rfl
    have c4 : w.cell? ⟨p, i + 4, none⟩ = some (.int .i64 x0) := HAT.out.at 4 rfl
    have d4 : w.cell? ⟨q, o + 4, none⟩ = some (.int .i64 x1) := HBT.out.at 4 rfl
    have c5 : w.cell? ⟨p, i + 5, none⟩ = some (.int .i64 g0) := HAT.out.at 5 rfl
    have d5 : w.cell? ⟨q, o + 5, none⟩ = some (.int .i64 g1) := HBT.out.at 5 rfl
    have hp := HAT.out.1
    have hq := HBT.out.1
    rw [HR.out]
    go_enter Tryd.func64, Tryd.ntmps64
    go_wp2
    refine wp_region_below (by kernel_rfl) (by kernel_rfl) ?_
    repeat (first | (refine wq_val ?_ ?_; (focus (go_simp; done)); apply Exists.intro; refine ⟨fun w1 hw1 => ?_, ?_⟩; (obtain ⟨hc, hf⟩ := bcell hw1; clear hw1; go_simp; (first | done | with_reducible rfl | (with_reducible exact eql2 _ _ _) | (with_reducible exact neq2 _ _ _))); (try simp only [Act.put, List.setIfInBounds_toArray, List.set_cons_zero, List.set_cons_succ])) | (refine wq_skip ?_ ?_; (focus (go_simp; (first | done | (simp [undef]; done)))); (try simp only [Act.put, List.setIfInBounds_toArray, List.set_cons_zero, List.set_cons_succ])))
    refine wq_nil ?_
    intro w1 hb
    have HB := Lib.hid hb
    replace HAT := Lib.hid (HAT.out.below hb)
    replace HBT := Lib.hid (HBT.out.below hb)
    clear hb
    clear hp hq c1 d1 c2 d2 c3 d3 c4 d4 c5 d5
    have c1 : w1.cell? ⟨p, i + 1, none⟩ = some (.string f0) := HAT.out.at 1 rfl
    have d1 : w1.cell? ⟨q, o + 1, none⟩ = some (.string f1) := HBT.out.at 1 rfl
    have c2 : w1.cell? ⟨p, i + 2, none⟩ = some (.int .i64 u0) := HAT.out.at 2 rfl
    have d2 : w1.cell? ⟨q, o + 2, none⟩ = some (.int .i64 u1) := HBT.out.at 2 rfl
    have c3 : w1.cell? ⟨p, i + 3, none⟩ = some (.string s0) := HAT.out.at 3 rfl
    have d3 : w1.cell? ⟨q, o + 3, none⟩ = some (.string s1) := HBT.out.at 3 rfl
    have c4 : w1.cell? ⟨p, i + 4, none⟩ = some (.int .i64 x0) := HAT.out.at 4 rfl
    have d4 : w1.cell? ⟨q, o + 4, none⟩ = some (.int .i64 x1) := HBT.out.at 4 rfl
    have c5 : w1.cell? ⟨p, i + 5, none⟩ = some (.int .i64 g0) := HAT.out.at 5 rfl
    have d5 : w1.cell? ⟨q, o + 5, none⟩ = some (.int .i64 g1) := HBT.out.at 5 rfl
    have hp := HAT.out.1
    have hq := HBT.out.1
    go_wp2
    refine wp_region_below (by kernel_rfl) (by kernel_rfl) ?_
    repeat (first | (refine wq_val ?_ ?_; (focus (go_simp; done)); apply Exists.intro; refine ⟨fun w1 hw1 => ?_, ?_⟩; (obtain ⟨hc, hf⟩ := bcell hw1; clear hw1; go_simp; (first | done | with_reducible rfl | (with_reducible exact eql2 _ _ _) | (with_reducible exact neq2 _ _ _))); (try simp only [Act.put, List.setIfInBounds_toArray, List.set_cons_zero, List.set_cons_succ])) | (refine wq_skip ?_ ?_; (focus (go_simp; (first | done | (simp [undef]; done)))); (try simp only [Act.put, List.setIfInBounds_toArray, List.set_cons_zero, List.set_cons_succ])) | (refine wq_call 49 ?_ ?_; (focus (go_simp; done)); apply Exists.intro; refine ⟨fun w1 hw1 => ?_, ?_⟩; (focus (clear hw1; go_simp; (first | done | with_reducible rfl))); apply Exists.intro; refine ⟨fun w1 hw1 => ?_, ?_⟩; (focus (exact calls_below_same hw1 (by have h := max_ven (x0 - x1) (-(x0 - x1)) w1; rw [HMX.out] at h; exact h); done)); (try simp only [Act.put, List.setIfInBounds_toArray, List.set_cons_zero, List.set_cons_succ])) | (refine wq_call 97 ?_ ?_; (focus (go_simp; done)); apply Exists.intro; refine ⟨fun w1 hw1 => ?_, ?_⟩; (focus (clear hw1; go_simp; (first | done | with_reducible rfl))); apply Exists.intro; refine ⟨fun w1 hw1 => ?_, ?_⟩; (focus (exact calls_below_same hw1 (angle_spec g0 g1 w1 a4 (by omega) b4 (by omega)); done)); (try simp only [Act.put, List.setIfInBounds_toArray, List.set_cons_zero, List.set_cons_succ])))
    refine wq_nil ?_
    intro w2 hb
    replace HB := Lib.hid (bseq HB.out hb)
    replace HAT := Lib.hid (HAT.out.below hb)
    replace HBT := Lib.hid (HBT.out.below hb)
    clear hb
    clear hp hq c1 d1 c2 d2 c3 d3 c4 d4 c5 d5
    have c1 : w2.cell? ⟨p, i + 1, none⟩ = some (.string f0) := HAT.out.at 1 rfl
    have d1 : w2.cell? ⟨q, o + 1, none⟩ = some (.string f1) := HBT.out.at 1 rfl
    have c2 : w2.cell? ⟨p, i + 2, none⟩ = some (.int .i64 u0) := HAT.out.at 2 rfl
    have d2 : w2.cell? ⟨q, o + 2, none⟩ = some (.int .i64 u1) := HBT.out.at 2 rfl
    have c3 : w2.cell? ⟨p, i + 3, none⟩ = some (.string s0) := HAT.out.at 3 rfl
    have d3 : w2.cell? ⟨q, o + 3, none⟩ = some (.string s1) := HBT.out.at 3 rfl
    have c4 : w2.cell? ⟨p, i + 4, none⟩ = some (.int .i64 x0) := HAT.out.at 4 rfl
    have d4 : w2.cell? ⟨q, o + 4, none⟩ = some (.int .i64 x1) := HBT.out.at 4 rfl
    have c5 : w2.cell? ⟨p, i + 5, none⟩ = some (.int .i64 g0) := HAT.out.at 5 rfl
    have d5 : w2.cell? ⟨q, o + 5, none⟩ = some (.int .i64 g1) := HBT.out.at 5 rfl
    have hp := HAT.out.1
    have hq := HBT.out.1
    go_wp2
    refine wp_region_below (by kernel_rfl) (by kernel_rfl) ?_
    repeat (first | (refine wq_val ?_ ?_; (focus (go_simp; done)); apply Exists.intro; refine ⟨fun w1 hw1 => ?_, ?_⟩; (obtain ⟨hc, hf⟩ := bcell hw1; clear hw1; go_simp; (first | done | with_reducible rfl | (with_reducible exact eql2 _ _ _) | (with_reducible exact neq2 _ _ _))); (try simp only [Act.put, List.setIfInBounds_toArray, List.set_cons_zero, List.set_cons_succ])) | (refine wq_skip ?_ ?_; (focus (go_simp; (first | done | (simp [undef]; done)))); (try simp only [Act.put, List.setIfInBounds_toArray, List.set_cons_zero, List.set_cons_succ])))
    refine wq_nil ?_
    intro w3 hb
    replace HB := Lib.hid (bseq HB.out hb)
    replace HAT := Lib.hid (HAT.out.below hb)
    replace HBT := Lib.hid (HBT.out.below hb)
    clear hb
    clear hp hq c1 d1 c2 d2 c3 d3 c4 d4 c5 d5
    have c1 : w3.cell? ⟨p, i + 1, none⟩ = some (.string f0) := HAT.out.at 1 rfl
    have d1 : w3.cell? ⟨q, o + 1, none⟩ = some (.string f1) := HBT.out.at 1 rfl
    have c2 : w3.cell? ⟨p, i + 2, none⟩ = some (.int .i64 u0) := HAT.out.at 2 rfl
    have d2 : w3.cell? ⟨q, o + 2, none⟩ = some (.int .i64 u1) := HBT.out.at 2 rfl
    have c3 : w3.cell? ⟨p, i + 3, none⟩ = some (.string s0) := HAT.out.at 3 rfl
    have d3 : w3.cell? ⟨q, o + 3, none⟩ = some (.string s1) := HBT.out.at 3 rfl
    have c4 : w3.cell? ⟨p, i + 4, none⟩ = some (.int .i64 x0) := HAT.out.at 4 rfl
    have d4 : w3.cell? ⟨q, o + 4, none⟩ = some (.int .i64 x1) := HBT.out.at 4 rfl
    have c5 : w3.cell? ⟨p, i + 5, none⟩ = some (.int .i64 g0) := HAT.out.at 5 rfl
    have d5 : w3.cell? ⟨q, o + 5, none⟩ = some (.int .i64 g1) := HBT.out.at 5 rfl
    have hp := HAT.out.1
    have hq := HBT.out.1
    go_wp2
    refine wp_region_below (by kernel_rfl) (by kernel_rfl) ?_
    repeat (first | (refine wq_val ?_ ?_; (focus (go_simp; done)); apply Exists.intro; refine ⟨fun w1 hw1 => ?_, ?_⟩; (obtain ⟨hc, hf⟩ := bcell hw1; clear hw1; go_simp; (first | done | with_reducible rfl | (with_reducible exact eql2 _ _ _) | (with_reducible exact neq2 _ _ _))); (try simp only [Act.put, List.setIfInBounds_toArray, List.set_cons_zero, List.set_cons_succ])) | (refine wq_skip ?_ ?_; (focus (go_simp; (first | done | (simp [undef]; done)))); (try simp only [Act.put, List.setIfInBounds_toArray, List.set_cons_zero, List.set_cons_succ])))
    refine wq_nil ?_
    intro w4 hb
    replace HB := Lib.hid (bseq HB.out hb)
    replace HAT := Lib.hid (HAT.out.below hb)
    replace HBT := Lib.hid (HBT.out.below hb)
    clear hb
    clear hp hq c1 d1 c2 d2 c3 d3 c4 d4 c5 d5
    have c1 : w4.cell? ⟨p, i + 1, none⟩ = some (.string f0) := HAT.out.at 1 rfl
    have d1 : w4.cell? ⟨q, o + 1, none⟩ = some (.string f1) := HBT.out.at 1 rfl
    have c2 : w4.cell? ⟨p, i + 2, none⟩ = some (.int .i64 u0) := HAT.out.at 2 rfl
    have d2 : w4.cell? ⟨q, o + 2, none⟩ = some (.int .i64 u1) := HBT.out.at 2 rfl
    have c3 : w4.cell? ⟨p, i + 3, none⟩ = some (.string s0) := HAT.out.at 3 rfl
    have d3 : w4.cell? ⟨q, o + 3, none⟩ = some (.string s1) := HBT.out.at 3 rfl
    have c4 : w4.cell? ⟨p, i + 4, none⟩ = some (.int .i64 x0) := HAT.out.at 4 rfl
    have d4 : w4.cell? ⟨q, o + 4, none⟩ = some (.int .i64 x1) := HBT.out.at 4 rfl
    have c5 : w4.cell? ⟨p, i + 5, none⟩ = some (.int .i64 g0) := HAT.out.at 5 rfl
    have d5 : w4.cell? ⟨q, o + 5, none⟩ = some (.int .i64 g1) := HBT.out.at 5 rfl
    have hp := HAT.out.1
    have hq := HBT.out.1
    go_wp2
    go_ret
    exact ⟨rfl, HB.out⟩
  · have hg := ang_180 a4 (by omega : g0 ≤ 180) hm.1 (by omega : (mirG g1) ≤ 180)
    have e4 : IntKind.i64.wrap (3 * awy x0 x1 + angI g0 (mirG g1)) = 3 * awy x0 x1 + angI g0 (mirG g1) := IntWalk.i64_in _ (by omega)
    have e10 : IntKind.i64.wrap (3 * awy x0 x1 + angI g0 (mirG g1) + 500) = 3 * awy x0 x1 + angI g0 (mirG g1) + 500 := IntWalk.i64_in _ (by omega)
    have HR := Lib.hid (show scI ⟨id0, f0, u0, (s0, x0, g0), W0, L0, D0⟩ ⟨id1, f1, u1, (s1, x1, g1), W1, L1, D1⟩ true = 3 * awy x0 x1 + angI g0 (mirG g1) + 500 by
      unfold scI scN scS scG; simp only [hf, hs, if_true, if_false, Bool.false_eq_true, Int.add_zero])
    have hs2 : (s0.toList != s1.toList) = false := by rw [bne, hs]; rfl
    have c1 : w.cell? ⟨p, i + 1, none⟩ = some (.string f0) := HAT.out.at 1 rfl
    have d1 : w.cell? ⟨q, o + 1, none⟩ = some (.string f1) := HBT.out.at 1 rfl
    have c2 : w.cell? ⟨p, i + 2, none⟩ = some (.int .i64 u0) := HAT.out.at 2 rfl
    have d2 : w.cell? ⟨q, o + 2, none⟩ = some (.int .i64 u1) := HBT.out.at 2 rfl
    have c3 : w.cell? ⟨p, i + 3, none⟩ = some (.string s0) := HAT.out.at 3 rfl
    have d3 : w.cell? ⟨q, o + 3, none⟩ = some (.string s1) := HBT.out.at 3 rfl
    have c4 : w.cell? ⟨p, i + 4, none⟩ = some (.int .i64 x0) := HAT.out.at 4 rfl
    have d4 : w.cell? ⟨q, o + 4, none⟩ = some (.int .i64 x1) := HBT.out.at 4 rfl
    have c5 : w.cell? ⟨p, i + 5, none⟩ = some (.int .i64 g0) := HAT.out.at 5 rfl
    have d5 : w.cell? ⟨q, o + 5, none⟩ = some (.int .i64 g1) := HBT.out.at 5 rfl
    have hp := HAT.out.1
    have hq := HBT.out.1
    rw [HR.out]
    go_enter Tryd.func64, Tryd.ntmps64
    go_wp2
    refine wp_region_below (by kernel_rfl) (by kernel_rfl) ?_
    repeat (first | (refine wq_val ?_ ?_; (focus (go_simp; done)); apply Exists.intro; refine ⟨fun w1 hw1 => ?_, ?_⟩; (obtain ⟨hc, hf⟩ := bcell hw1; clear hw1; go_simp; (first | done | with_reducible rfl | (with_reducible exact eql2 _ _ _) | (with_reducible exact neq2 _ _ _))); (try simp only [Act.put, List.setIfInBounds_toArray, List.set_cons_zero, List.set_cons_succ])) | (refine wq_skip ?_ ?_; (focus (go_simp; (first | done | (simp [undef]; done)))); (try simp only [Act.put, List.setIfInBounds_toArray, List.set_cons_zero, List.set_cons_succ])))
    refine wq_nil ?_
    intro w1 hb
    have HB := Lib.hid hb
    replace HAT := Lib.hid (HAT.out.below hb)
    replace HBT := Lib.hid (HBT.out.below hb)
    clear hb
    clear hp hq c1 d1 c2 d2 c3 d3 c4 d4 c5 d5
    have c1 : w1.cell? ⟨p, i + 1, none⟩ = some (.string f0) := HAT.out.at 1 rfl
    have d1 : w1.cell? ⟨q, o + 1, none⟩ = some (.string f1) := HBT.out.at 1 rfl
    have c2 : w1.cell? ⟨p, i + 2, none⟩ = some (.int .i64 u0) := HAT.out.at 2 rfl
    have d2 : w1.cell? ⟨q, o + 2, none⟩ = some (.int .i64 u1) := HBT.out.at 2 rfl
    have c3 : w1.cell? ⟨p, i + 3, none⟩ = some (.string s0) := HAT.out.at 3 rfl
    have d3 : w1.cell? ⟨q, o + 3, none⟩ = some (.string s1) := HBT.out.at 3 rfl
    have c4 : w1.cell? ⟨p, i + 4, none⟩ = some (.int .i64 x0) := HAT.out.at 4 rfl
    have d4 : w1.cell? ⟨q, o + 4, none⟩ = some (.int .i64 x1) := HBT.out.at 4 rfl
    have c5 : w1.cell? ⟨p, i + 5, none⟩ = some (.int .i64 g0) := HAT.out.at 5 rfl
    have d5 : w1.cell? ⟨q, o + 5, none⟩ = some (.int .i64 g1) := HBT.out.at 5 rfl
    have hp := HAT.out.1
    have hq := HBT.out.1
    go_wp2
    refine wp_region_below (by kernel_rfl) (by kernel_rfl) ?_
    repeat (first | (refine wq_val ?_ ?_; (focus (go_simp; done)); apply Exists.intro; refine ⟨fun w1 hw1 => ?_, ?_⟩; (obtain ⟨hc, hf⟩ := bcell hw1; clear hw1; go_simp; (first | done | with_reducible rfl | (with_reducible exact eql2 _ _ _) | (with_reducible exact neq2 _ _ _))); (try simp only [Act.put, List.setIfInBounds_toArray, List.set_cons_zero, List.set_cons_succ])) | (refine wq_skip ?_ ?_; (focus (go_simp; (first | done | (simp [undef]; done)))); (try simp only [Act.put, List.setIfInBounds_toArray, List.set_cons_zero, List.set_cons_succ])) | (refine wq_call 49 ?_ ?_; (focus (go_simp; done)); apply Exists.intro; refine ⟨fun w1 hw1 => ?_, ?_⟩; (focus (clear hw1; go_simp; (first | done | with_reducible rfl))); apply Exists.intro; refine ⟨fun w1 hw1 => ?_, ?_⟩; (focus (exact calls_below_same hw1 (by have h := max_ven (x0 - x1) (-(x0 - x1)) w1; rw [HMX.out] at h; exact h); done)); (try simp only [Act.put, List.setIfInBounds_toArray, List.set_cons_zero, List.set_cons_succ])) | (refine wq_call 97 ?_ ?_; (focus (go_simp; done)); apply Exists.intro; refine ⟨fun w1 hw1 => ?_, ?_⟩; (focus (clear hw1; go_simp; (first | done | with_reducible rfl))); apply Exists.intro; refine ⟨fun w1 hw1 => ?_, ?_⟩; (focus (exact calls_below_same hw1 (angle_spec g0 (mirG g1) w1 a4 (by omega) hm.1 (by omega)); done)); (try simp only [Act.put, List.setIfInBounds_toArray, List.set_cons_zero, List.set_cons_succ])))
    refine wq_nil ?_
    intro w2 hb
    replace HB := Lib.hid (bseq HB.out hb)
    replace HAT := Lib.hid (HAT.out.below hb)
    replace HBT := Lib.hid (HBT.out.below hb)
    clear hb
    clear hp hq c1 d1 c2 d2 c3 d3 c4 d4 c5 d5
    have c1 : w2.cell? ⟨p, i + 1, none⟩ = some (.string f0) := HAT.out.at 1 rfl
    have d1 : w2.cell? ⟨q, o + 1, none⟩ = some (.string f1) := HBT.out.at 1 rfl
    have c2 : w2.cell? ⟨p, i + 2, none⟩ = some (.int .i64 u0) := HAT.out.at 2 rfl
    have d2 : w2.cell? ⟨q, o + 2, none⟩ = some (.int .i64 u1) := HBT.out.at 2 rfl
    have c3 : w2.cell? ⟨p, i + 3, none⟩ = some (.string s0) := HAT.out.at 3 rfl
    have d3 : w2.cell? ⟨q, o + 3, none⟩ = some (.string s1) := HBT.out.at 3 rfl
    have c4 : w2.cell? ⟨p, i + 4, none⟩ = some (.int .i64 x0) := HAT.out.at 4 rfl
    have d4 : w2.cell? ⟨q, o + 4, none⟩ = some (.int .i64 x1) := HBT.out.at 4 rfl
    have c5 : w2.cell? ⟨p, i + 5, none⟩ = some (.int .i64 g0) := HAT.out.at 5 rfl
    have d5 : w2.cell? ⟨q, o + 5, none⟩ = some (.int .i64 g1) := HBT.out.at 5 rfl
    have hp := HAT.out.1
    have hq := HBT.out.1
    go_wp2
    refine wp_region_below (by kernel_rfl) (by kernel_rfl) ?_
    repeat (first | (refine wq_val ?_ ?_; (focus (go_simp; done)); apply Exists.intro; refine ⟨fun w1 hw1 => ?_, ?_⟩; (obtain ⟨hc, hf⟩ := bcell hw1; clear hw1; go_simp; (first | done | with_reducible rfl | (with_reducible exact eql2 _ _ _) | (with_reducible exact neq2 _ _ _))); (try simp only [Act.put, List.setIfInBounds_toArray, List.set_cons_zero, List.set_cons_succ])) | (refine wq_skip ?_ ?_; (focus (go_simp; (first | done | (simp [undef]; done)))); (try simp only [Act.put, List.setIfInBounds_toArray, List.set_cons_zero, List.set_cons_succ])))
    refine wq_nil ?_
    intro w3 hb
    replace HB := Lib.hid (bseq HB.out hb)
    replace HAT := Lib.hid (HAT.out.below hb)
    replace HBT := Lib.hid (HBT.out.below hb)
    clear hb
    clear hp hq c1 d1 c2 d2 c3 d3 c4 d4 c5 d5
    have c1 : w3.cell? ⟨p, i + 1, none⟩ = some (.string f0) := HAT.out.at 1 rfl
    have d1 : w3.cell? ⟨q, o + 1, none⟩ = some (.string f1) := HBT.out.at 1 rfl
    have c2 : w3.cell? ⟨p, i + 2, none⟩ = some (.int .i64 u0) := HAT.out.at 2 rfl
    have d2 : w3.cell? ⟨q, o + 2, none⟩ = some (.int .i64 u1) := HBT.out.at 2 rfl
    have c3 : w3.cell? ⟨p, i + 3, none⟩ = some (.string s0) := HAT.out.at 3 rfl
    have d3 : w3.cell? ⟨q, o + 3, none⟩ = some (.string s1) := HBT.out.at 3 rfl
    have c4 : w3.cell? ⟨p, i + 4, none⟩ = some (.int .i64 x0) := HAT.out.at 4 rfl
    have d4 : w3.cell? ⟨q, o + 4, none⟩ = some (.int .i64 x1) := HBT.out.at 4 rfl
    have c5 : w3.cell? ⟨p, i + 5, none⟩ = some (.int .i64 g0) := HAT.out.at 5 rfl
    have d5 : w3.cell? ⟨q, o + 5, none⟩ = some (.int .i64 g1) := HBT.out.at 5 rfl
    have hp := HAT.out.1
    have hq := HBT.out.1
    go_wp2
    refine wp_region_below (by kernel_rfl) (by kernel_rfl) ?_
    repeat (first | (refine wq_val ?_ ?_; (focus (go_simp; done)); apply Exists.intro; refine ⟨fun w1 hw1 => ?_, ?_⟩; (obtain ⟨hc, hf⟩ := bcell hw1; clear hw1; go_simp; (first | done | with_reducible rfl | (with_reducible exact eql2 _ _ _) | (with_reducible exact neq2 _ _ _))); (try simp only [Act.put, List.setIfInBounds_toArray, List.set_cons_zero, List.set_cons_succ])) | (refine wq_skip ?_ ?_; (focus (go_simp; (first | done | (simp [undef]; done)))); (try simp only [Act.put, List.setIfInBounds_toArray, List.set_cons_zero, List.set_cons_succ])))
    refine wq_nil ?_
    intro w4 hb
    replace HB := Lib.hid (bseq HB.out hb)
    replace HAT := Lib.hid (HAT.out.below hb)
    replace HBT := Lib.hid (HBT.out.below hb)
    clear hb
    clear hp hq c1 d1 c2 d2 c3 d3 c4 d4 c5 d5
    have c1 : w4.cell? ⟨p, i + 1, none⟩ = some (.string f0) := HAT.out.at 1 rfl
    have d1 : w4.cell? ⟨q, o + 1, none⟩ = some (.string f1) := HBT.out.at 1 rfl
    have c2 : w4.cell? ⟨p, i + 2, none⟩ = some (.int .i64 u0) := HAT.out.at 2 rfl
    have d2 : w4.cell? ⟨q, o + 2, none⟩ = some (.int .i64 u1) := HBT.out.at 2 rfl
    have c3 : w4.cell? ⟨p, i + 3, none⟩ = some (.string s0) := HAT.out.at 3 rfl
    have d3 : w4.cell? ⟨q, o + 3, none⟩ = some (.string s1) := HBT.out.at 3 rfl
    have c4 : w4.cell? ⟨p, i + 4, none⟩ = some (.int .i64 x0) := HAT.out.at 4 rfl
    have d4 : w4.cell? ⟨q, o + 4, none⟩ = some (.int .i64 x1) := HBT.out.at 4 rfl
    have c5 : w4.cell? ⟨p, i + 5, none⟩ = some (.int .i64 g0) := HAT.out.at 5 rfl
    have d5 : w4.cell? ⟨q, o + 5, none⟩ = some (.int .i64 g1) := HBT.out.at 5 rfl
    have hp := HAT.out.1
    have hq := HBT.out.1
    go_wp2
    go_ret
    exact ⟨rfl, HB.out⟩
  · have hg := ang_180 a4 (by omega : g0 ≤ 180) b4 (by omega : g1 ≤ 180)
    have e4 : IntKind.i64.wrap (3 * awy x0 x1 + angI g0 g1) = 3 * awy x0 x1 + angI g0 g1 := IntWalk.i64_in _ (by omega)
    have e10 : IntKind.i64.wrap (3 * awy x0 x1 + angI g0 g1 + lesI 20 (awy u0 u1)) = 3 * awy x0 x1 + angI g0 g1 + lesI 20 (awy u0 u1) := IntWalk.i64_in _ (by omega)
    have e11 : IntKind.i64.wrap (3 * awy x0 x1 + angI g0 g1 + lesI 20 (awy u0 u1) + 500) = 3 * awy x0 x1 + angI g0 g1 + lesI 20 (awy u0 u1) + 500 := IntWalk.i64_in _ (by omega)
    have HR := Lib.hid (show scI ⟨id0, f0, u0, (s0, x0, g0), W0, L0, D0⟩ ⟨id1, f1, u1, (s1, x1, g1), W1, L1, D1⟩ false = 3 * awy x0 x1 + angI g0 g1 + lesI 20 (awy u0 u1) + 500 by
      unfold scI scN scS scG; simp only [hf, hs, if_true, if_false, Bool.false_eq_true, Int.add_zero])
    have hs2 : (s0.toList != s1.toList) = true := by rw [bne, hs]; rfl
    have c1 : w.cell? ⟨p, i + 1, none⟩ = some (.string f0) := HAT.out.at 1 rfl
    have d1 : w.cell? ⟨q, o + 1, none⟩ = some (.string f1) := HBT.out.at 1 rfl
    have c2 : w.cell? ⟨p, i + 2, none⟩ = some (.int .i64 u0) := HAT.out.at 2 rfl
    have d2 : w.cell? ⟨q, o + 2, none⟩ = some (.int .i64 u1) := HBT.out.at 2 rfl
    have c3 : w.cell? ⟨p, i + 3, none⟩ = some (.string s0) := HAT.out.at 3 rfl
    have d3 : w.cell? ⟨q, o + 3, none⟩ = some (.string s1) := HBT.out.at 3 rfl
    have c4 : w.cell? ⟨p, i + 4, none⟩ = some (.int .i64 x0) := HAT.out.at 4 rfl
    have d4 : w.cell? ⟨q, o + 4, none⟩ = some (.int .i64 x1) := HBT.out.at 4 rfl
    have c5 : w.cell? ⟨p, i + 5, none⟩ = some (.int .i64 g0) := HAT.out.at 5 rfl
    have d5 : w.cell? ⟨q, o + 5, none⟩ = some (.int .i64 g1) := HBT.out.at 5 rfl
    have hp := HAT.out.1
    have hq := HBT.out.1
    rw [HR.out]
    go_enter Tryd.func64, Tryd.ntmps64
    go_wp2
    refine wp_region_below (by kernel_rfl) (by kernel_rfl) ?_
    repeat (first | (refine wq_val ?_ ?_; (focus (go_simp; done)); apply Exists.intro; refine ⟨fun w1 hw1 => ?_, ?_⟩; (obtain ⟨hc, hf⟩ := bcell hw1; clear hw1; go_simp; (first | done | with_reducible rfl | (with_reducible exact eql2 _ _ _) | (with_reducible exact neq2 _ _ _))); (try simp only [Act.put, List.setIfInBounds_toArray, List.set_cons_zero, List.set_cons_succ])) | (refine wq_skip ?_ ?_; (focus (go_simp; (first | done | (simp [undef]; done)))); (try simp only [Act.put, List.setIfInBounds_toArray, List.set_cons_zero, List.set_cons_succ])))
    refine wq_nil ?_
    intro w1 hb
    have HB := Lib.hid hb
    replace HAT := Lib.hid (HAT.out.below hb)
    replace HBT := Lib.hid (HBT.out.below hb)
    clear hb
    clear hp hq c1 d1 c2 d2 c3 d3 c4 d4 c5 d5
    have c1 : w1.cell? ⟨p, i + 1, none⟩ = some (.string f0) := HAT.out.at 1 rfl
    have d1 : w1.cell? ⟨q, o + 1, none⟩ = some (.string f1) := HBT.out.at 1 rfl
    have c2 : w1.cell? ⟨p, i + 2, none⟩ = some (.int .i64 u0) := HAT.out.at 2 rfl
    have d2 : w1.cell? ⟨q, o + 2, none⟩ = some (.int .i64 u1) := HBT.out.at 2 rfl
    have c3 : w1.cell? ⟨p, i + 3, none⟩ = some (.string s0) := HAT.out.at 3 rfl
    have d3 : w1.cell? ⟨q, o + 3, none⟩ = some (.string s1) := HBT.out.at 3 rfl
    have c4 : w1.cell? ⟨p, i + 4, none⟩ = some (.int .i64 x0) := HAT.out.at 4 rfl
    have d4 : w1.cell? ⟨q, o + 4, none⟩ = some (.int .i64 x1) := HBT.out.at 4 rfl
    have c5 : w1.cell? ⟨p, i + 5, none⟩ = some (.int .i64 g0) := HAT.out.at 5 rfl
    have d5 : w1.cell? ⟨q, o + 5, none⟩ = some (.int .i64 g1) := HBT.out.at 5 rfl
    have hp := HAT.out.1
    have hq := HBT.out.1
    go_wp2
    refine wp_region_below (by kernel_rfl) (by kernel_rfl) ?_
    repeat (first | (refine wq_val ?_ ?_; (focus (go_simp; done)); apply Exists.intro; refine ⟨fun w1 hw1 => ?_, ?_⟩; (obtain ⟨hc, hf⟩ := bcell hw1; clear hw1; go_simp; (first | done | with_reducible rfl | (with_reducible exact eql2 _ _ _) | (with_reducible exact neq2 _ _ _))); (try simp only [Act.put, List.setIfInBounds_toArray, List.set_cons_zero, List.set_cons_succ])) | (refine wq_skip ?_ ?_; (focus (go_simp; (first | done | (simp [undef]; done)))); (try simp only [Act.put, List.setIfInBounds_toArray, List.set_cons_zero, List.set_cons_succ])) | (refine wq_call 49 ?_ ?_; (focus (go_simp; done)); apply Exists.intro; refine ⟨fun w1 hw1 => ?_, ?_⟩; (focus (clear hw1; go_simp; (first | done | with_reducible rfl))); apply Exists.intro; refine ⟨fun w1 hw1 => ?_, ?_⟩; (focus (exact calls_below_same hw1 (by have h := max_ven (x0 - x1) (-(x0 - x1)) w1; rw [HMX.out] at h; exact h); done)); (try simp only [Act.put, List.setIfInBounds_toArray, List.set_cons_zero, List.set_cons_succ])) | (refine wq_call 97 ?_ ?_; (focus (go_simp; done)); apply Exists.intro; refine ⟨fun w1 hw1 => ?_, ?_⟩; (focus (clear hw1; go_simp; (first | done | with_reducible rfl))); apply Exists.intro; refine ⟨fun w1 hw1 => ?_, ?_⟩; (focus (exact calls_below_same hw1 (angle_spec g0 g1 w1 a4 (by omega) b4 (by omega)); done)); (try simp only [Act.put, List.setIfInBounds_toArray, List.set_cons_zero, List.set_cons_succ])))
    refine wq_nil ?_
    intro w2 hb
    replace HB := Lib.hid (bseq HB.out hb)
    replace HAT := Lib.hid (HAT.out.below hb)
    replace HBT := Lib.hid (HBT.out.below hb)
    clear hb
    clear hp hq c1 d1 c2 d2 c3 d3 c4 d4 c5 d5
    have c1 : w2.cell? ⟨p, i + 1, none⟩ = some (.string f0) := HAT.out.at 1 rfl
    have d1 : w2.cell? ⟨q, o + 1, none⟩ = some (.string f1) := HBT.out.at 1 rfl
    have c2 : w2.cell? ⟨p, i + 2, none⟩ = some (.int .i64 u0) := HAT.out.at 2 rfl
    have d2 : w2.cell? ⟨q, o + 2, none⟩ = some (.int .i64 u1) := HBT.out.at 2 rfl
    have c3 : w2.cell? ⟨p, i + 3, none⟩ = some (.string s0) := HAT.out.at 3 rfl
    have d3 : w2.cell? ⟨q, o + 3, none⟩ = some (.string s1) := HBT.out.at 3 rfl
    have c4 : w2.cell? ⟨p, i + 4, none⟩ = some (.int .i64 x0) := HAT.out.at 4 rfl
    have d4 : w2.cell? ⟨q, o + 4, none⟩ = some (.int .i64 x1) := HBT.out.at 4 rfl
    have c5 : w2.cell? ⟨p, i + 5, none⟩ = some (.int .i64 g0) := HAT.out.at 5 rfl
    have d5 : w2.cell? ⟨q, o + 5, none⟩ = some (.int .i64 g1) := HBT.out.at 5 rfl
    have hp := HAT.out.1
    have hq := HBT.out.1
    go_wp2
    refine wp_region_below (by kernel_rfl) (by kernel_rfl) ?_
    repeat (first | (refine wq_val ?_ ?_; (focus (go_simp; done)); apply Exists.intro; refine ⟨fun w1 hw1 => ?_, ?_⟩; (obtain ⟨hc, hf⟩ := bcell hw1; clear hw1; go_simp; (first | done | with_reducible rfl | (with_reducible exact eql2 _ _ _) | (with_reducible exact neq2 _ _ _))); (try simp only [Act.put, List.setIfInBounds_toArray, List.set_cons_zero, List.set_cons_succ])) | (refine wq_skip ?_ ?_; (focus (go_simp; (first | done | (simp [undef]; done)))); (try simp only [Act.put, List.setIfInBounds_toArray, List.set_cons_zero, List.set_cons_succ])))
    refine wq_nil ?_
    intro w3 hb
    replace HB := Lib.hid (bseq HB.out hb)
    replace HAT := Lib.hid (HAT.out.below hb)
    replace HBT := Lib.hid (HBT.out.below hb)
    clear hb
    clear hp hq c1 d1 c2 d2 c3 d3 c4 d4 c5 d5
    have c1 : w3.cell? ⟨p, i + 1, none⟩ = some (.string f0) := HAT.out.at 1 rfl
    have d1 : w3.cell? ⟨q, o + 1, none⟩ = some (.string f1) := HBT.out.at 1 rfl
    have c2 : w3.cell? ⟨p, i + 2, none⟩ = some (.int .i64 u0) := HAT.out.at 2 rfl
    have d2 : w3.cell? ⟨q, o + 2, none⟩ = some (.int .i64 u1) := HBT.out.at 2 rfl
    have c3 : w3.cell? ⟨p, i + 3, none⟩ = some (.string s0) := HAT.out.at 3 rfl
    have d3 : w3.cell? ⟨q, o + 3, none⟩ = some (.string s1) := HBT.out.at 3 rfl
    have c4 : w3.cell? ⟨p, i + 4, none⟩ = some (.int .i64 x0) := HAT.out.at 4 rfl
    have d4 : w3.cell? ⟨q, o + 4, none⟩ = some (.int .i64 x1) := HBT.out.at 4 rfl
    have c5 : w3.cell? ⟨p, i + 5, none⟩ = some (.int .i64 g0) := HAT.out.at 5 rfl
    have d5 : w3.cell? ⟨q, o + 5, none⟩ = some (.int .i64 g1) := HBT.out.at 5 rfl
    have hp := HAT.out.1
    have hq := HBT.out.1
    go_wp2
    refine wp_region_below (by kernel_rfl) (by kernel_rfl) ?_
    repeat (first | (refine wq_val ?_ ?_; (focus (go_simp; done)); apply Exists.intro; refine ⟨fun w1 hw1 => ?_, ?_⟩; (obtain ⟨hc, hf⟩ := bcell hw1; clear hw1; go_simp; (first | done | with_reducible rfl | (with_reducible exact eql2 _ _ _) | (with_reducible exact neq2 _ _ _))); (try simp only [Act.put, List.setIfInBounds_toArray, List.set_cons_zero, List.set_cons_succ])) | (refine wq_skip ?_ ?_; (focus (go_simp; (first | done | (simp [undef]; done)))); (try simp only [Act.put, List.setIfInBounds_toArray, List.set_cons_zero, List.set_cons_succ])) | (refine wq_call 49 ?_ ?_; (focus (go_simp; done)); apply Exists.intro; refine ⟨fun w1 hw1 => ?_, ?_⟩; (focus (clear hw1; go_simp; (first | done | with_reducible rfl))); apply Exists.intro; refine ⟨fun w1 hw1 => ?_, ?_⟩; (focus (exact calls_below_same hw1 (by have h := max_ven (u0 - u1) (u1 - u0) w1; rw [← HMN.out] at h; exact h); done)); (try simp only [Act.put, List.setIfInBounds_toArray, List.set_cons_zero, List.set_cons_succ])) | (refine wq_call 50 ?_ ?_; (focus (go_simp; done)); apply Exists.intro; refine ⟨fun w1 hw1 => ?_, ?_⟩; (focus (clear hw1; go_simp; (first | done | with_reducible rfl))); apply Exists.intro; refine ⟨fun w1 hw1 => ?_, ?_⟩; (focus (exact calls_below_same hw1 (min_ven 20 (awy u0 u1) w1); done)); (try simp only [Act.put, List.setIfInBounds_toArray, List.set_cons_zero, List.set_cons_succ])))
    refine wq_nil ?_
    intro w4 hb
    replace HB := Lib.hid (bseq HB.out hb)
    replace HAT := Lib.hid (HAT.out.below hb)
    replace HBT := Lib.hid (HBT.out.below hb)
    clear hb
    clear hp hq c1 d1 c2 d2 c3 d3 c4 d4 c5 d5
    have c1 : w4.cell? ⟨p, i + 1, none⟩ = some (.string f0) := HAT.out.at 1 rfl
    have d1 : w4.cell? ⟨q, o + 1, none⟩ = some (.string f1) := HBT.out.at 1 rfl
    have c2 : w4.cell? ⟨p, i + 2, none⟩ = some (.int .i64 u0) := HAT.out.at 2 rfl
    have d2 : w4.cell? ⟨q, o + 2, none⟩ = some (.int .i64 u1) := HBT.out.at 2 rfl
    have c3 : w4.cell? ⟨p, i + 3, none⟩ = some (.string s0) := HAT.out.at 3 rfl
    have d3 : w4.cell? ⟨q, o + 3, none⟩ = some (.string s1) := HBT.out.at 3 rfl
    have c4 : w4.cell? ⟨p, i + 4, none⟩ = some (.int .i64 x0) := HAT.out.at 4 rfl
    have d4 : w4.cell? ⟨q, o + 4, none⟩ = some (.int .i64 x1) := HBT.out.at 4 rfl
    have c5 : w4.cell? ⟨p, i + 5, none⟩ = some (.int .i64 g0) := HAT.out.at 5 rfl
    have d5 : w4.cell? ⟨q, o + 5, none⟩ = some (.int .i64 g1) := HBT.out.at 5 rfl
    have hp := HAT.out.1
    have hq := HBT.out.1
    go_wp2
    refine wp_region_below (by kernel_rfl) (by kernel_rfl) ?_
    repeat (first | (refine wq_val ?_ ?_; (focus (go_simp; done)); apply Exists.intro; refine ⟨fun w1 hw1 => ?_, ?_⟩; (obtain ⟨hc, hf⟩ := bcell hw1; clear hw1; go_simp; (first | done | with_reducible rfl | (with_reducible exact eql2 _ _ _) | (with_reducible exact neq2 _ _ _))); (try simp only [Act.put, List.setIfInBounds_toArray, List.set_cons_zero, List.set_cons_succ])) | (refine wq_skip ?_ ?_; (focus (go_simp; (first | done | (simp [undef]; done)))); (try simp only [Act.put, List.setIfInBounds_toArray, List.set_cons_zero, List.set_cons_succ])))
    refine wq_nil ?_
    intro w5 hb
    replace HB := Lib.hid (bseq HB.out hb)
    replace HAT := Lib.hid (HAT.out.below hb)
    replace HBT := Lib.hid (HBT.out.below hb)
    clear hb
    clear hp hq c1 d1 c2 d2 c3 d3 c4 d4 c5 d5
    have c1 : w5.cell? ⟨p, i + 1, none⟩ = some (.string f0) := HAT.out.at 1 rfl
    have d1 : w5.cell? ⟨q, o + 1, none⟩ = some (.string f1) := HBT.out.at 1 rfl
    have c2 : w5.cell? ⟨p, i + 2, none⟩ = some (.int .i64 u0) := HAT.out.at 2 rfl
    have d2 : w5.cell? ⟨q, o + 2, none⟩ = some (.int .i64 u1) := HBT.out.at 2 rfl
    have c3 : w5.cell? ⟨p, i + 3, none⟩ = some (.string s0) := HAT.out.at 3 rfl
    have d3 : w5.cell? ⟨q, o + 3, none⟩ = some (.string s1) := HBT.out.at 3 rfl
    have c4 : w5.cell? ⟨p, i + 4, none⟩ = some (.int .i64 x0) := HAT.out.at 4 rfl
    have d4 : w5.cell? ⟨q, o + 4, none⟩ = some (.int .i64 x1) := HBT.out.at 4 rfl
    have c5 : w5.cell? ⟨p, i + 5, none⟩ = some (.int .i64 g0) := HAT.out.at 5 rfl
    have d5 : w5.cell? ⟨q, o + 5, none⟩ = some (.int .i64 g1) := HBT.out.at 5 rfl
    have hp := HAT.out.1
    have hq := HBT.out.1
    go_wp2
    go_ret
    exact ⟨rfl, HB.out⟩
  · have hg := ang_180 a4 (by omega : g0 ≤ 180) hm.1 (by omega : (mirG g1) ≤ 180)
    have e4 : IntKind.i64.wrap (3 * awy x0 x1 + angI g0 (mirG g1)) = 3 * awy x0 x1 + angI g0 (mirG g1) := IntWalk.i64_in _ (by omega)
    have e10 : IntKind.i64.wrap (3 * awy x0 x1 + angI g0 (mirG g1) + lesI 20 (awy u0 u1)) = 3 * awy x0 x1 + angI g0 (mirG g1) + lesI 20 (awy u0 u1) := IntWalk.i64_in _ (by omega)
    have e11 : IntKind.i64.wrap (3 * awy x0 x1 + angI g0 (mirG g1) + lesI 20 (awy u0 u1) + 500) = 3 * awy x0 x1 + angI g0 (mirG g1) + lesI 20 (awy u0 u1) + 500 := IntWalk.i64_in _ (by omega)
    have HR := Lib.hid (show scI ⟨id0, f0, u0, (s0, x0, g0), W0, L0, D0⟩ ⟨id1, f1, u1, (s1, x1, g1), W1, L1, D1⟩ true = 3 * awy x0 x1 + angI g0 (mirG g1) + lesI 20 (awy u0 u1) + 500 by
      unfold scI scN scS scG; simp only [hf, hs, if_true, if_false, Bool.false_eq_true, Int.add_zero])
    have hs2 : (s0.toList != s1.toList) = true := by rw [bne, hs]; rfl
    have c1 : w.cell? ⟨p, i + 1, none⟩ = some (.string f0) := HAT.out.at 1 rfl
    have d1 : w.cell? ⟨q, o + 1, none⟩ = some (.string f1) := HBT.out.at 1 rfl
    have c2 : w.cell? ⟨p, i + 2, none⟩ = some (.int .i64 u0) := HAT.out.at 2 rfl
    have d2 : w.cell? ⟨q, o + 2, none⟩ = some (.int .i64 u1) := HBT.out.at 2 rfl
    have c3 : w.cell? ⟨p, i + 3, none⟩ = some (.string s0) := HAT.out.at 3 rfl
    have d3 : w.cell? ⟨q, o + 3, none⟩ = some (.string s1) := HBT.out.at 3 rfl
    have c4 : w.cell? ⟨p, i + 4, none⟩ = some (.int .i64 x0) := HAT.out.at 4 rfl
    have d4 : w.cell? ⟨q, o + 4, none⟩ = some (.int .i64 x1) := HBT.out.at 4 rfl
    have c5 : w.cell? ⟨p, i + 5, none⟩ = some (.int .i64 g0) := HAT.out.at 5 rfl
    have d5 : w.cell? ⟨q, o + 5, none⟩ = some (.int .i64 g1) := HBT.out.at 5 rfl
    have hp := HAT.out.1
    have hq := HBT.out.1
    rw [HR.out]
    go_enter Tryd.func64, Tryd.ntmps64
    go_wp2
    refine wp_region_below (by kernel_rfl) (by kernel_rfl) ?_
    repeat (first | (refine wq_val ?_ ?_; (focus (go_simp; done)); apply Exists.intro; refine ⟨fun w1 hw1 => ?_, ?_⟩; (obtain ⟨hc, hf⟩ := bcell hw1; clear hw1; go_simp; (first | done | with_reducible rfl | (with_reducible exact eql2 _ _ _) | (with_reducible exact neq2 _ _ _))); (try simp only [Act.put, List.setIfInBounds_toArray, List.set_cons_zero, List.set_cons_succ])) | (refine wq_skip ?_ ?_; (focus (go_simp; (first | done | (simp [undef]; done)))); (try simp only [Act.put, List.setIfInBounds_toArray, List.set_cons_zero, List.set_cons_succ])))
    refine wq_nil ?_
    intro w1 hb
    have HB := Lib.hid hb
    replace HAT := Lib.hid (HAT.out.below hb)
    replace HBT := Lib.hid (HBT.out.below hb)
    clear hb
    clear hp hq c1 d1 c2 d2 c3 d3 c4 d4 c5 d5
    have c1 : w1.cell? ⟨p, i + 1, none⟩ = some (.string f0) := HAT.out.at 1 rfl
    have d1 : w1.cell? ⟨q, o + 1, none⟩ = some (.string f1) := HBT.out.at 1 rfl
    have c2 : w1.cell? ⟨p, i + 2, none⟩ = some (.int .i64 u0) := HAT.out.at 2 rfl
    have d2 : w1.cell? ⟨q, o + 2, none⟩ = some (.int .i64 u1) := HBT.out.at 2 rfl
    have c3 : w1.cell? ⟨p, i + 3, none⟩ = some (.string s0) := HAT.out.at 3 rfl
    have d3 : w1.cell? ⟨q, o + 3, none⟩ = some (.string s1) := HBT.out.at 3 rfl
    have c4 : w1.cell? ⟨p, i + 4, none⟩ = some (.int .i64 x0) := HAT.out.at 4 rfl
    have d4 : w1.cell? ⟨q, o + 4, none⟩ = some (.int .i64 x1) := HBT.out.at 4 rfl
    have c5 : w1.cell? ⟨p, i + 5, none⟩ = some (.int .i64 g0) := HAT.out.at 5 rfl
    have d5 : w1.cell? ⟨q, o + 5, none⟩ = some (.int .i64 g1) := HBT.out.at 5 rfl
    have hp := HAT.out.1
    have hq := HBT.out.1
    go_wp2
    refine wp_region_below (by kernel_rfl) (by kernel_rfl) ?_
    repeat (first | (refine wq_val ?_ ?_; (focus (go_simp; done)); apply Exists.intro; refine ⟨fun w1 hw1 => ?_, ?_⟩; (obtain ⟨hc, hf⟩ := bcell hw1; clear hw1; go_simp; (first | done | with_reducible rfl | (with_reducible exact eql2 _ _ _) | (with_reducible exact neq2 _ _ _))); (try simp only [Act.put, List.setIfInBounds_toArray, List.set_cons_zero, List.set_cons_succ])) | (refine wq_skip ?_ ?_; (focus (go_simp; (first | done | (simp [undef]; done)))); (try simp only [Act.put, List.setIfInBounds_toArray, List.set_cons_zero, List.set_cons_succ])) | (refine wq_call 49 ?_ ?_; (focus (go_simp; done)); apply Exists.intro; refine ⟨fun w1 hw1 => ?_, ?_⟩; (focus (clear hw1; go_simp; (first | done | with_reducible rfl))); apply Exists.intro; refine ⟨fun w1 hw1 => ?_, ?_⟩; (focus (exact calls_below_same hw1 (by have h := max_ven (x0 - x1) (-(x0 - x1)) w1; rw [HMX.out] at h; exact h); done)); (try simp only [Act.put, List.setIfInBounds_toArray, List.set_cons_zero, List.set_cons_succ])) | (refine wq_call 97 ?_ ?_; (focus (go_simp; done)); apply Exists.intro; refine ⟨fun w1 hw1 => ?_, ?_⟩; (focus (clear hw1; go_simp; (first | done | with_reducible rfl))); apply Exists.intro; refine ⟨fun w1 hw1 => ?_, ?_⟩; (focus (exact calls_below_same hw1 (angle_spec g0 (mirG g1) w1 a4 (by omega) hm.1 (by omega)); done)); (try simp only [Act.put, List.setIfInBounds_toArray, List.set_cons_zero, List.set_cons_succ])))
    refine wq_nil ?_
    intro w2 hb
    replace HB := Lib.hid (bseq HB.out hb)
    replace HAT := Lib.hid (HAT.out.below hb)
    replace HBT := Lib.hid (HBT.out.below hb)
    clear hb
    clear hp hq c1 d1 c2 d2 c3 d3 c4 d4 c5 d5
    have c1 : w2.cell? ⟨p, i + 1, none⟩ = some (.string f0) := HAT.out.at 1 rfl
    have d1 : w2.cell? ⟨q, o + 1, none⟩ = some (.string f1) := HBT.out.at 1 rfl
    have c2 : w2.cell? ⟨p, i + 2, none⟩ = some (.int .i64 u0) := HAT.out.at 2 rfl
    have d2 : w2.cell? ⟨q, o + 2, none⟩ = some (.int .i64 u1) := HBT.out.at 2 rfl
    have c3 : w2.cell? ⟨p, i + 3, none⟩ = some (.string s0) := HAT.out.at 3 rfl
    have d3 : w2.cell? ⟨q, o + 3, none⟩ = some (.string s1) := HBT.out.at 3 rfl
    have c4 : w2.cell? ⟨p, i + 4, none⟩ = some (.int .i64 x0) := HAT.out.at 4 rfl
    have d4 : w2.cell? ⟨q, o + 4, none⟩ = some (.int .i64 x1) := HBT.out.at 4 rfl
    have c5 : w2.cell? ⟨p, i + 5, none⟩ = some (.int .i64 g0) := HAT.out.at 5 rfl
    have d5 : w2.cell? ⟨q, o + 5, none⟩ = some (.int .i64 g1) := HBT.out.at 5 rfl
    have hp := HAT.out.1
    have hq := HBT.out.1
    go_wp2
    refine wp_region_below (by kernel_rfl) (by kernel_rfl) ?_
    repeat (first | (refine wq_val ?_ ?_; (focus (go_simp; done)); apply Exists.intro; refine ⟨fun w1 hw1 => ?_, ?_⟩; (obtain ⟨hc, hf⟩ := bcell hw1; clear hw1; go_simp; (first | done | with_reducible rfl | (with_reducible exact eql2 _ _ _) | (with_reducible exact neq2 _ _ _))); (try simp only [Act.put, List.setIfInBounds_toArray, List.set_cons_zero, List.set_cons_succ])) | (refine wq_skip ?_ ?_; (focus (go_simp; (first | done | (simp [undef]; done)))); (try simp only [Act.put, List.setIfInBounds_toArray, List.set_cons_zero, List.set_cons_succ])))
    refine wq_nil ?_
    intro w3 hb
    replace HB := Lib.hid (bseq HB.out hb)
    replace HAT := Lib.hid (HAT.out.below hb)
    replace HBT := Lib.hid (HBT.out.below hb)
    clear hb
    clear hp hq c1 d1 c2 d2 c3 d3 c4 d4 c5 d5
    have c1 : w3.cell? ⟨p, i + 1, none⟩ = some (.string f0) := HAT.out.at 1 rfl
    have d1 : w3.cell? ⟨q, o + 1, none⟩ = some (.string f1) := HBT.out.at 1 rfl
    have c2 : w3.cell? ⟨p, i + 2, none⟩ = some (.int .i64 u0) := HAT.out.at 2 rfl
    have d2 : w3.cell? ⟨q, o + 2, none⟩ = some (.int .i64 u1) := HBT.out.at 2 rfl
    have c3 : w3.cell? ⟨p, i + 3, none⟩ = some (.string s0) := HAT.out.at 3 rfl
    have d3 : w3.cell? ⟨q, o + 3, none⟩ = some (.string s1) := HBT.out.at 3 rfl
    have c4 : w3.cell? ⟨p, i + 4, none⟩ = some (.int .i64 x0) := HAT.out.at 4 rfl
    have d4 : w3.cell? ⟨q, o + 4, none⟩ = some (.int .i64 x1) := HBT.out.at 4 rfl
    have c5 : w3.cell? ⟨p, i + 5, none⟩ = some (.int .i64 g0) := HAT.out.at 5 rfl
    have d5 : w3.cell? ⟨q, o + 5, none⟩ = some (.int .i64 g1) := HBT.out.at 5 rfl
    have hp := HAT.out.1
    have hq := HBT.out.1
    go_wp2
    refine wp_region_below (by kernel_rfl) (by kernel_rfl) ?_
    repeat (first | (refine wq_val ?_ ?_; (focus (go_simp; done)); apply Exists.intro; refine ⟨fun w1 hw1 => ?_, ?_⟩; (obtain ⟨hc, hf⟩ := bcell hw1; clear hw1; go_simp; (first | done | with_reducible rfl | (with_reducible exact eql2 _ _ _) | (with_reducible exact neq2 _ _ _))); (try simp only [Act.put, List.setIfInBounds_toArray, List.set_cons_zero, List.set_cons_succ])) | (refine wq_skip ?_ ?_; (focus (go_simp; (first | done | (simp [undef]; done)))); (try simp only [Act.put, List.setIfInBounds_toArray, List.set_cons_zero, List.set_cons_succ])) | (refine wq_call 49 ?_ ?_; (focus (go_simp; done)); apply Exists.intro; refine ⟨fun w1 hw1 => ?_, ?_⟩; (focus (clear hw1; go_simp; (first | done | with_reducible rfl))); apply Exists.intro; refine ⟨fun w1 hw1 => ?_, ?_⟩; (focus (exact calls_below_same hw1 (by have h := max_ven (u0 - u1) (u1 - u0) w1; rw [← HMN.out] at h; exact h); done)); (try simp only [Act.put, List.setIfInBounds_toArray, List.set_cons_zero, List.set_cons_succ])) | (refine wq_call 50 ?_ ?_; (focus (go_simp; done)); apply Exists.intro; refine ⟨fun w1 hw1 => ?_, ?_⟩; (focus (clear hw1; go_simp; (first | done | with_reducible rfl))); apply Exists.intro; refine ⟨fun w1 hw1 => ?_, ?_⟩; (focus (exact calls_below_same hw1 (min_ven 20 (awy u0 u1) w1); done)); (try simp only [Act.put, List.setIfInBounds_toArray, List.set_cons_zero, List.set_cons_succ])))
    refine wq_nil ?_
    intro w4 hb
    replace HB := Lib.hid (bseq HB.out hb)
    replace HAT := Lib.hid (HAT.out.below hb)
    replace HBT := Lib.hid (HBT.out.below hb)
    clear hb
    clear hp hq c1 d1 c2 d2 c3 d3 c4 d4 c5 d5
    have c1 : w4.cell? ⟨p, i + 1, none⟩ = some (.string f0) := HAT.out.at 1 rfl
    have d1 : w4.cell? ⟨q, o + 1, none⟩ = some (.string f1) := HBT.out.at 1 rfl
    have c2 : w4.cell? ⟨p, i + 2, none⟩ = some (.int .i64 u0) := HAT.out.at 2 rfl
    have d2 : w4.cell? ⟨q, o + 2, none⟩ = some (.int .i64 u1) := HBT.out.at 2 rfl
    have c3 : w4.cell? ⟨p, i + 3, none⟩ = some (.string s0) := HAT.out.at 3 rfl
    have d3 : w4.cell? ⟨q, o + 3, none⟩ = some (.string s1) := HBT.out.at 3 rfl
    have c4 : w4.cell? ⟨p, i + 4, none⟩ = some (.int .i64 x0) := HAT.out.at 4 rfl
    have d4 : w4.cell? ⟨q, o + 4, none⟩ = some (.int .i64 x1) := HBT.out.at 4 rfl
    have c5 : w4.cell? ⟨p, i + 5, none⟩ = some (.int .i64 g0) := HAT.out.at 5 rfl
    have d5 : w4.cell? ⟨q, o + 5, none⟩ = some (.int .i64 g1) := HBT.out.at 5 rfl
    have hp := HAT.out.1
    have hq := HBT.out.1
    go_wp2
    refine wp_region_below (by kernel_rfl) (by kernel_rfl) ?_
    repeat (first | (refine wq_val ?_ ?_; (focus (go_simp; done)); apply Exists.intro; refine ⟨fun w1 hw1 => ?_, ?_⟩; (obtain ⟨hc, hf⟩ := bcell hw1; clear hw1; go_simp; (first | done | with_reducible rfl | (with_reducible exact eql2 _ _ _) | (with_reducible exact neq2 _ _ _))); (try simp only [Act.put, List.setIfInBounds_toArray, List.set_cons_zero, List.set_cons_succ])) | (refine wq_skip ?_ ?_; (focus (go_simp; (first | done | (simp [undef]; done)))); (try simp only [Act.put, List.setIfInBounds_toArray, List.set_cons_zero, List.set_cons_succ])))
    refine wq_nil ?_
    intro w5 hb
    replace HB := Lib.hid (bseq HB.out hb)
    replace HAT := Lib.hid (HAT.out.below hb)
    replace HBT := Lib.hid (HBT.out.below hb)
    clear hb
    clear hp hq c1 d1 c2 d2 c3 d3 c4 d4 c5 d5
    have c1 : w5.cell? ⟨p, i + 1, none⟩ = some (.string f0) := HAT.out.at 1 rfl
    have d1 : w5.cell? ⟨q, o + 1, none⟩ = some (.string f1) := HBT.out.at 1 rfl
    have c2 : w5.cell? ⟨p, i + 2, none⟩ = some (.int .i64 u0) := HAT.out.at 2 rfl
    have d2 : w5.cell? ⟨q, o + 2, none⟩ = some (.int .i64 u1) := HBT.out.at 2 rfl
    have c3 : w5.cell? ⟨p, i + 3, none⟩ = some (.string s0) := HAT.out.at 3 rfl
    have d3 : w5.cell? ⟨q, o + 3, none⟩ = some (.string s1) := HBT.out.at 3 rfl
    have c4 : w5.cell? ⟨p, i + 4, none⟩ = some (.int .i64 x0) := HAT.out.at 4 rfl
    have d4 : w5.cell? ⟨q, o + 4, none⟩ = some (.int .i64 x1) := HBT.out.at 4 rfl
    have c5 : w5.cell? ⟨p, i + 5, none⟩ = some (.int .i64 g0) := HAT.out.at 5 rfl
    have d5 : w5.cell? ⟨q, o + 5, none⟩ = some (.int .i64 g1) := HBT.out.at 5 rfl
    have hp := HAT.out.1
    have hq := HBT.out.1
    go_wp2
    go_ret
    exact ⟨rfl, HB.out⟩
  · have hg := ang_180 a4 (by omega : g0 ≤ 180) b4 (by omega : g1 ≤ 180)
    have e4 : IntKind.i64.wrap (3 * awy x0 x1 + angI g0 g1) = 3 * awy x0 x1 + angI g0 g1 := IntWalk.i64_in _ (by omega)
    have e10 : IntKind.i64.wrap (3 * awy x0 x1 + angI g0 g1 + lesI 20 (awy u0 u1)) = 3 * awy x0 x1 + angI g0 g1 + lesI 20 (awy u0 u1) := IntWalk.i64_in _ (by omega)
    have HR := Lib.hid (show scI ⟨id0, f0, u0, (s0, x0, g0), W0, L0, D0⟩ ⟨id1, f1, u1, (s1, x1, g1), W1, L1, D1⟩ false = 3 * awy x0 x1 + angI g0 g1 + lesI 20 (awy u0 u1) by
      unfold scI scN scS scG; simp only [hf, hs, if_true, if_false, Bool.false_eq_true, Int.add_zero])
    have hs2 : (s0.toList != s1.toList) = false := by rw [bne, hs]; rfl
    have c1 : w.cell? ⟨p, i + 1, none⟩ = some (.string f0) := HAT.out.at 1 rfl
    have d1 : w.cell? ⟨q, o + 1, none⟩ = some (.string f1) := HBT.out.at 1 rfl
    have c2 : w.cell? ⟨p, i + 2, none⟩ = some (.int .i64 u0) := HAT.out.at 2 rfl
    have d2 : w.cell? ⟨q, o + 2, none⟩ = some (.int .i64 u1) := HBT.out.at 2 rfl
    have c3 : w.cell? ⟨p, i + 3, none⟩ = some (.string s0) := HAT.out.at 3 rfl
    have d3 : w.cell? ⟨q, o + 3, none⟩ = some (.string s1) := HBT.out.at 3 rfl
    have c4 : w.cell? ⟨p, i + 4, none⟩ = some (.int .i64 x0) := HAT.out.at 4 rfl
    have d4 : w.cell? ⟨q, o + 4, none⟩ = some (.int .i64 x1) := HBT.out.at 4 rfl
    have c5 : w.cell? ⟨p, i + 5, none⟩ = some (.int .i64 g0) := HAT.out.at 5 rfl
    have d5 : w.cell? ⟨q, o + 5, none⟩ = some (.int .i64 g1) := HBT.out.at 5 rfl
    have hp := HAT.out.1
    have hq := HBT.out.1
    rw [HR.out]
    go_enter Tryd.func64, Tryd.ntmps64
    go_wp2
    refine wp_region_below (by kernel_rfl) (by kernel_rfl) ?_
    repeat (first | (refine wq_val ?_ ?_; (focus (go_simp; done)); apply Exists.intro; refine ⟨fun w1 hw1 => ?_, ?_⟩; (obtain ⟨hc, hf⟩ := bcell hw1; clear hw1; go_simp; (first | done | with_reducible rfl | (with_reducible exact eql2 _ _ _) | (with_reducible exact neq2 _ _ _))); (try simp only [Act.put, List.setIfInBounds_toArray, List.set_cons_zero, List.set_cons_succ])) | (refine wq_skip ?_ ?_; (focus (go_simp; (first | done | (simp [undef]; done)))); (try simp only [Act.put, List.setIfInBounds_toArray, List.set_cons_zero, List.set_cons_succ])))
    refine wq_nil ?_
    intro w1 hb
    have HB := Lib.hid hb
    replace HAT := Lib.hid (HAT.out.below hb)
    replace HBT := Lib.hid (HBT.out.below hb)
    clear hb
    clear hp hq c1 d1 c2 d2 c3 d3 c4 d4 c5 d5
    have c1 : w1.cell? ⟨p, i + 1, none⟩ = some (.string f0) := HAT.out.at 1 rfl
    have d1 : w1.cell? ⟨q, o + 1, none⟩ = some (.string f1) := HBT.out.at 1 rfl
    have c2 : w1.cell? ⟨p, i + 2, none⟩ = some (.int .i64 u0) := HAT.out.at 2 rfl
    have d2 : w1.cell? ⟨q, o + 2, none⟩ = some (.int .i64 u1) := HBT.out.at 2 rfl
    have c3 : w1.cell? ⟨p, i + 3, none⟩ = some (.string s0) := HAT.out.at 3 rfl
    have d3 : w1.cell? ⟨q, o + 3, none⟩ = some (.string s1) := HBT.out.at 3 rfl
    have c4 : w1.cell? ⟨p, i + 4, none⟩ = some (.int .i64 x0) := HAT.out.at 4 rfl
    have d4 : w1.cell? ⟨q, o + 4, none⟩ = some (.int .i64 x1) := HBT.out.at 4 rfl
    have c5 : w1.cell? ⟨p, i + 5, none⟩ = some (.int .i64 g0) := HAT.out.at 5 rfl
    have d5 : w1.cell? ⟨q, o + 5, none⟩ = some (.int .i64 g1) := HBT.out.at 5 rfl
    have hp := HAT.out.1
    have hq := HBT.out.1
    go_wp2
    refine wp_region_below (by kernel_rfl) (by kernel_rfl) ?_
    repeat (first | (refine wq_val ?_ ?_; (focus (go_simp; done)); apply Exists.intro; refine ⟨fun w1 hw1 => ?_, ?_⟩; (obtain ⟨hc, hf⟩ := bcell hw1; clear hw1; go_simp; (first | done | with_reducible rfl | (with_reducible exact eql2 _ _ _) | (with_reducible exact neq2 _ _ _))); (try simp only [Act.put, List.setIfInBounds_toArray, List.set_cons_zero, List.set_cons_succ])) | (refine wq_skip ?_ ?_; (focus (go_simp; (first | done | (simp [undef]; done)))); (try simp only [Act.put, List.setIfInBounds_toArray, List.set_cons_zero, List.set_cons_succ])) | (refine wq_call 49 ?_ ?_; (focus (go_simp; done)); apply Exists.intro; refine ⟨fun w1 hw1 => ?_, ?_⟩; (focus (clear hw1; go_simp; (first | done | with_reducible rfl))); apply Exists.intro; refine ⟨fun w1 hw1 => ?_, ?_⟩; (focus (exact calls_below_same hw1 (by have h := max_ven (x0 - x1) (-(x0 - x1)) w1; rw [HMX.out] at h; exact h); done)); (try simp only [Act.put, List.setIfInBounds_toArray, List.set_cons_zero, List.set_cons_succ])) | (refine wq_call 97 ?_ ?_; (focus (go_simp; done)); apply Exists.intro; refine ⟨fun w1 hw1 => ?_, ?_⟩; (focus (clear hw1; go_simp; (first | done | with_reducible rfl))); apply Exists.intro; refine ⟨fun w1 hw1 => ?_, ?_⟩; (focus (exact calls_below_same hw1 (angle_spec g0 g1 w1 a4 (by omega) b4 (by omega)); done)); (try simp only [Act.put, List.setIfInBounds_toArray, List.set_cons_zero, List.set_cons_succ])))
    refine wq_nil ?_
    intro w2 hb
    replace HB := Lib.hid (bseq HB.out hb)
    replace HAT := Lib.hid (HAT.out.below hb)
    replace HBT := Lib.hid (HBT.out.below hb)
    clear hb
    clear hp hq c1 d1 c2 d2 c3 d3 c4 d4 c5 d5
    have c1 : w2.cell? ⟨p, i + 1, none⟩ = some (.string f0) := HAT.out.at 1 rfl
    have d1 : w2.cell? ⟨q, o + 1, none⟩ = some (.string f1) := HBT.out.at 1 rfl
    have c2 : w2.cell? ⟨p, i + 2, none⟩ = some (.int .i64 u0) := HAT.out.at 2 rfl
    have d2 : w2.cell? ⟨q, o + 2, none⟩ = some (.int .i64 u1) := HBT.out.at 2 rfl
    have c3 : w2.cell? ⟨p, i + 3, none⟩ = some (.string s0) := HAT.out.at 3 rfl
    have d3 : w2.cell? ⟨q, o + 3, none⟩ = some (.string s1) := HBT.out.at 3 rfl
    have c4 : w2.cell? ⟨p, i + 4, none⟩ = some (.int .i64 x0) := HAT.out.at 4 rfl
    have d4 : w2.cell? ⟨q, o + 4, none⟩ = some (.int .i64 x1) := HBT.out.at 4 rfl
    have c5 : w2.cell? ⟨p, i + 5, none⟩ = some (.int .i64 g0) := HAT.out.at 5 rfl
    have d5 : w2.cell? ⟨q, o + 5, none⟩ = some (.int .i64 g1) := HBT.out.at 5 rfl
    have hp := HAT.out.1
    have hq := HBT.out.1
    go_wp2
    refine wp_region_below (by kernel_rfl) (by kernel_rfl) ?_
    repeat (first | (refine wq_val ?_ ?_; (focus (go_simp; done)); apply Exists.intro; refine ⟨fun w1 hw1 => ?_, ?_⟩; (obtain ⟨hc, hf⟩ := bcell hw1; clear hw1; go_simp; (first | done | with_reducible rfl | (with_reducible exact eql2 _ _ _) | (with_reducible exact neq2 _ _ _))); (try simp only [Act.put, List.setIfInBounds_toArray, List.set_cons_zero, List.set_cons_succ])) | (refine wq_skip ?_ ?_; (focus (go_simp; (first | done | (simp [undef]; done)))); (try simp only [Act.put, List.setIfInBounds_toArray, List.set_cons_zero, List.set_cons_succ])))
    refine wq_nil ?_
    intro w3 hb
    replace HB := Lib.hid (bseq HB.out hb)
    replace HAT := Lib.hid (HAT.out.below hb)
    replace HBT := Lib.hid (HBT.out.below hb)
    clear hb
    clear hp hq c1 d1 c2 d2 c3 d3 c4 d4 c5 d5
    have c1 : w3.cell? ⟨p, i + 1, none⟩ = some (.string f0) := HAT.out.at 1 rfl
    have d1 : w3.cell? ⟨q, o + 1, none⟩ = some (.string f1) := HBT.out.at 1 rfl
    have c2 : w3.cell? ⟨p, i + 2, none⟩ = some (.int .i64 u0) := HAT.out.at 2 rfl
    have d2 : w3.cell? ⟨q, o + 2, none⟩ = some (.int .i64 u1) := HBT.out.at 2 rfl
    have c3 : w3.cell? ⟨p, i + 3, none⟩ = some (.string s0) := HAT.out.at 3 rfl
    have d3 : w3.cell? ⟨q, o + 3, none⟩ = some (.string s1) := HBT.out.at 3 rfl
    have c4 : w3.cell? ⟨p, i + 4, none⟩ = some (.int .i64 x0) := HAT.out.at 4 rfl
    have d4 : w3.cell? ⟨q, o + 4, none⟩ = some (.int .i64 x1) := HBT.out.at 4 rfl
    have c5 : w3.cell? ⟨p, i + 5, none⟩ = some (.int .i64 g0) := HAT.out.at 5 rfl
    have d5 : w3.cell? ⟨q, o + 5, none⟩ = some (.int .i64 g1) := HBT.out.at 5 rfl
    have hp := HAT.out.1
    have hq := HBT.out.1
    go_wp2
    refine wp_region_below (by kernel_rfl) (by kernel_rfl) ?_
    repeat (first | (refine wq_val ?_ ?_; (focus (go_simp; done)); apply Exists.intro; refine ⟨fun w1 hw1 => ?_, ?_⟩; (obtain ⟨hc, hf⟩ := bcell hw1; clear hw1; go_simp; (first | done | with_reducible rfl | (with_reducible exact eql2 _ _ _) | (with_reducible exact neq2 _ _ _))); (try simp only [Act.put, List.setIfInBounds_toArray, List.set_cons_zero, List.set_cons_succ])) | (refine wq_skip ?_ ?_; (focus (go_simp; (first | done | (simp [undef]; done)))); (try simp only [Act.put, List.setIfInBounds_toArray, List.set_cons_zero, List.set_cons_succ])) | (refine wq_call 49 ?_ ?_; (focus (go_simp; done)); apply Exists.intro; refine ⟨fun w1 hw1 => ?_, ?_⟩; (focus (clear hw1; go_simp; (first | done | with_reducible rfl))); apply Exists.intro; refine ⟨fun w1 hw1 => ?_, ?_⟩; (focus (exact calls_below_same hw1 (by have h := max_ven (u0 - u1) (u1 - u0) w1; rw [← HMN.out] at h; exact h); done)); (try simp only [Act.put, List.setIfInBounds_toArray, List.set_cons_zero, List.set_cons_succ])) | (refine wq_call 50 ?_ ?_; (focus (go_simp; done)); apply Exists.intro; refine ⟨fun w1 hw1 => ?_, ?_⟩; (focus (clear hw1; go_simp; (first | done | with_reducible rfl))); apply Exists.intro; refine ⟨fun w1 hw1 => ?_, ?_⟩; (focus (exact calls_below_same hw1 (min_ven 20 (awy u0 u1) w1); done)); (try simp only [Act.put, List.setIfInBounds_toArray, List.set_cons_zero, List.set_cons_succ])))
    refine wq_nil ?_
    intro w4 hb
    replace HB := Lib.hid (bseq HB.out hb)
    replace HAT := Lib.hid (HAT.out.below hb)
    replace HBT := Lib.hid (HBT.out.below hb)
    clear hb
    clear hp hq c1 d1 c2 d2 c3 d3 c4 d4 c5 d5
    have c1 : w4.cell? ⟨p, i + 1, none⟩ = some (.string f0) := HAT.out.at 1 rfl
    have d1 : w4.cell? ⟨q, o + 1, none⟩ = some (.string f1) := HBT.out.at 1 rfl
    have c2 : w4.cell? ⟨p, i + 2, none⟩ = some (.int .i64 u0) := HAT.out.at 2 rfl
    have d2 : w4.cell? ⟨q, o + 2, none⟩ = some (.int .i64 u1) := HBT.out.at 2 rfl
    have c3 : w4.cell? ⟨p, i + 3, none⟩ = some (.string s0) := HAT.out.at 3 rfl
    have d3 : w4.cell? ⟨q, o + 3, none⟩ = some (.string s1) := HBT.out.at 3 rfl
    have c4 : w4.cell? ⟨p, i + 4, none⟩ = some (.int .i64 x0) := HAT.out.at 4 rfl
    have d4 : w4.cell? ⟨q, o + 4, none⟩ = some (.int .i64 x1) := HBT.out.at 4 rfl
    have c5 : w4.cell? ⟨p, i + 5, none⟩ = some (.int .i64 g0) := HAT.out.at 5 rfl
    have d5 : w4.cell? ⟨q, o + 5, none⟩ = some (.int .i64 g1) := HBT.out.at 5 rfl
    have hp := HAT.out.1
    have hq := HBT.out.1
    go_wp2
    refine wp_region_below (by kernel_rfl) (by kernel_rfl) ?_
    repeat (first | (refine wq_val ?_ ?_; (focus (go_simp; done)); apply Exists.intro; refine ⟨fun w1 hw1 => ?_, ?_⟩; (obtain ⟨hc, hf⟩ := bcell hw1; clear hw1; go_simp; (first | done | with_reducible rfl | (with_reducible exact eql2 _ _ _) | (with_reducible exact neq2 _ _ _))); (try simp only [Act.put, List.setIfInBounds_toArray, List.set_cons_zero, List.set_cons_succ])) | (refine wq_skip ?_ ?_; (focus (go_simp; (first | done | (simp [undef]; done)))); (try simp only [Act.put, List.setIfInBounds_toArray, List.set_cons_zero, List.set_cons_succ])))
    refine wq_nil ?_
    intro w5 hb
    replace HB := Lib.hid (bseq HB.out hb)
    replace HAT := Lib.hid (HAT.out.below hb)
    replace HBT := Lib.hid (HBT.out.below hb)
    clear hb
    clear hp hq c1 d1 c2 d2 c3 d3 c4 d4 c5 d5
    have c1 : w5.cell? ⟨p, i + 1, none⟩ = some (.string f0) := HAT.out.at 1 rfl
    have d1 : w5.cell? ⟨q, o + 1, none⟩ = some (.string f1) := HBT.out.at 1 rfl
    have c2 : w5.cell? ⟨p, i + 2, none⟩ = some (.int .i64 u0) := HAT.out.at 2 rfl
    have d2 : w5.cell? ⟨q, o + 2, none⟩ = some (.int .i64 u1) := HBT.out.at 2 rfl
    have c3 : w5.cell? ⟨p, i + 3, none⟩ = some (.string s0) := HAT.out.at 3 rfl
    have d3 : w5.cell? ⟨q, o + 3, none⟩ = some (.string s1) := HBT.out.at 3 rfl
    have c4 : w5.cell? ⟨p, i + 4, none⟩ = some (.int .i64 x0) := HAT.out.at 4 rfl
    have d4 : w5.cell? ⟨q, o + 4, none⟩ = some (.int .i64 x1) := HBT.out.at 4 rfl
    have c5 : w5.cell? ⟨p, i + 5, none⟩ = some (.int .i64 g0) := HAT.out.at 5 rfl
    have d5 : w5.cell? ⟨q, o + 5, none⟩ = some (.int .i64 g1) := HBT.out.at 5 rfl
    have hp := HAT.out.1
    have hq := HBT.out.1
    go_wp2
    go_ret
    exact ⟨rfl, HB.out⟩
  · have hg := ang_180 a4 (by omega : g0 ≤ 180) hm.1 (by omega : (mirG g1) ≤ 180)
    have e4 : IntKind.i64.wrap (3 * awy x0 x1 + angI g0 (mirG g1)) = 3 * awy x0 x1 + angI g0 (mirG g1) := IntWalk.i64_in _ (by omega)
    have e10 : IntKind.i64.wrap (3 * awy x0 x1 + angI g0 (mirG g1) + lesI 20 (awy u0 u1)) = 3 * awy x0 x1 + angI g0 (mirG g1) + lesI 20 (awy u0 u1) := IntWalk.i64_in _ (by omega)
    have HR := Lib.hid (show scI ⟨id0, f0, u0, (s0, x0, g0), W0, L0, D0⟩ ⟨id1, f1, u1, (s1, x1, g1), W1, L1, D1⟩ true = 3 * awy x0 x1 + angI g0 (mirG g1) + lesI 20 (awy u0 u1) by
      unfold scI scN scS scG; simp only [hf, hs, if_true, if_false, Bool.false_eq_true, Int.add_zero])
    have hs2 : (s0.toList != s1.toList) = false := by rw [bne, hs]; rfl
    have c1 : w.cell? ⟨p, i + 1, none⟩ = some (.string f0) := HAT.out.at 1 rfl
    have d1 : w.cell? ⟨q, o + 1, none⟩ = some (.string f1) := HBT.out.at 1 rfl
    have c2 : w.cell? ⟨p, i + 2, none⟩ = some (.int .i64 u0) := HAT.out.at 2 rfl
    have d2 : w.cell? ⟨q, o + 2, none⟩ = some (.int .i64 u1) := HBT.out.at 2 rfl
    have c3 : w.cell? ⟨p, i + 3, none⟩ = some (.string s0) := HAT.out.at 3 rfl
    have d3 : w.cell? ⟨q, o + 3, none⟩ = some (.string s1) := HBT.out.at 3 rfl
    have c4 : w.cell? ⟨p, i + 4, none⟩ = some (.int .i64 x0) := HAT.out.at 4 rfl
    have d4 : w.cell? ⟨q, o + 4, none⟩ = some (.int .i64 x1) := HBT.out.at 4 rfl
    have c5 : w.cell? ⟨p, i + 5, none⟩ = some (.int .i64 g0) := HAT.out.at 5 rfl
    have d5 : w.cell? ⟨q, o + 5, none⟩ = some (.int .i64 g1) := HBT.out.at 5 rfl
    have hp := HAT.out.1
    have hq := HBT.out.1
    rw [HR.out]
    go_enter Tryd.func64, Tryd.ntmps64
    go_wp2
    refine wp_region_below (by kernel_rfl) (by kernel_rfl) ?_
    repeat (first | (refine wq_val ?_ ?_; (focus (go_simp; done)); apply Exists.intro; refine ⟨fun w1 hw1 => ?_, ?_⟩; (obtain ⟨hc, hf⟩ := bcell hw1; clear hw1; go_simp; (first | done | with_reducible rfl | (with_reducible exact eql2 _ _ _) | (with_reducible exact neq2 _ _ _))); (try simp only [Act.put, List.setIfInBounds_toArray, List.set_cons_zero, List.set_cons_succ])) | (refine wq_skip ?_ ?_; (focus (go_simp; (first | done | (simp [undef]; done)))); (try simp only [Act.put, List.setIfInBounds_toArray, List.set_cons_zero, List.set_cons_succ])))
    refine wq_nil ?_
    intro w1 hb
    have HB := Lib.hid hb
    replace HAT := Lib.hid (HAT.out.below hb)
    replace HBT := Lib.hid (HBT.out.below hb)
    clear hb
    clear hp hq c1 d1 c2 d2 c3 d3 c4 d4 c5 d5
    have c1 : w1.cell? ⟨p, i + 1, none⟩ = some (.string f0) := HAT.out.at 1 rfl
    have d1 : w1.cell? ⟨q, o + 1, none⟩ = some (.string f1) := HBT.out.at 1 rfl
    have c2 : w1.cell? ⟨p, i + 2, none⟩ = some (.int .i64 u0) := HAT.out.at 2 rfl
    have d2 : w1.cell? ⟨q, o + 2, none⟩ = some (.int .i64 u1) := HBT.out.at 2 rfl
    have c3 : w1.cell? ⟨p, i + 3, none⟩ = some (.string s0) := HAT.out.at 3 rfl
    have d3 : w1.cell? ⟨q, o + 3, none⟩ = some (.string s1) := HBT.out.at 3 rfl
    have c4 : w1.cell? ⟨p, i + 4, none⟩ = some (.int .i64 x0) := HAT.out.at 4 rfl
    have d4 : w1.cell? ⟨q, o + 4, none⟩ = some (.int .i64 x1) := HBT.out.at 4 rfl
    have c5 : w1.cell? ⟨p, i + 5, none⟩ = some (.int .i64 g0) := HAT.out.at 5 rfl
    have d5 : w1.cell? ⟨q, o + 5, none⟩ = some (.int .i64 g1) := HBT.out.at 5 rfl
    have hp := HAT.out.1
    have hq := HBT.out.1
    go_wp2
    refine wp_region_below (by kernel_rfl) (by kernel_rfl) ?_
    repeat (first | (refine wq_val ?_ ?_; (focus (go_simp; done)); apply Exists.intro; refine ⟨fun w1 hw1 => ?_, ?_⟩; (obtain ⟨hc, hf⟩ := bcell hw1; clear hw1; go_simp; (first | done | with_reducible rfl | (with_reducible exact eql2 _ _ _) | (with_reducible exact neq2 _ _ _))); (try simp only [Act.put, List.setIfInBounds_toArray, List.set_cons_zero, List.set_cons_succ])) | (refine wq_skip ?_ ?_; (focus (go_simp; (first | done | (simp [undef]; done)))); (try simp only [Act.put, List.setIfInBounds_toArray, List.set_cons_zero, List.set_cons_succ])) | (refine wq_call 49 ?_ ?_; (focus (go_simp; done)); apply Exists.intro; refine ⟨fun w1 hw1 => ?_, ?_⟩; (focus (clear hw1; go_simp; (first | done | with_reducible rfl))); apply Exists.intro; refine ⟨fun w1 hw1 => ?_, ?_⟩; (focus (exact calls_below_same hw1 (by have h := max_ven (x0 - x1) (-(x0 - x1)) w1; rw [HMX.out] at h; exact h); done)); (try simp only [Act.put, List.setIfInBounds_toArray, List.set_cons_zero, List.set_cons_succ])) | (refine wq_call 97 ?_ ?_; (focus (go_simp; done)); apply Exists.intro; refine ⟨fun w1 hw1 => ?_, ?_⟩; (focus (clear hw1; go_simp; (first | done | with_reducible rfl))); apply Exists.intro; refine ⟨fun w1 hw1 => ?_, ?_⟩; (focus (exact calls_below_same hw1 (angle_spec g0 (mirG g1) w1 a4 (by omega) hm.1 (by omega)); done)); (try simp only [Act.put, List.setIfInBounds_toArray, List.set_cons_zero, List.set_cons_succ])))
    refine wq_nil ?_
    intro w2 hb
    replace HB := Lib.hid (bseq HB.out hb)
    replace HAT := Lib.hid (HAT.out.below hb)
    replace HBT := Lib.hid (HBT.out.below hb)
    clear hb
    clear hp hq c1 d1 c2 d2 c3 d3 c4 d4 c5 d5
    have c1 : w2.cell? ⟨p, i + 1, none⟩ = some (.string f0) := HAT.out.at 1 rfl
    have d1 : w2.cell? ⟨q, o + 1, none⟩ = some (.string f1) := HBT.out.at 1 rfl
    have c2 : w2.cell? ⟨p, i + 2, none⟩ = some (.int .i64 u0) := HAT.out.at 2 rfl
    have d2 : w2.cell? ⟨q, o + 2, none⟩ = some (.int .i64 u1) := HBT.out.at 2 rfl
    have c3 : w2.cell? ⟨p, i + 3, none⟩ = some (.string s0) := HAT.out.at 3 rfl
    have d3 : w2.cell? ⟨q, o + 3, none⟩ = some (.string s1) := HBT.out.at 3 rfl
    have c4 : w2.cell? ⟨p, i + 4, none⟩ = some (.int .i64 x0) := HAT.out.at 4 rfl
    have d4 : w2.cell? ⟨q, o + 4, none⟩ = some (.int .i64 x1) := HBT.out.at 4 rfl
    have c5 : w2.cell? ⟨p, i + 5, none⟩ = some (.int .i64 g0) := HAT.out.at 5 rfl
    have d5 : w2.cell? ⟨q, o + 5, none⟩ = some (.int .i64 g1) := HBT.out.at 5 rfl
    have hp := HAT.out.1
    have hq := HBT.out.1
    go_wp2
    refine wp_region_below (by kernel_rfl) (by kernel_rfl) ?_
    repeat (first | (refine wq_val ?_ ?_; (focus (go_simp; done)); apply Exists.intro; refine ⟨fun w1 hw1 => ?_, ?_⟩; (obtain ⟨hc, hf⟩ := bcell hw1; clear hw1; go_simp; (first | done | with_reducible rfl | (with_reducible exact eql2 _ _ _) | (with_reducible exact neq2 _ _ _))); (try simp only [Act.put, List.setIfInBounds_toArray, List.set_cons_zero, List.set_cons_succ])) | (refine wq_skip ?_ ?_; (focus (go_simp; (first | done | (simp [undef]; done)))); (try simp only [Act.put, List.setIfInBounds_toArray, List.set_cons_zero, List.set_cons_succ])))
    refine wq_nil ?_
    intro w3 hb
    replace HB := Lib.hid (bseq HB.out hb)
    replace HAT := Lib.hid (HAT.out.below hb)
    replace HBT := Lib.hid (HBT.out.below hb)
    clear hb
    clear hp hq c1 d1 c2 d2 c3 d3 c4 d4 c5 d5
    have c1 : w3.cell? ⟨p, i + 1, none⟩ = some (.string f0) := HAT.out.at 1 rfl
    have d1 : w3.cell? ⟨q, o + 1, none⟩ = some (.string f1) := HBT.out.at 1 rfl
    have c2 : w3.cell? ⟨p, i + 2, none⟩ = some (.int .i64 u0) := HAT.out.at 2 rfl
    have d2 : w3.cell? ⟨q, o + 2, none⟩ = some (.int .i64 u1) := HBT.out.at 2 rfl
    have c3 : w3.cell? ⟨p, i + 3, none⟩ = some (.string s0) := HAT.out.at 3 rfl
    have d3 : w3.cell? ⟨q, o + 3, none⟩ = some (.string s1) := HBT.out.at 3 rfl
    have c4 : w3.cell? ⟨p, i + 4, none⟩ = some (.int .i64 x0) := HAT.out.at 4 rfl
    have d4 : w3.cell? ⟨q, o + 4, none⟩ = some (.int .i64 x1) := HBT.out.at 4 rfl
    have c5 : w3.cell? ⟨p, i + 5, none⟩ = some (.int .i64 g0) := HAT.out.at 5 rfl
    have d5 : w3.cell? ⟨q, o + 5, none⟩ = some (.int .i64 g1) := HBT.out.at 5 rfl
    have hp := HAT.out.1
    have hq := HBT.out.1
    go_wp2
    refine wp_region_below (by kernel_rfl) (by kernel_rfl) ?_
    repeat (first | (refine wq_val ?_ ?_; (focus (go_simp; done)); apply Exists.intro; refine ⟨fun w1 hw1 => ?_, ?_⟩; (obtain ⟨hc, hf⟩ := bcell hw1; clear hw1; go_simp; (first | done | with_reducible rfl | (with_reducible exact eql2 _ _ _) | (with_reducible exact neq2 _ _ _))); (try simp only [Act.put, List.setIfInBounds_toArray, List.set_cons_zero, List.set_cons_succ])) | (refine wq_skip ?_ ?_; (focus (go_simp; (first | done | (simp [undef]; done)))); (try simp only [Act.put, List.setIfInBounds_toArray, List.set_cons_zero, List.set_cons_succ])) | (refine wq_call 49 ?_ ?_; (focus (go_simp; done)); apply Exists.intro; refine ⟨fun w1 hw1 => ?_, ?_⟩; (focus (clear hw1; go_simp; (first | done | with_reducible rfl))); apply Exists.intro; refine ⟨fun w1 hw1 => ?_, ?_⟩; (focus (exact calls_below_same hw1 (by have h := max_ven (u0 - u1) (u1 - u0) w1; rw [← HMN.out] at h; exact h); done)); (try simp only [Act.put, List.setIfInBounds_toArray, List.set_cons_zero, List.set_cons_succ])) | (refine wq_call 50 ?_ ?_; (focus (go_simp; done)); apply Exists.intro; refine ⟨fun w1 hw1 => ?_, ?_⟩; (focus (clear hw1; go_simp; (first | done | with_reducible rfl))); apply Exists.intro; refine ⟨fun w1 hw1 => ?_, ?_⟩; (focus (exact calls_below_same hw1 (min_ven 20 (awy u0 u1) w1); done)); (try simp only [Act.put, List.setIfInBounds_toArray, List.set_cons_zero, List.set_cons_succ])))
    refine wq_nil ?_
    intro w4 hb
    replace HB := Lib.hid (bseq HB.out hb)
    replace HAT := Lib.hid (HAT.out.below hb)
    replace HBT := Lib.hid (HBT.out.below hb)
    clear hb
    clear hp hq c1 d1 c2 d2 c3 d3 c4 d4 c5 d5
    have c1 : w4.cell? ⟨p, i + 1, none⟩ = some (.string f0) := HAT.out.at 1 rfl
    have d1 : w4.cell? ⟨q, o + 1, none⟩ = some (.string f1) := HBT.out.at 1 rfl
    have c2 : w4.cell? ⟨p, i + 2, none⟩ = some (.int .i64 u0) := HAT.out.at 2 rfl
    have d2 : w4.cell? ⟨q, o + 2, none⟩ = some (.int .i64 u1) := HBT.out.at 2 rfl
    have c3 : w4.cell? ⟨p, i + 3, none⟩ = some (.string s0) := HAT.out.at 3 rfl
    have d3 : w4.cell? ⟨q, o + 3, none⟩ = some (.string s1) := HBT.out.at 3 rfl
    have c4 : w4.cell? ⟨p, i + 4, none⟩ = some (.int .i64 x0) := HAT.out.at 4 rfl
    have d4 : w4.cell? ⟨q, o + 4, none⟩ = some (.int .i64 x1) := HBT.out.at 4 rfl
    have c5 : w4.cell? ⟨p, i + 5, none⟩ = some (.int .i64 g0) := HAT.out.at 5 rfl
    have d5 : w4.cell? ⟨q, o + 5, none⟩ = some (.int .i64 g1) := HBT.out.at 5 rfl
    have hp := HAT.out.1
    have hq := HBT.out.1
    go_wp2
    refine wp_region_below (by kernel_rfl) (by kernel_rfl) ?_
    repeat (first | (refine wq_val ?_ ?_; (focus (go_simp; done)); apply Exists.intro; refine ⟨fun w1 hw1 => ?_, ?_⟩; (obtain ⟨hc, hf⟩ := bcell hw1; clear hw1; go_simp; (first | done | with_reducible rfl | (with_reducible exact eql2 _ _ _) | (with_reducible exact neq2 _ _ _))); (try simp only [Act.put, List.setIfInBounds_toArray, List.set_cons_zero, List.set_cons_succ])) | (refine wq_skip ?_ ?_; (focus (go_simp; (first | done | (simp [undef]; done)))); (try simp only [Act.put, List.setIfInBounds_toArray, List.set_cons_zero, List.set_cons_succ])))
    refine wq_nil ?_
    intro w5 hb
    replace HB := Lib.hid (bseq HB.out hb)
    replace HAT := Lib.hid (HAT.out.below hb)
    replace HBT := Lib.hid (HBT.out.below hb)
    clear hb
    clear hp hq c1 d1 c2 d2 c3 d3 c4 d4 c5 d5
    have c1 : w5.cell? ⟨p, i + 1, none⟩ = some (.string f0) := HAT.out.at 1 rfl
    have d1 : w5.cell? ⟨q, o + 1, none⟩ = some (.string f1) := HBT.out.at 1 rfl
    have c2 : w5.cell? ⟨p, i + 2, none⟩ = some (.int .i64 u0) := HAT.out.at 2 rfl
    have d2 : w5.cell? ⟨q, o + 2, none⟩ = some (.int .i64 u1) := HBT.out.at 2 rfl
    have c3 : w5.cell? ⟨p, i + 3, none⟩ = some (.string s0) := HAT.out.at 3 rfl
    have d3 : w5.cell? ⟨q, o + 3, none⟩ = some (.string s1) := HBT.out.at 3 rfl
    have c4 : w5.cell? ⟨p, i + 4, none⟩ = some (.int .i64 x0) := HAT.out.at 4 rfl
    have d4 : w5.cell? ⟨q, o + 4, none⟩ = some (.int .i64 x1) := HBT.out.at 4 rfl
    have c5 : w5.cell? ⟨p, i + 5, none⟩ = some (.int .i64 g0) := HAT.out.at 5 rfl
    have d5 : w5.cell? ⟨q, o + 5, none⟩ = some (.int .i64 g1) := HBT.out.at 5 rfl
    have hp := HAT.out.1
    have hq := HBT.out.1
    go_wp2
    go_ret
    exact ⟨rfl, HB.out⟩
end Go.Proofs.YtcjpplijbdfgbaaDoor
