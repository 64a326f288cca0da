/- Why a leaf is not right for a face: spec, impl. -/
import Derived.Test.YtmfchcaidfloaaaDoorNst1
import Derived.Test.YtmfchcaidfloaaaDoorK19
import Derived.Test.YtmfchcaidfloaaaDoorVen14
import Derived.Test.YtmfchcaidfloaaaDoorMat1
import Derived.Test.YtmfchcaidfloaaaDoorWcVeneerFault
namespace Go.Proofs.YtmfchcaidfloaaaDoor
open Seq2 Go.ChangeShapes Go.WideShapes Go.ChangeAt Go.RowKit
set_option linter.unusedVariables false
set_option linter.unusedSimpArgs false

def vfK (v s : Vn) (t : Int) (r : Ru) : Int := if !(v.1.toList == s.1.toList) then 2 else if decide (r.2.2.2 < awy v.2.1 s.2.1) then 3 else if decide (r.2.2.1 < angI (tuI s.2.2 t) v.2.2) then 4 else 0
def vfR (v : Vn) (z : Lf) (t : Int) (r : Ru) : Int × Int := if vnB v && (lfB z && ruB r) then (if inI t 0 7 then (vfK v z.ve t r, 0) else (0, 2)) else (0, 1)
theorem tuI_rng {g t : Int} (g0 : 0 ≤ g) (g1 : g ≤ 179) (t0 : 0 ≤ t) : 0 ≤ tuI g t ∧ tuI g t ≤ 179 := by
  unfold tuI; split <;> omega
theorem lfB_vn {z : Lf} (h : lfB z = true) : vnB z.ve = true := by
  simp only [lfB, Bool.and_eq_true] at h
  exact h.2.2.2.1
set_option maxRecDepth 100000 in
set_option maxHeartbeats 8000000 in
theorem vf_at (q o q2 o2 q3 o3 : Nat) (v : Vn) (z : Lf) (t : Int) (r : Ru) (w : World) (h1 : VC w q o v.1 v.2.1 v.2.2) (h2 : LfAt w q2 o2 z) (h3 : RuAt w q3 o3 r) (hv : vnB v = true) (hz : lfB z = true) (hr : ruB r = true) (ht : inI t 0 7 = true) :
    Calls Tryd.prog 37 #[.pointer (some ⟨q, o, none⟩), .pointer (some ⟨q2, o2, none⟩), .int .i64 t, .pointer (some ⟨q3, o3, none⟩)] w fun e w' => e = .returned (.int .i64 (vfK v z.ve t r)) ∧ Below w.heap.size w w' := by
  obtain ⟨_, x0, x1, g0, g1⟩ := venB_ok hv
  obtain ⟨_, y0, y1, u0, u1⟩ := venB_ok (lfB_vn hz)
  have hrr := ruB_iff.1 hr
  have htt := inIb.1 ht
  obtain ⟨lv, hlv, hat⟩ := h2
  obtain ⟨ao6, n6, c6, rfl, _, _, _, _, _, _, _, _, _⟩ := hlv.out
  have d0 : w.cell? ⟨q2, o2 + 3, none⟩ = some (.string z.ve.1) := hat.at 3 rfl
  have d1 : w.cell? ⟨q2, o2 + 4, none⟩ = some (.int .i64 z.ve.2.1) := hat.at 4 rfl
  have d2 : w.cell? ⟨q2, o2 + 5, none⟩ = some (.int .i64 z.ve.2.2) := hat.at 5 rfl
  have hq2 := hat.1
  obtain ⟨hq1, a0, a1, a2⟩ := h1
  obtain ⟨hq3, _, _, b2, b3⟩ := h3
  obtain ⟨zid, zfl, znu, ⟨s1, y, u⟩, zwd, zln, zdf⟩ := z
  obtain ⟨s0, x, g⟩ := v
  obtain ⟨r0, r1, ra, rs⟩ := r
  simp only at *
  clear hlv hat hv hz hr ht
  have hu := tuI_rng u0 u1 htt.1
  have e1 : IntKind.i64.wrap (x - y) = x - y := IntWalk.i64_in _ (by omega)
  have e2 : IntKind.i64.wrap (y - x) = y - x := IntWalk.i64_in _ (by omega)
  have HMX := Lib.hid (awy_grt x y)
  obtain ⟨p, hp⟩ : ∃ p, awy x y = p := ⟨_, rfl⟩
  obtain ⟨tg, htg⟩ : ∃ p, tuI u t = p := ⟨_, rfl⟩
  rw [htg] at hu
  obtain ⟨an, han⟩ : ∃ p, angI tg g = p := ⟨_, rfl⟩
  have HTG := Lib.hid htg
  have HAN := Lib.hid han
  rw [hp] at HMX
  have HR := Lib.hid (show vfK (s0, x, g) (s1, y, u) t (r0, r1, ra, rs) = if !(s0.toList == s1.toList) then 2 else if decide (rs < p) then 3 else if decide (ra < an) then 4 else 0 by unfold vfK; simp only [hp, htg, han])
  clear hp htg han
  cases hs : (s0.toList == s1.toList) with
  | false =>
    have hsn : (s0.toList != s1.toList) = true := by rw [bne, hs]; rfl
    have HRR := Lib.hid (HR.out.trans (by rw [hs]; try rfl))
    rw [HRR.out]
    go_enter Tryd.func37, Tryd.ntmps37
    go_wp2
    refine wp_region_below (by kernel_rfl) (by kernel_rfl) ?_
    repeat (first | (refine wq_val ?_ ?_; (focus (go_simp; done)); apply Exists.intro; refine ⟨fun w1 hw1 => ?_, ?_⟩; (obtain ⟨hc, hf⟩ := bcell hw1; clear hw1; go_simp; (first | done | with_reducible rfl | (with_reducible exact eql2 _ _ _) | (with_reducible exact neq2 _ _ _))); (try simp only [Act.put, List.setIfInBounds_toArray, List.set_cons_zero, List.set_cons_succ])) | (refine wq_skip ?_ ?_; (focus (go_simp; (first | done | (simp [undef]; done)))); (try simp only [Act.put, List.setIfInBounds_toArray, List.set_cons_zero, List.set_cons_succ])))
    refine wq_nil ?_
    intro w1 hb1
    have HB1 := Lib.hid hb1
    clear hb1
    go_wp2
    go_ret
    exact ⟨rfl, HB1.out⟩
  | true =>
  have hsn : (s0.toList != s1.toList) = false := by rw [bne, hs]; rfl
  by_cases h1 : ¬ rs < p
  rotate_left
  · skip
    have hd : decide (rs < p) = true := by simpa using h1
    have HRR := Lib.hid (HR.out.trans (by rw [hs, hd]; try rfl))
    rw [HRR.out]
    clear h1
    go_enter Tryd.func37, Tryd.ntmps37
    go_wp2
    refine wp_region_below (by kernel_rfl) (by kernel_rfl) ?_
    repeat (first | (refine wq_val ?_ ?_; (focus (go_simp; done)); apply Exists.intro; refine ⟨fun w1 hw1 => ?_, ?_⟩; (obtain ⟨hc, hf⟩ := bcell hw1; clear hw1; go_simp; (first | done | with_reducible rfl | (with_reducible exact eql2 _ _ _) | (with_reducible exact neq2 _ _ _))); (try simp only [Act.put, List.setIfInBounds_toArray, List.set_cons_zero, List.set_cons_succ])) | (refine wq_skip ?_ ?_; (focus (go_simp; (first | done | (simp [undef]; done)))); (try simp only [Act.put, List.setIfInBounds_toArray, List.set_cons_zero, List.set_cons_succ])))
    refine wq_nil ?_
    intro w1 hb1
    have HB1 := Lib.hid hb1
    have c0 := (hb1.cell (p := ⟨q, o + 1, none⟩) hq1).trans a1
    have c1 := (hb1.cell (p := ⟨q2, o2 + 4, none⟩) hq2).trans d1
    have c2 := (hb1.cell (p := ⟨q3, o3 + 3, none⟩) hq3).trans b3
    have l1 := Nat.lt_of_lt_of_le hq1 hb1.size
    have l2 := Nat.lt_of_lt_of_le hq2 hb1.size
    have l3 := Nat.lt_of_lt_of_le hq3 hb1.size
    clear hb1
    go_wp2
    refine wp_region_below (by kernel_rfl) (by kernel_rfl) ?_
    repeat (first | (refine wq_val ?_ ?_; (focus (go_simp; done)); apply Exists.intro; refine ⟨fun w1 hw1 => ?_, ?_⟩; (obtain ⟨hc, hf⟩ := bcell hw1; clear hw1; go_simp; (first | done | with_reducible rfl | (with_reducible exact eql2 _ _ _) | (with_reducible exact neq2 _ _ _))); (try simp only [Act.put, List.setIfInBounds_toArray, List.set_cons_zero, List.set_cons_succ])) | (refine wq_skip ?_ ?_; (focus (go_simp; (first | done | (simp [undef]; done)))); (try simp only [Act.put, List.setIfInBounds_toArray, List.set_cons_zero, List.set_cons_succ])) | (refine wq_call 69 ?_ ?_; (focus (go_simp; done)); apply Exists.intro; refine ⟨fun w1 hw1 => ?_, ?_⟩; (focus (clear hw1; go_simp; (first | done | with_reducible rfl))); apply Exists.intro; refine ⟨fun w1 hw1 => ?_, ?_⟩; (focus (exact calls_below_same hw1 (by have h := max_ven (x - y) (y - x) w1; rw [← HMX.out] at h; exact h); done)); (try simp only [Act.put, List.setIfInBounds_toArray, List.set_cons_zero, List.set_cons_succ])))
    refine wq_nil ?_
    intro w2 hb2
    have HB2 := Lib.hid (bseq HB1.out hb2)
    clear hb2 c0 c1 c2 l1 l2 l3
    go_wp2
    go_ret
    exact ⟨rfl, HB2.out⟩
  by_cases h2 : ¬ ra < an
  rotate_left
  · skip
    have hd : decide (rs < p) = false := by simpa using h1
    have hd2 : decide (ra < an) = true := by simpa using h2
    have HRR := Lib.hid (HR.out.trans (by rw [hs, hd, hd2]; try rfl))
    rw [HRR.out]
    clear h1
    clear h2
    go_enter Tryd.func37, Tryd.ntmps37
    go_wp2
    refine wp_region_below (by kernel_rfl) (by kernel_rfl) ?_
    repeat (first | (refine wq_val ?_ ?_; (focus (go_simp; done)); apply Exists.intro; refine ⟨fun w1 hw1 => ?_, ?_⟩; (obtain ⟨hc, hf⟩ := bcell hw1; clear hw1; go_simp; (first | done | with_reducible rfl | (with_reducible exact eql2 _ _ _) | (with_reducible exact neq2 _ _ _))); (try simp only [Act.put, List.setIfInBounds_toArray, List.set_cons_zero, List.set_cons_succ])) | (refine wq_skip ?_ ?_; (focus (go_simp; (first | done | (simp [undef]; done)))); (try simp only [Act.put, List.setIfInBounds_toArray, List.set_cons_zero, List.set_cons_succ])))
    refine wq_nil ?_
    intro w1 hb1
    have HB1 := Lib.hid hb1
    have c0 := (hb1.cell (p := ⟨q, o + 1, none⟩) hq1).trans a1
    have c1 := (hb1.cell (p := ⟨q2, o2 + 4, none⟩) hq2).trans d1
    have c2 := (hb1.cell (p := ⟨q3, o3 + 3, none⟩) hq3).trans b3
    have c3 := (hb1.cell (p := ⟨q, o + 2, none⟩) hq1).trans a2
    have c4 := (hb1.cell (p := ⟨q2, o2 + 5, none⟩) hq2).trans d2
    have c5 := (hb1.cell (p := ⟨q3, o3 + 2, none⟩) hq3).trans b2
    have l1 := Nat.lt_of_lt_of_le hq1 hb1.size
    have l2 := Nat.lt_of_lt_of_le hq2 hb1.size
    have l3 := Nat.lt_of_lt_of_le hq3 hb1.size
    clear hb1
    go_wp2
    refine wp_region_below (by kernel_rfl) (by kernel_rfl) ?_
    repeat (first | (refine wq_val ?_ ?_; (focus (go_simp; done)); apply Exists.intro; refine ⟨fun w1 hw1 => ?_, ?_⟩; (obtain ⟨hc, hf⟩ := bcell hw1; clear hw1; go_simp; (first | done | with_reducible rfl | (with_reducible exact eql2 _ _ _) | (with_reducible exact neq2 _ _ _))); (try simp only [Act.put, List.setIfInBounds_toArray, List.set_cons_zero, List.set_cons_succ])) | (refine wq_skip ?_ ?_; (focus (go_simp; (first | done | (simp [undef]; done)))); (try simp only [Act.put, List.setIfInBounds_toArray, List.set_cons_zero, List.set_cons_succ])) | (refine wq_call 69 ?_ ?_; (focus (go_simp; done)); apply Exists.intro; refine ⟨fun w1 hw1 => ?_, ?_⟩; (focus (clear hw1; go_simp; (first | done | with_reducible rfl))); apply Exists.intro; refine ⟨fun w1 hw1 => ?_, ?_⟩; (focus (exact calls_below_same hw1 (by have h := max_ven (x - y) (y - x) w1; rw [← HMX.out] at h; exact h); done)); (try simp only [Act.put, List.setIfInBounds_toArray, List.set_cons_zero, List.set_cons_succ])))
    refine wq_nil ?_
    intro w2 hb2
    have HB2 := Lib.hid (bseq HB1.out hb2)
    have k3 := (hb2.cell (p := ⟨q, o + 2, none⟩) l1).trans c3
    have k4 := (hb2.cell (p := ⟨q2, o2 + 5, none⟩) l2).trans c4
    have k5 := (hb2.cell (p := ⟨q3, o3 + 2, none⟩) l3).trans c5
    have m1 := Nat.lt_of_lt_of_le l1 hb2.size
    have m2 := Nat.lt_of_lt_of_le l2 hb2.size
    have m3 := Nat.lt_of_lt_of_le l3 hb2.size
    clear hb2 c0 c1 c2 l1 l2 l3
    clear c3 c4 c5
    go_wp2
    refine wp_region_below (by kernel_rfl) (by kernel_rfl) ?_
    repeat (first | (refine wq_val ?_ ?_; (focus (go_simp; done)); apply Exists.intro; refine ⟨fun w1 hw1 => ?_, ?_⟩; (obtain ⟨hc, hf⟩ := bcell hw1; clear hw1; go_simp; (first | done | with_reducible rfl | (with_reducible exact eql2 _ _ _) | (with_reducible exact neq2 _ _ _))); (try simp only [Act.put, List.setIfInBounds_toArray, List.set_cons_zero, List.set_cons_succ])) | (refine wq_skip ?_ ?_; (focus (go_simp; (first | done | (simp [undef]; done)))); (try simp only [Act.put, List.setIfInBounds_toArray, List.set_cons_zero, List.set_cons_succ])) | (refine wq_call 71 ?_ ?_; (focus (go_simp; done)); apply Exists.intro; refine ⟨fun w1 hw1 => ?_, ?_⟩; (focus (clear hw1; go_simp; (first | done | with_reducible rfl))); apply Exists.intro; refine ⟨fun w1 hw1 => ?_, ?_⟩; (focus (exact calls_below_same hw1 (by have h := turned_ven u t w1 u0 u1 htt.1 htt.2; rw [HTG.out] at h; exact h); done)); (try simp only [Act.put, List.setIfInBounds_toArray, List.set_cons_zero, List.set_cons_succ])) | (refine wq_call 70 ?_ ?_; (focus (go_simp; done)); apply Exists.intro; refine ⟨fun w1 hw1 => ?_, ?_⟩; (focus (clear hw1; go_simp; (first | done | with_reducible rfl))); apply Exists.intro; refine ⟨fun w1 hw1 => ?_, ?_⟩; (focus (exact calls_below_same hw1 (by have h := angle_spec tg g w1 hu.1 (by omega) g0 (by omega); rw [HAN.out] at h; exact h); done)); (try simp only [Act.put, List.setIfInBounds_toArray, List.set_cons_zero, List.set_cons_succ])))
    refine wq_nil ?_
    intro w3 hb3
    have HB3 := Lib.hid (bseq HB2.out hb3)
    clear hb3
    go_wp2
    go_ret
    exact ⟨rfl, HB3.out⟩
  have hd : decide (rs < p) = false := by simpa using h1
  have hd2 : decide (ra < an) = false := by simpa using h2
  have HRR := Lib.hid (HR.out.trans (by rw [hs, hd, hd2]; try rfl))
  rw [HRR.out]
  clear h1
  clear h2
  go_enter Tryd.func37, Tryd.ntmps37
  go_wp2
  refine wp_region_below (by kernel_rfl) (by kernel_rfl) ?_
  repeat (first | (refine wq_val ?_ ?_; (focus (go_simp; done)); apply Exists.intro; refine ⟨fun w1 hw1 => ?_, ?_⟩; (obtain ⟨hc, hf⟩ := bcell hw1; clear hw1; go_simp; (first | done | with_reducible rfl | (with_reducible exact eql2 _ _ _) | (with_reducible exact neq2 _ _ _))); (try simp only [Act.put, List.setIfInBounds_toArray, List.set_cons_zero, List.set_cons_succ])) | (refine wq_skip ?_ ?_; (focus (go_simp; (first | done | (simp [undef]; done)))); (try simp only [Act.put, List.setIfInBounds_toArray, List.set_cons_zero, List.set_cons_succ])))
  refine wq_nil ?_
  intro w1 hb1
  have HB1 := Lib.hid hb1
  have c0 := (hb1.cell (p := ⟨q, o + 1, none⟩) hq1).trans a1
  have c1 := (hb1.cell (p := ⟨q2, o2 + 4, none⟩) hq2).trans d1
  have c2 := (hb1.cell (p := ⟨q3, o3 + 3, none⟩) hq3).trans b3
  have c3 := (hb1.cell (p := ⟨q, o + 2, none⟩) hq1).trans a2
  have c4 := (hb1.cell (p := ⟨q2, o2 + 5, none⟩) hq2).trans d2
  have c5 := (hb1.cell (p := ⟨q3, o3 + 2, none⟩) hq3).trans b2
  have l1 := Nat.lt_of_lt_of_le hq1 hb1.size
  have l2 := Nat.lt_of_lt_of_le hq2 hb1.size
  have l3 := Nat.lt_of_lt_of_le hq3 hb1.size
  clear hb1
  go_wp2
  refine wp_region_below (by kernel_rfl) (by kernel_rfl) ?_
  repeat (first | (refine wq_val ?_ ?_; (focus (go_simp; done)); apply Exists.intro; refine ⟨fun w1 hw1 => ?_, ?_⟩; (obtain ⟨hc, hf⟩ := bcell hw1; clear hw1; go_simp; (first | done | with_reducible rfl | (with_reducible exact eql2 _ _ _) | (with_reducible exact neq2 _ _ _))); (try simp only [Act.put, List.setIfInBounds_toArray, List.set_cons_zero, List.set_cons_succ])) | (refine wq_skip ?_ ?_; (focus (go_simp; (first | done | (simp [undef]; done)))); (try simp only [Act.put, List.setIfInBounds_toArray, List.set_cons_zero, List.set_cons_succ])) | (refine wq_call 69 ?_ ?_; (focus (go_simp; done)); apply Exists.intro; refine ⟨fun w1 hw1 => ?_, ?_⟩; (focus (clear hw1; go_simp; (first | done | with_reducible rfl))); apply Exists.intro; refine ⟨fun w1 hw1 => ?_, ?_⟩; (focus (exact calls_below_same hw1 (by have h := max_ven (x - y) (y - x) w1; rw [← HMX.out] at h; exact h); done)); (try simp only [Act.put, List.setIfInBounds_toArray, List.set_cons_zero, List.set_cons_succ])))
  refine wq_nil ?_
  intro w2 hb2
  have HB2 := Lib.hid (bseq HB1.out hb2)
  have k3 := (hb2.cell (p := ⟨q, o + 2, none⟩) l1).trans c3
  have k4 := (hb2.cell (p := ⟨q2, o2 + 5, none⟩) l2).trans c4
  have k5 := (hb2.cell (p := ⟨q3, o3 + 2, none⟩) l3).trans c5
  have m1 := Nat.lt_of_lt_of_le l1 hb2.size
  have m2 := Nat.lt_of_lt_of_le l2 hb2.size
  have m3 := Nat.lt_of_lt_of_le l3 hb2.size
  clear hb2 c0 c1 c2 l1 l2 l3
  clear c3 c4 c5
  go_wp2
  refine wp_region_below (by kernel_rfl) (by kernel_rfl) ?_
  repeat (first | (refine wq_val ?_ ?_; (focus (go_simp; done)); apply Exists.intro; refine ⟨fun w1 hw1 => ?_, ?_⟩; (obtain ⟨hc, hf⟩ := bcell hw1; clear hw1; go_simp; (first | done | with_reducible rfl | (with_reducible exact eql2 _ _ _) | (with_reducible exact neq2 _ _ _))); (try simp only [Act.put, List.setIfInBounds_toArray, List.set_cons_zero, List.set_cons_succ])) | (refine wq_skip ?_ ?_; (focus (go_simp; (first | done | (simp [undef]; done)))); (try simp only [Act.put, List.setIfInBounds_toArray, List.set_cons_zero, List.set_cons_succ])) | (refine wq_call 71 ?_ ?_; (focus (go_simp; done)); apply Exists.intro; refine ⟨fun w1 hw1 => ?_, ?_⟩; (focus (clear hw1; go_simp; (first | done | with_reducible rfl))); apply Exists.intro; refine ⟨fun w1 hw1 => ?_, ?_⟩; (focus (exact calls_below_same hw1 (by have h := turned_ven u t w1 u0 u1 htt.1 htt.2; rw [HTG.out] at h; exact h); done)); (try simp only [Act.put, List.setIfInBounds_toArray, List.set_cons_zero, List.set_cons_succ])) | (refine wq_call 70 ?_ ?_; (focus (go_simp; done)); apply Exists.intro; refine ⟨fun w1 hw1 => ?_, ?_⟩; (focus (clear hw1; go_simp; (first | done | with_reducible rfl))); apply Exists.intro; refine ⟨fun w1 hw1 => ?_, ?_⟩; (focus (exact calls_below_same hw1 (by have h := angle_spec tg g w1 hu.1 (by omega) g0 (by omega); rw [HAN.out] at h; exact h); done)); (try simp only [Act.put, List.setIfInBounds_toArray, List.set_cons_zero, List.set_cons_succ])))
  refine wq_nil ?_
  intro w3 hb3
  have HB3 := Lib.hid (bseq HB2.out hb3)
  clear hb3
  go_wp2
  go_ret
  exact ⟨rfl, HB3.out⟩
theorem st3 (w : World) (o1 o2 o3 : Obj) : (((w.alloc o1).alloc o2).alloc o3).heap[w.heap.size]? = some o1 ∧ (((w.alloc o1).alloc o2).alloc o3).heap[w.heap.size + 1]? = some o2 ∧ (((w.alloc o1).alloc o2).alloc o3).heap[w.heap.size + 1 + 1]? = some o3 := by
  have s1 : (w.alloc o1).heap.size = w.heap.size + 1 := by simp
  have s2 : ((w.alloc o1).alloc o2).heap.size = w.heap.size + 1 + 1 := by simp
  have a1 := World.alloc_heap_new w o1
  have a2 := World.alloc_heap_new (w.alloc o1) o2
  have a3 := World.alloc_heap_new ((w.alloc o1).alloc o2) o3
  rw [s1] at a2
  rw [s2] at a3
  refine ⟨?_, ?_, a3⟩
  · exact (Below.heap_alloc _ _ _ (by rw [s2]; omega)).trans ((Below.heap_alloc _ _ _ (by rw [s1]; omega)).trans a1)
  · exact (Below.heap_alloc _ _ _ (by rw [s2]; omega)).trans a2
set_option maxRecDepth 100000 in
set_option maxHeartbeats 8000000 in
theorem vf_rules (x y a b : Int) (s0 : ByteArray) (x0 g0 : Int) (s1 : ByteArray) (x1 g1 : Int) (t : Int) (w : World) (hv : vnB (s0, x0, g0) = true) (hz : vnB (s1, x1, g1) = true) (hr : ruB (x, y, a, b) = true) (ht : inI t 0 7 = true) :
    Calls Tryd.prog 45 #[.agg #[.int .i64 x, .int .i64 y, .int .i64 a, .int .i64 b], .agg #[.string s0, .int .i64 x0, .int .i64 g0], .agg #[.string s1, .int .i64 x1, .int .i64 g1], .int .i64 t] w fun e w' => e = .returned (.int .i64 (vfK (s0, x0, g0) (s1, x1, g1) t (x, y, a, b))) ∧ Below w.heap.size w w' := by
  obtain ⟨_, p0, p1, q0, q1⟩ := venB_ok hv
  obtain ⟨_, y0, y1, u0, u1⟩ := venB_ok hz
  have hrr := ruB_iff.1 hr
  have htt := inIb.1 ht
  simp only at *
  have hu := tuI_rng u0 u1 htt.1
  have HTGR := Lib.hid (show tgR g1 t = (tuI g1 t, 0) by unfold tgR; rw [show inI g1 0 179 = true from inIb.2 ⟨u0, u1⟩, ht]; rfl)
  have e1 : IntKind.i64.wrap (x0 - x1) = x0 - x1 := IntWalk.i64_in _ (by omega)
  have HMX := Lib.hid (show awy (x0 - x1) 0 = awy x0 x1 by unfold awy; split <;> split <;> omega)
  obtain ⟨p, hp⟩ : ∃ p, awy x0 x1 = p := ⟨_, rfl⟩
  obtain ⟨tg, htg⟩ : ∃ p, tuI g1 t = p := ⟨_, rfl⟩
  rw [htg] at hu HTGR
  obtain ⟨an, han⟩ : ∃ p, angI tg g0 = p := ⟨_, rfl⟩
  have HAN := Lib.hid han
  rw [hp] at HMX
  have HR := Lib.hid (show vfK (s0, x0, g0) (s1, x1, g1) t (x, y, a, b) = if !(s0.toList == s1.toList) then 2 else if decide (b < p) then 3 else if decide (a < an) then 4 else 0 by unfold vfK; simp only [hp, htg, han])
  have HK := Lib.hid (st3 w (.cells #[.int .i64 x, .int .i64 y, .int .i64 a, .int .i64 b] 49) (.cells #[.string s0, .int .i64 x0, .int .i64 g0] 43) (.cells #[.string s1, .int .i64 x1, .int .i64 g1] 43))
  have HA := Lib.hid (three_allocs (w := w) (.cells #[.int .i64 x, .int .i64 y, .int .i64 a, .int .i64 b] 49) (.cells #[.string s0, .int .i64 x0, .int .i64 g0] 43) (.cells #[.string s1, .int .i64 x1, .int .i64 g1] 43))
  clear hp htg han hv hz hr ht
  cases hs : (s0.toList == s1.toList) with
  | false =>
    have hsn : (s0.toList != s1.toList) = true := by rw [bne, hs]; rfl
    have HRR := Lib.hid (HR.out.trans (by rw [hs]; try rfl))
    rw [HRR.out]
    go_enter Tryd.func45, Tryd.ntmps45
    go_wp2_with fail
    refine (tg_impl g1 t _).mono ?_
    rintro e w1 ⟨rfl, rfl⟩
    rw [HTGR.out]
    go_wp2
    go_ret
    exact ⟨rfl, HA.out⟩
  | true =>
  have hsn : (s0.toList != s1.toList) = false := by rw [bne, hs]; rfl
  by_cases h1 : ¬ b < p
  rotate_left
  · skip
    have hd : decide (b < p) = true := by simpa using h1
    have HRR := Lib.hid (HR.out.trans (by rw [hs, hd]; try rfl))
    rw [HRR.out]
    clear h1
    go_enter Tryd.func45, Tryd.ntmps45
    go_wp2_with fail
    refine (tg_impl g1 t _).mono ?_
    rintro e w1 ⟨rfl, rfl⟩
    rw [HTGR.out]
    go_wp2
    refine wp_region_below (by kernel_rfl) (by kernel_rfl) ?_
    repeat (first | (refine wq_val ?_ ?_; (focus (go_simp; done)); apply Exists.intro; refine ⟨fun w1 hw1 => ?_, ?_⟩; (obtain ⟨hc, hf⟩ := bcell hw1; clear hw1; go_simp; (first | done | with_reducible rfl | (with_reducible exact eql2 _ _ _) | (with_reducible exact neq2 _ _ _))); (try simp only [Act.put, List.setIfInBounds_toArray, List.set_cons_zero, List.set_cons_succ])) | (refine wq_skip ?_ ?_; (focus (go_simp; (first | done | (simp [undef]; done)))); (try simp only [Act.put, List.setIfInBounds_toArray, List.set_cons_zero, List.set_cons_succ])) | (refine wq_call 82 ?_ ?_; (focus (go_simp; done)); apply Exists.intro; refine ⟨fun w1 hw1 => ?_, ?_⟩; (focus (clear hw1; go_simp; (first | done | with_reducible rfl))); apply Exists.intro; refine ⟨fun w1 hw1 => ?_, ?_⟩; (focus (exact calls_below_same hw1 (by have h := abs_ven (x0 - x1) w1 (by omega) (by omega); rw [HMX.out] at h; exact h); done)); (try simp only [Act.put, List.setIfInBounds_toArray, List.set_cons_zero, List.set_cons_succ])))
    refine wq_nil ?_
    intro w2 hb2
    have HB2 := Lib.hid (bseq HA.out hb2)
    clear hb2
    go_wp2
    go_ret
    exact ⟨rfl, HB2.out⟩
  by_cases h2 : ¬ a < an
  rotate_left
  · skip
    have hd : decide (b < p) = false := by simpa using h1
    have hd2 : decide (a < an) = true := by simpa using h2
    have HRR := Lib.hid (HR.out.trans (by rw [hs, hd, hd2]; try rfl))
    rw [HRR.out]
    clear h1
    clear h2
    go_enter Tryd.func45, Tryd.ntmps45
    go_wp2_with fail
    refine (tg_impl g1 t _).mono ?_
    rintro e w1 ⟨rfl, rfl⟩
    rw [HTGR.out]
    go_wp2
    refine wp_region_below (by kernel_rfl) (by kernel_rfl) ?_
    repeat (first | (refine wq_val ?_ ?_; (focus (go_simp; done)); apply Exists.intro; refine ⟨fun w1 hw1 => ?_, ?_⟩; (obtain ⟨hc, hf⟩ := bcell hw1; clear hw1; go_simp; (first | done | with_reducible rfl | (with_reducible exact eql2 _ _ _) | (with_reducible exact neq2 _ _ _))); (try simp only [Act.put, List.setIfInBounds_toArray, List.set_cons_zero, List.set_cons_succ])) | (refine wq_skip ?_ ?_; (focus (go_simp; (first | done | (simp [undef]; done)))); (try simp only [Act.put, List.setIfInBounds_toArray, List.set_cons_zero, List.set_cons_succ])) | (refine wq_call 82 ?_ ?_; (focus (go_simp; done)); apply Exists.intro; refine ⟨fun w1 hw1 => ?_, ?_⟩; (focus (clear hw1; go_simp; (first | done | with_reducible rfl))); apply Exists.intro; refine ⟨fun w1 hw1 => ?_, ?_⟩; (focus (exact calls_below_same hw1 (by have h := abs_ven (x0 - x1) w1 (by omega) (by omega); rw [HMX.out] at h; exact h); done)); (try simp only [Act.put, List.setIfInBounds_toArray, List.set_cons_zero, List.set_cons_succ])))
    refine wq_nil ?_
    intro w2 hb2
    have HB2 := Lib.hid (bseq HA.out hb2)
    have hk0 := (hb2.block _ (blk_lt HK.out.1)).trans HK.out.1
    have hk1 := (hb2.block _ (blk_lt HK.out.2.1)).trans HK.out.2.1
    have r2 := (cell_of_arr hk0 (j := 2) rfl).1
    have v2 := (cell_of_arr hk1 (j := 2) rfl).1
    have hz1 := blk_lt hk1
    have hz0 := blk_lt hk0
    clear hk0 hk1
    clear hb2
    go_wp2
    refine wp_region_below (by kernel_rfl) (by kernel_rfl) ?_
    repeat (first | (refine wq_val ?_ ?_; (focus (go_simp; done)); apply Exists.intro; refine ⟨fun w1 hw1 => ?_, ?_⟩; (obtain ⟨hc, hf⟩ := bcell hw1; clear hw1; go_simp; (first | done | with_reducible rfl | (with_reducible exact eql2 _ _ _) | (with_reducible exact neq2 _ _ _))); (try simp only [Act.put, List.setIfInBounds_toArray, List.set_cons_zero, List.set_cons_succ])) | (refine wq_skip ?_ ?_; (focus (go_simp; (first | done | (simp [undef]; done)))); (try simp only [Act.put, List.setIfInBounds_toArray, List.set_cons_zero, List.set_cons_succ])) | (refine wq_call 83 ?_ ?_; (focus (go_simp; done)); apply Exists.intro; refine ⟨fun w1 hw1 => ?_, ?_⟩; (focus (clear hw1; go_simp; (first | done | with_reducible rfl))); apply Exists.intro; refine ⟨fun w1 hw1 => ?_, ?_⟩; (focus (exact calls_below_same hw1 (by have h := angle_impl tg g0 w1 hu.1 (by omega) q0 (by omega); rw [HAN.out] at h; exact h); done)); (try simp only [Act.put, List.setIfInBounds_toArray, List.set_cons_zero, List.set_cons_succ])))
    refine wq_nil ?_
    intro w3 hb3
    have HB3 := Lib.hid (bseq HB2.out hb3)
    clear hb3
    go_wp2
    go_ret
    exact ⟨rfl, HB3.out⟩
  have hd : decide (b < p) = false := by simpa using h1
  have hd2 : decide (a < an) = false := by simpa using h2
  have HRR := Lib.hid (HR.out.trans (by rw [hs, hd, hd2]; try rfl))
  rw [HRR.out]
  clear h1
  clear h2
  go_enter Tryd.func45, Tryd.ntmps45
  go_wp2_with fail
  refine (tg_impl g1 t _).mono ?_
  rintro e w1 ⟨rfl, rfl⟩
  rw [HTGR.out]
  go_wp2
  refine wp_region_below (by kernel_rfl) (by kernel_rfl) ?_
  repeat (first | (refine wq_val ?_ ?_; (focus (go_simp; done)); apply Exists.intro; refine ⟨fun w1 hw1 => ?_, ?_⟩; (obtain ⟨hc, hf⟩ := bcell hw1; clear hw1; go_simp; (first | done | with_reducible rfl | (with_reducible exact eql2 _ _ _) | (with_reducible exact neq2 _ _ _))); (try simp only [Act.put, List.setIfInBounds_toArray, List.set_cons_zero, List.set_cons_succ])) | (refine wq_skip ?_ ?_; (focus (go_simp; (first | done | (simp [undef]; done)))); (try simp only [Act.put, List.setIfInBounds_toArray, List.set_cons_zero, List.set_cons_succ])) | (refine wq_call 82 ?_ ?_; (focus (go_simp; done)); apply Exists.intro; refine ⟨fun w1 hw1 => ?_, ?_⟩; (focus (clear hw1; go_simp; (first | done | with_reducible rfl))); apply Exists.intro; refine ⟨fun w1 hw1 => ?_, ?_⟩; (focus (exact calls_below_same hw1 (by have h := abs_ven (x0 - x1) w1 (by omega) (by omega); rw [HMX.out] at h; exact h); done)); (try simp only [Act.put, List.setIfInBounds_toArray, List.set_cons_zero, List.set_cons_succ])))
  refine wq_nil ?_
  intro w2 hb2
  have HB2 := Lib.hid (bseq HA.out hb2)
  have hk0 := (hb2.block _ (blk_lt HK.out.1)).trans HK.out.1
  have hk1 := (hb2.block _ (blk_lt HK.out.2.1)).trans HK.out.2.1
  have r2 := (cell_of_arr hk0 (j := 2) rfl).1
  have v2 := (cell_of_arr hk1 (j := 2) rfl).1
  have hz1 := blk_lt hk1
  have hz0 := blk_lt hk0
  clear hk0 hk1
  clear hb2
  go_wp2
  refine wp_region_below (by kernel_rfl) (by kernel_rfl) ?_
  repeat (first | (refine wq_val ?_ ?_; (focus (go_simp; done)); apply Exists.intro; refine ⟨fun w1 hw1 => ?_, ?_⟩; (obtain ⟨hc, hf⟩ := bcell hw1; clear hw1; go_simp; (first | done | with_reducible rfl | (with_reducible exact eql2 _ _ _) | (with_reducible exact neq2 _ _ _))); (try simp only [Act.put, List.setIfInBounds_toArray, List.set_cons_zero, List.set_cons_succ])) | (refine wq_skip ?_ ?_; (focus (go_simp; (first | done | (simp [undef]; done)))); (try simp only [Act.put, List.setIfInBounds_toArray, List.set_cons_zero, List.set_cons_succ])) | (refine wq_call 83 ?_ ?_; (focus (go_simp; done)); apply Exists.intro; refine ⟨fun w1 hw1 => ?_, ?_⟩; (focus (clear hw1; go_simp; (first | done | with_reducible rfl))); apply Exists.intro; refine ⟨fun w1 hw1 => ?_, ?_⟩; (focus (exact calls_below_same hw1 (by have h := angle_impl tg g0 w1 hu.1 (by omega) q0 (by omega); rw [HAN.out] at h; exact h); done)); (try simp only [Act.put, List.setIfInBounds_toArray, List.set_cons_zero, List.set_cons_succ])))
  refine wq_nil ?_
  intro w3 hb3
  have HB3 := Lib.hid (bseq HB2.out hb3)
  clear hb3
  go_wp2
  go_ret
  exact ⟨rfl, HB3.out⟩
end Go.Proofs.YtmfchcaidfloaaaDoor
