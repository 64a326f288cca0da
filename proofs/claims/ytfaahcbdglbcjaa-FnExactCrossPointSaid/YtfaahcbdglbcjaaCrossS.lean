/- CrossPoint of spec. -/
import Derived.Test.YtfaahcbdglbcjaaSegExp1
import Derived.Test.YtfaahcbdglbcjaaPlan
namespace Go.Proofs.Ytfaahcbdglbcjaa
open Go.ChangeShapes Go.WideShapes Go.ChangeAt Go.RowKit

set_option maxHeartbeats 1000000 in
theorem cpS_no (xa ya xb yb xc yc xd yd : Int) (w : World) (hv : (okI xa ya && okI xb yb && okI xc yc && okI xd yd) = false) :
    Calls Try.prog 37 #[.agg #[.int .i64 xa, .int .i64 ya], .agg #[.int .i64 xb, .int .i64 yb], .agg #[.int .i64 xc, .int .i64 yc], .agg #[.int .i64 xd, .int .i64 yd]] w fun e w' => e = .returned (.tuple #[.agg #[.int .i64 0, .int .i64 0], .int .i64 1]) ∧ Below w.heap.size w w' := by
  have HV := Lib.hid (show ok4 xa ya xb yb xc yc xd yd = false by rw [ok4_4]; exact hv)
  clear hv
  go_enter Try.func37, Try.ntmps37
  go_wp2_with fail
  refine (four_no xa ya xb yb xc yc xd yd _ HV.out).mono ?_
  rintro e w1 ⟨rfl, g1⟩
  obtain ⟨k1, q1⟩ := bcell g1
  have HW1 := Lib.hid g1
  clear g1
  go_wp2
  exact bodyPost_ret (v := .tuple #[.agg #[.int .i64 0, .int .i64 0], .int .i64 1]) (by simp [results, Try.results37, go_sem, k1]) rfl ⟨rfl, ((bseq (five_allocs _ _ _ _ _) HW1.out).setCell (by simp; omega) _).setCell (by simp; omega) _⟩
set_option maxHeartbeats 1000000 in
theorem cpS_apart (xa ya xb yb xc yc xd yd : Int) (w : World) (ha : okI xa ya = true) (hb : okI xb yb = true) (hc : okI xc yc = true) (hd : okI xd yd = true) (h0 : csB xa ya xb yb xc yc xd yd = false) :
    Calls Try.prog 37 #[.agg #[.int .i64 xa, .int .i64 ya], .agg #[.int .i64 xb, .int .i64 yb], .agg #[.int .i64 xc, .int .i64 yc], .agg #[.int .i64 xd, .int .i64 yd]] w fun e w' => e = .returned (.tuple #[.agg #[.int .i64 0, .int .i64 0], .int .i64 6]) ∧ Below w.heap.size w w' := by
  have hv := v4_of xa ya xb yb xc yc xd yd ha hb hc hd
  have HV := Lib.hid (show ok4 xa ya xb yb xc yc xd yd = true by rw [ok4_4]; exact hv)
  clear hv
  go_enter Try.func37, Try.ntmps37
  go_wp2_with fail
  refine (four_yes xa ya xb yb xc yc xd yd _ HV.out).mono ?_
  rintro e w1 ⟨rfl, g1⟩
  obtain ⟨k1, q1⟩ := bcell g1
  have HW1 := Lib.hid g1
  clear g1
  go_wp2_with fail
  refine (crosses_spec _ _ _ _ _ _ _ _ _ ha hb hc hd).mono ?_
  rintro e w2 ⟨rfl, g2⟩
  obtain ⟨k2, q2⟩ := bcell (bseq HW1.out g2)
  have HW2 := Lib.hid (bseq HW1.out g2)
  clear g2 k1 q1
  go_wp2
  exact bodyPost_ret (v := .tuple #[.agg #[.int .i64 0, .int .i64 0], .int .i64 6]) (by simp [results, Try.results37, go_sem, k2]) rfl ⟨rfl, ((bseq (five_allocs _ _ _ _ _) HW2.out).setCell (by simp; omega) _).setCell (by simp; omega) _⟩
theorem floor_of (N D : Int) (hD : 0 < D) : (N.tmod D < 0 → N.tdiv D - 1 = N / D) ∧ (0 ≤ N.tmod D → N.tdiv D = N / D) := by
  have e := Int.mul_tdiv_add_tmod N D
  have h1 : -D < N.tmod D := by
    have := Int.lt_tmod_of_pos N hD
    omega
  have h2 : N.tmod D < D := Int.tmod_lt_of_pos N hD
  constructor
  · intro h
    have h3 : (N.tmod D + D) + D * (N.tdiv D - 1) = N := by rw [Int.mul_sub]; omega
    have h4 : ((N.tmod D + D) + D * (N.tdiv D - 1)) / D = N.tdiv D - 1 := by
      rw [Int.add_mul_ediv_left _ _ (by omega), Int.ediv_eq_zero_of_lt (by omega) (by omega)]; omega
    rw [h3] at h4; exact h4.symm
  · intro h
    have h3 : N.tmod D + D * N.tdiv D = N := by omega
    have h4 : (N.tmod D + D * N.tdiv D) / D = N.tdiv D := by
      rw [Int.add_mul_ediv_left _ _ (by omega), Int.ediv_eq_zero_of_lt h h2]; omega
    rw [h3] at h4; exact h4.symm
theorem quo_bd (N D : Int) (hD : 0 < D) (h1 : -1000000000000000 ≤ N) (h2 : N ≤ 1000000000000000) : -1000000000000000 ≤ N / D ∧ N / D ≤ 1000000000000000 :=
  ⟨Int.le_ediv_of_mul_le hD (by omega), Int.ediv_le_of_le_mul hD (by omega)⟩
theorem near_spec (n d : Int) (w : World) (h1 : -100000000000000 ≤ n ∧ n ≤ 100000000000000) (h2 : 0 < d ∧ d ≤ 100000000000000) : Calls Try.prog 70 #[.int .i64 n, .int .i64 d] w fun e w' => e = .returned (.int .i64 ((2 * n + d) / (2 * d))) ∧ w = w' := by
  have hf := Lib.hid (floor_of (2 * n + d) (2 * d) (by omega))
  have hb := Lib.hid (quo_bd (2 * n + d) (2 * d) (by omega) (by omega) (by omega))
  by_cases h : (2 * n + d).tmod (2 * d) < 0
  · have e1 := Lib.hid (hf.out.1 h)
    go_enter Try.func70, Try.ntmps70
    go_wp2
    go_ret
    exact ⟨ret_int ((IntWalk.wrap64_in _ (by rw [e1.out]; have := hb.out; omega)).trans e1.out), rfl⟩
  · have e1 := Lib.hid (hf.out.2 (by omega))
    go_enter Try.func70, Try.ntmps70
    go_wp2
    go_ret
    exact ⟨ret_int e1.out, rfl⟩
set_option maxHeartbeats 4000000 in
theorem cpS_neg (xa ya xb yb xc yc xd yd : Int) (w : World) (ha : okI xa ya = true) (hb : okI xb yb = true) (hc : okI xc yc = true) (hd : okI xd yd = true) (h0 : csB xa ya xb yb xc yc xd yd = true) (hr : (xb - xa) * (yd - yc) - (yb - ya) * (xd - xc) < 0) :
    Calls Try.prog 37 #[.agg #[.int .i64 xa, .int .i64 ya], .agg #[.int .i64 xb, .int .i64 yb], .agg #[.int .i64 xc, .int .i64 yc], .agg #[.int .i64 xd, .int .i64 yd]] w fun e w' => e = .returned (.tuple #[.agg #[.int .i64 (cpX xa ya xb yb xc yc xd yd), .int .i64 (cpY xa ya xb yb xc yc xd yd)], .int .i64 0]) ∧ Below w.heap.size w w' := by
  have hv := v4_of xa ya xb yb xc yc xd yd ha hb hc hd
  have HV := Lib.hid (show ok4 xa ya xb yb xc yc xd yd = true by rw [ok4_4]; exact hv)
  clear hv
  have ba := ok_bd ha
  have bb := ok_bd hb
  have bc := ok_bd hc
  have bd := ok_bd hd
  have HA := Lib.hid ha
  have HB := Lib.hid hb
  have HC := Lib.hid hc
  have HD := Lib.hid hd
  clear ha hb hc hd
  have m1 := mulB (xb - xa) (yd - yc) 20000 20000 (by omega) (by omega) (by omega) (by omega)
  have m2 := mulB (yb - ya) (xd - xc) 20000 20000 (by omega) (by omega) (by omega) (by omega)
  have m3 := mulB (xc - xa) (yd - yc) 20000 20000 (by omega) (by omega) (by omega) (by omega)
  have m4 := mulB (yc - ya) (xd - xc) 20000 20000 (by omega) (by omega) (by omega) (by omega)
  have HX := Lib.hid (show xa + (2 * ((xb - xa) * (-((xc - xa) * (yd - yc) - (yc - ya) * (xd - xc)))) + (-((xb - xa) * (yd - yc) - (yb - ya) * (xd - xc)))) / (2 * (-((xb - xa) * (yd - yc) - (yb - ya) * (xd - xc)))) = cpX xa ya xb yb xc yc xd yd from by unfold cpX qhI rrI ttI; rw [if_pos hr, Int.mul_neg])
  have HY := Lib.hid (show ya + (2 * ((yb - ya) * (-((xc - xa) * (yd - yc) - (yc - ya) * (xd - xc)))) + (-((xb - xa) * (yd - yc) - (yb - ya) * (xd - xc)))) / (2 * (-((xb - xa) * (yd - yc) - (yb - ya) * (xd - xc)))) = cpY xa ya xb yb xc yc xd yd from by unfold cpY qhI rrI ttI; rw [if_pos hr, Int.mul_neg])
  go_enter Try.func37, Try.ntmps37
  go_wp2_with fail
  refine (four_yes xa ya xb yb xc yc xd yd _ HV.out).mono ?_
  rintro e w1 ⟨rfl, g1⟩
  obtain ⟨k1, q1⟩ := bcell g1
  have HW1 := Lib.hid g1
  clear g1
  go_wp2_with fail
  refine (crosses_spec _ _ _ _ _ _ _ _ _ HA.out HB.out HC.out HD.out).mono ?_
  rintro e w2 ⟨rfl, g2⟩
  obtain ⟨k2, q2⟩ := bcell (bseq HW1.out g2)
  have HW2 := Lib.hid (bseq HW1.out g2)
  clear g2 k1 q1
  have N4 : w.heap.size + 1 + 1 + 1 + 1 < w2.heap.size := by have := HW2.out.size; simp at this; omega
  have HO4 : w2.heap[w.heap.size + 1 + 1 + 1 + 1]? = some (.cells #[.int .i64 0, .int .i64 0] 25 (0, 0)) := (HW2.out.block _ (by simp)).trans (by have := (madeAt_alloc ((((w.alloc (.cells #[.int .i64 xa, .int .i64 ya] 25)).alloc (.cells #[.int .i64 xb, .int .i64 yb] 25)).alloc (.cells #[.int .i64 xc, .int .i64 yc] 25)).alloc (.cells #[.int .i64 xd, .int .i64 yd] 25)) (.cells #[.int .i64 0, .int .i64 0] 25 (0, 0))).here; simpa using this)
  have HO5 := Lib.hid HO4
  clear HO4
  go_wp2
  have HO4 := HO5.out
  have bR : 0 < -((xb - xa) * (yd - yc) - (yb - ya) * (xd - xc)) ∧ -((xb - xa) * (yd - yc) - (yb - ya) * (xd - xc)) ≤ 800000000 := by omega
  have bT : -800000000 ≤ -((xc - xa) * (yd - yc) - (yc - ya) * (xd - xc)) ∧ -((xc - xa) * (yd - yc) - (yc - ya) * (xd - xc)) ≤ 800000000 := by omega
  clear m1 m2 m3 m4 hr k2 q2 HO5
  generalize -((xb - xa) * (yd - yc) - (yb - ya) * (xd - xc)) = RR at *
  generalize -((xc - xa) * (yd - yc) - (yc - ya) * (xd - xc)) = TT at *
  have px := mulB (xb - xa) TT 20000 800000000 (by omega) (by omega) (by omega) (by omega)
  have rx := quo_bd (2 * ((xb - xa) * TT) + RR) (2 * RR) (by omega) (by omega) (by omega)
  have py := mulB (yb - ya) TT 20000 800000000 (by omega) (by omega) (by omega) (by omega)
  have ry := quo_bd (2 * ((yb - ya) * TT) + RR) (2 * RR) (by omega) (by omega) (by omega)
  have E2x : IntKind.i64.wrap (xa + (2 * ((xb - xa) * TT) + RR) / (2 * RR)) = xa + (2 * ((xb - xa) * TT) + RR) / (2 * RR) := IntWalk.i64_in _ (by omega)
  have E1x : IntKind.i64.wrap ((xb - xa) * TT) = (xb - xa) * TT := IntWalk.i64_in _ (by omega)
  have E0x : IntKind.i64.wrap (xb - xa) = xb - xa := IntWalk.i64_in _ (by omega)
  have E2y : IntKind.i64.wrap (ya + (2 * ((yb - ya) * TT) + RR) / (2 * RR)) = ya + (2 * ((yb - ya) * TT) + RR) / (2 * RR) := IntWalk.i64_in _ (by omega)
  have E1y : IntKind.i64.wrap ((yb - ya) * TT) = (yb - ya) * TT := IntWalk.i64_in _ (by omega)
  have E0y : IntKind.i64.wrap (yb - ya) = yb - ya := IntWalk.i64_in _ (by omega)
  refine wp_region_plan_own ((((w.alloc (.cells #[.int .i64 xa, .int .i64 ya] 25)).alloc (.cells #[.int .i64 xb, .int .i64 yb] 25)).alloc (.cells #[.int .i64 xc, .int .i64 yc] 25)).alloc (.cells #[.int .i64 xd, .int .i64 yd] 25)) 99 (w.heap.size + 1 + 1 + 1 + 1) (.cells #[.int .i64 0, .int .i64 0] 25 (0, 0)) [.val 0 [] (.pointer (some ⟨w.heap.size, 0, none⟩)), .val 1 [] (.int .i64 (xa)), .val 2 [] (.pointer (some ⟨w.heap.size + 1, 0, none⟩)), .val 3 [] (.int .i64 (xb)), .val 4 [] (.pointer (some ⟨w.heap.size, 0, none⟩)), .val 5 [] (.int .i64 (xa)), .val 6 [] (.int .i64 (xb - xa)), .val 7 [] (.int .i64 (TT)), .val 8 [] (.int .i64 ((xb - xa) * TT)), .val 9 [] (.int .i64 (RR)), .val 10 [] (.int .i64 ((2 * ((xb - xa) * TT) + RR) / (2 * RR))), .val 11 [] (.int .i64 (xa + (2 * ((xb - xa) * TT) + RR) / (2 * RR))), .val 12 [] (.pointer (some ⟨w.heap.size, 1, none⟩)), .val 13 [] (.int .i64 (ya)), .val 14 [] (.pointer (some ⟨w.heap.size + 1, 1, none⟩)), .val 15 [] (.int .i64 (yb)), .val 16 [] (.pointer (some ⟨w.heap.size, 1, none⟩)), .val 17 [] (.int .i64 (ya)), .val 18 [] (.int .i64 (yb - ya)), .val 19 [] (.int .i64 (TT)), .val 20 [] (.int .i64 ((yb - ya) * TT)), .val 21 [] (.int .i64 (RR)), .val 22 [] (.int .i64 ((2 * ((yb - ya) * TT) + RR) / (2 * RR))), .val 23 [] (.int .i64 (ya + (2 * ((yb - ya) * TT) + RR) / (2 * RR))), .val 24 [] (.agg #[.int .i64 (xa + (2 * ((xb - xa) * TT) + RR) / (2 * RR)), .int .i64 (ya + (2 * ((yb - ya) * TT) + RR) / (2 * RR))]), .put 25 99 (.cells #[.int .i64 (xa + (2 * ((xb - xa) * TT) + RR) / (2 * RR)), .int .i64 (ya + (2 * ((yb - ya) * TT) + RR) / (2 * RR))] 25 (0, 0)), .val 26 [] (.int .i64 0)] (by kernel_rfl) (by kernel_rfl) rfl (of_decide_eq_true (by kernel_rfl)) (bseq (one_alloc _) HW2.out) (by simp) N4 HO4 ?_
  refine plan_val (by kernel_rfl) (by kernel_rfl) (by kernel_rfl) (by go_simp) (fun w1 hw1 => ?_) ?_
  · obtain ⟨hc, hf⟩ := bcell hw1; clear hw1; go_simp; (try with_reducible rfl)
  (try simp only [Act.put, List.setIfInBounds_toArray, List.set_cons_zero, List.set_cons_succ])
  refine plan_val (by kernel_rfl) (by kernel_rfl) (by kernel_rfl) (by go_simp) (fun w1 hw1 => ?_) ?_
  · obtain ⟨hc, hf⟩ := bcell hw1; clear hw1; go_simp; (try with_reducible rfl)
  (try simp only [Act.put, List.setIfInBounds_toArray, List.set_cons_zero, List.set_cons_succ])
  refine plan_val (by kernel_rfl) (by kernel_rfl) (by kernel_rfl) (by go_simp) (fun w1 hw1 => ?_) ?_
  · obtain ⟨hc, hf⟩ := bcell hw1; clear hw1; go_simp; (try with_reducible rfl)
  (try simp only [Act.put, List.setIfInBounds_toArray, List.set_cons_zero, List.set_cons_succ])
  refine plan_val (by kernel_rfl) (by kernel_rfl) (by kernel_rfl) (by go_simp) (fun w1 hw1 => ?_) ?_
  · obtain ⟨hc, hf⟩ := bcell hw1; clear hw1; go_simp; (try with_reducible rfl)
  (try simp only [Act.put, List.setIfInBounds_toArray, List.set_cons_zero, List.set_cons_succ])
  refine plan_val (by kernel_rfl) (by kernel_rfl) (by kernel_rfl) (by go_simp) (fun w1 hw1 => ?_) ?_
  · obtain ⟨hc, hf⟩ := bcell hw1; clear hw1; go_simp; (try with_reducible rfl)
  (try simp only [Act.put, List.setIfInBounds_toArray, List.set_cons_zero, List.set_cons_succ])
  refine plan_val (by kernel_rfl) (by kernel_rfl) (by kernel_rfl) (by go_simp) (fun w1 hw1 => ?_) ?_
  · obtain ⟨hc, hf⟩ := bcell hw1; clear hw1; go_simp; (try with_reducible rfl)
  (try simp only [Act.put, List.setIfInBounds_toArray, List.set_cons_zero, List.set_cons_succ])
  refine plan_val (by kernel_rfl) (by kernel_rfl) (by kernel_rfl) (by go_simp) (fun w1 hw1 => ?_) ?_
  · obtain ⟨hc, hf⟩ := bcell hw1; clear hw1; go_simp; (try with_reducible rfl)
  (try simp only [Act.put, List.setIfInBounds_toArray, List.set_cons_zero, List.set_cons_succ])
  refine plan_val (by kernel_rfl) (by kernel_rfl) (by kernel_rfl) (by go_simp) (fun w1 hw1 => ?_) ?_
  · obtain ⟨hc, hf⟩ := bcell hw1; clear hw1; go_simp; (try with_reducible rfl)
  (try simp only [Act.put, List.setIfInBounds_toArray, List.set_cons_zero, List.set_cons_succ])
  refine plan_val (by kernel_rfl) (by kernel_rfl) (by kernel_rfl) (by go_simp) (fun w1 hw1 => ?_) ?_
  · obtain ⟨hc, hf⟩ := bcell hw1; clear hw1; go_simp; (try with_reducible rfl)
  (try simp only [Act.put, List.setIfInBounds_toArray, List.set_cons_zero, List.set_cons_succ])
  refine plan_val (by kernel_rfl) (by kernel_rfl) (by kernel_rfl) (by go_simp) (fun w1 hw1 => ?_) ?_
  · obtain ⟨hc, hf⟩ := bcell hw1; clear hw1; go_simp; (try with_reducible rfl)
  (try simp only [Act.put, List.setIfInBounds_toArray, List.set_cons_zero, List.set_cons_succ])
  refine plan_call [] 70 #[.int .i64 ((xb - xa) * TT), .int .i64 (RR)] (by kernel_rfl) (by kernel_rfl) (by kernel_rfl) (by kernel_rfl) (by go_simp) (fun w1 hw1 => ?_) (fun w1 hC => ?_) ?_
  · clear hw1; go_simp; (try with_reducible rfl)
  · exact (near_spec _ _ _ (by omega) (by omega)).mono (fun _ _ h => ⟨h.1, h.2 ▸ Below.refl _ _⟩)
  (try simp only [Act.put, List.setIfInBounds_toArray, List.set_cons_zero, List.set_cons_succ])
  refine plan_val (by kernel_rfl) (by kernel_rfl) (by kernel_rfl) (by go_simp) (fun w1 hw1 => ?_) ?_
  · obtain ⟨hc, hf⟩ := bcell hw1; clear hw1; go_simp; (try with_reducible rfl)
  (try simp only [Act.put, List.setIfInBounds_toArray, List.set_cons_zero, List.set_cons_succ])
  refine plan_val (by kernel_rfl) (by kernel_rfl) (by kernel_rfl) (by go_simp) (fun w1 hw1 => ?_) ?_
  · obtain ⟨hc, hf⟩ := bcell hw1; clear hw1; go_simp; (try with_reducible rfl)
  (try simp only [Act.put, List.setIfInBounds_toArray, List.set_cons_zero, List.set_cons_succ])
  refine plan_val (by kernel_rfl) (by kernel_rfl) (by kernel_rfl) (by go_simp) (fun w1 hw1 => ?_) ?_
  · obtain ⟨hc, hf⟩ := bcell hw1; clear hw1; go_simp; (try with_reducible rfl)
  (try simp only [Act.put, List.setIfInBounds_toArray, List.set_cons_zero, List.set_cons_succ])
  refine plan_val (by kernel_rfl) (by kernel_rfl) (by kernel_rfl) (by go_simp) (fun w1 hw1 => ?_) ?_
  · obtain ⟨hc, hf⟩ := bcell hw1; clear hw1; go_simp; (try with_reducible rfl)
  (try simp only [Act.put, List.setIfInBounds_toArray, List.set_cons_zero, List.set_cons_succ])
  refine plan_val (by kernel_rfl) (by kernel_rfl) (by kernel_rfl) (by go_simp) (fun w1 hw1 => ?_) ?_
  · obtain ⟨hc, hf⟩ := bcell hw1; clear hw1; go_simp; (try with_reducible rfl)
  (try simp only [Act.put, List.setIfInBounds_toArray, List.set_cons_zero, List.set_cons_succ])
  refine plan_val (by kernel_rfl) (by kernel_rfl) (by kernel_rfl) (by go_simp) (fun w1 hw1 => ?_) ?_
  · obtain ⟨hc, hf⟩ := bcell hw1; clear hw1; go_simp; (try with_reducible rfl)
  (try simp only [Act.put, List.setIfInBounds_toArray, List.set_cons_zero, List.set_cons_succ])
  refine plan_val (by kernel_rfl) (by kernel_rfl) (by kernel_rfl) (by go_simp) (fun w1 hw1 => ?_) ?_
  · obtain ⟨hc, hf⟩ := bcell hw1; clear hw1; go_simp; (try with_reducible rfl)
  (try simp only [Act.put, List.setIfInBounds_toArray, List.set_cons_zero, List.set_cons_succ])
  refine plan_val (by kernel_rfl) (by kernel_rfl) (by kernel_rfl) (by go_simp) (fun w1 hw1 => ?_) ?_
  · obtain ⟨hc, hf⟩ := bcell hw1; clear hw1; go_simp; (try with_reducible rfl)
  (try simp only [Act.put, List.setIfInBounds_toArray, List.set_cons_zero, List.set_cons_succ])
  refine plan_val (by kernel_rfl) (by kernel_rfl) (by kernel_rfl) (by go_simp) (fun w1 hw1 => ?_) ?_
  · obtain ⟨hc, hf⟩ := bcell hw1; clear hw1; go_simp; (try with_reducible rfl)
  (try simp only [Act.put, List.setIfInBounds_toArray, List.set_cons_zero, List.set_cons_succ])
  refine plan_val (by kernel_rfl) (by kernel_rfl) (by kernel_rfl) (by go_simp) (fun w1 hw1 => ?_) ?_
  · obtain ⟨hc, hf⟩ := bcell hw1; clear hw1; go_simp; (try with_reducible rfl)
  (try simp only [Act.put, List.setIfInBounds_toArray, List.set_cons_zero, List.set_cons_succ])
  refine plan_val (by kernel_rfl) (by kernel_rfl) (by kernel_rfl) (by go_simp) (fun w1 hw1 => ?_) ?_
  · obtain ⟨hc, hf⟩ := bcell hw1; clear hw1; go_simp; (try with_reducible rfl)
  (try simp only [Act.put, List.setIfInBounds_toArray, List.set_cons_zero, List.set_cons_succ])
  refine plan_call [] 70 #[.int .i64 ((yb - ya) * TT), .int .i64 (RR)] (by kernel_rfl) (by kernel_rfl) (by kernel_rfl) (by kernel_rfl) (by go_simp) (fun w1 hw1 => ?_) (fun w1 hC => ?_) ?_
  · clear hw1; go_simp; (try with_reducible rfl)
  · exact (near_spec _ _ _ (by omega) (by omega)).mono (fun _ _ h => ⟨h.1, h.2 ▸ Below.refl _ _⟩)
  (try simp only [Act.put, List.setIfInBounds_toArray, List.set_cons_zero, List.set_cons_succ])
  refine plan_val (by kernel_rfl) (by kernel_rfl) (by kernel_rfl) (by go_simp) (fun w1 hw1 => ?_) ?_
  · obtain ⟨hc, hf⟩ := bcell hw1; clear hw1; go_simp; (try with_reducible rfl)
  (try simp only [Act.put, List.setIfInBounds_toArray, List.set_cons_zero, List.set_cons_succ])
  refine plan_val (by kernel_rfl) (by kernel_rfl) (by kernel_rfl) (by go_simp) (fun w1 hw1 => ?_) ?_
  · obtain ⟨hc, hf⟩ := bcell hw1; clear hw1; go_simp; (try with_reducible rfl)
  (try simp only [Act.put, List.setIfInBounds_toArray, List.set_cons_zero, List.set_cons_succ])
  refine plan_put (p := w.heap.size + 1 + 1 + 1 + 1) (by kernel_rfl) (by kernel_rfl) (by kernel_rfl) (by kernel_rfl) (by go_simp) (rfl) (fun w1 hg hh => ?_) ?_
  · obtain ⟨c0, f0, c1, f1⟩ := cells2_of hh
    refine ⟨_, ?_, stored2 hh⟩
    clear hh hg; go_simp; (try with_reducible rfl)
  (try simp only [Act.put])
  refine plan_val (by kernel_rfl) (by kernel_rfl) (by kernel_rfl) (by go_simp) (fun w1 hw1 => ?_) ?_
  · obtain ⟨hc, hf⟩ := bcell hw1; clear hw1; go_simp; (try with_reducible rfl)
  (try simp only [Act.put, List.setIfInBounds_toArray, List.set_cons_zero, List.set_cons_succ])
  refine plan_done (by kernel_rfl) (fun w3 hC => ?_)
  clear E0x E1x E2x E0y E1y E2y
  obtain ⟨y1, y2, y3⟩ := hC.2 ⟨99, _, _⟩ (Or.inr ⟨_, rfl, rfl, rfl⟩)
  obtain ⟨c0, f0, c1, f1⟩ := cells2_of y3
  have HB3 := Lib.hid hC.1
  clear hC y1 y2 y3 f0 f1
  go_wp2
  exact bodyPost_ret (v := .tuple #[.agg #[.int .i64 (xa + (2 * ((xb - xa) * TT) + RR) / (2 * RR)), .int .i64 (ya + (2 * ((yb - ya) * TT) + RR) / (2 * RR))], .int .i64 0]) (by simp [results, Try.results37, go_sem, c0, c1]) rfl ⟨by rw [HX.out, HY.out], bseq (four_allocs _ _ _ _) HB3.out⟩
set_option maxHeartbeats 4000000 in
theorem cpS_pos (xa ya xb yb xc yc xd yd : Int) (w : World) (ha : okI xa ya = true) (hb : okI xb yb = true) (hc : okI xc yc = true) (hd : okI xd yd = true) (h0 : csB xa ya xb yb xc yc xd yd = true) (hr : 0 < (xb - xa) * (yd - yc) - (yb - ya) * (xd - xc)) :
    Calls Try.prog 37 #[.agg #[.int .i64 xa, .int .i64 ya], .agg #[.int .i64 xb, .int .i64 yb], .agg #[.int .i64 xc, .int .i64 yc], .agg #[.int .i64 xd, .int .i64 yd]] w fun e w' => e = .returned (.tuple #[.agg #[.int .i64 (cpX xa ya xb yb xc yc xd yd), .int .i64 (cpY xa ya xb yb xc yc xd yd)], .int .i64 0]) ∧ Below w.heap.size w w' := by
  have hv := v4_of xa ya xb yb xc yc xd yd ha hb hc hd
  have HV := Lib.hid (show ok4 xa ya xb yb xc yc xd yd = true by rw [ok4_4]; exact hv)
  clear hv
  have ba := ok_bd ha
  have bb := ok_bd hb
  have bc := ok_bd hc
  have bd := ok_bd hd
  have HA := Lib.hid ha
  have HB := Lib.hid hb
  have HC := Lib.hid hc
  have HD := Lib.hid hd
  clear ha hb hc hd
  have m1 := mulB (xb - xa) (yd - yc) 20000 20000 (by omega) (by omega) (by omega) (by omega)
  have m2 := mulB (yb - ya) (xd - xc) 20000 20000 (by omega) (by omega) (by omega) (by omega)
  have m3 := mulB (xc - xa) (yd - yc) 20000 20000 (by omega) (by omega) (by omega) (by omega)
  have m4 := mulB (yc - ya) (xd - xc) 20000 20000 (by omega) (by omega) (by omega) (by omega)
  have HX := Lib.hid (show xa + (2 * ((xb - xa) * ((xc - xa) * (yd - yc) - (yc - ya) * (xd - xc))) + ((xb - xa) * (yd - yc) - (yb - ya) * (xd - xc))) / (2 * ((xb - xa) * (yd - yc) - (yb - ya) * (xd - xc))) = cpX xa ya xb yb xc yc xd yd from by unfold cpX qhI rrI ttI; rw [if_neg (by omega)])
  have HY := Lib.hid (show ya + (2 * ((yb - ya) * ((xc - xa) * (yd - yc) - (yc - ya) * (xd - xc))) + ((xb - xa) * (yd - yc) - (yb - ya) * (xd - xc))) / (2 * ((xb - xa) * (yd - yc) - (yb - ya) * (xd - xc))) = cpY xa ya xb yb xc yc xd yd from by unfold cpY qhI rrI ttI; rw [if_neg (by omega)])
  go_enter Try.func37, Try.ntmps37
  go_wp2_with fail
  refine (four_yes xa ya xb yb xc yc xd yd _ HV.out).mono ?_
  rintro e w1 ⟨rfl, g1⟩
  obtain ⟨k1, q1⟩ := bcell g1
  have HW1 := Lib.hid g1
  clear g1
  go_wp2_with fail
  refine (crosses_spec _ _ _ _ _ _ _ _ _ HA.out HB.out HC.out HD.out).mono ?_
  rintro e w2 ⟨rfl, g2⟩
  obtain ⟨k2, q2⟩ := bcell (bseq HW1.out g2)
  have HW2 := Lib.hid (bseq HW1.out g2)
  clear g2 k1 q1
  have N4 : w.heap.size + 1 + 1 + 1 + 1 < w2.heap.size := by have := HW2.out.size; simp at this; omega
  have HO4 : w2.heap[w.heap.size + 1 + 1 + 1 + 1]? = some (.cells #[.int .i64 0, .int .i64 0] 25 (0, 0)) := (HW2.out.block _ (by simp)).trans (by have := (madeAt_alloc ((((w.alloc (.cells #[.int .i64 xa, .int .i64 ya] 25)).alloc (.cells #[.int .i64 xb, .int .i64 yb] 25)).alloc (.cells #[.int .i64 xc, .int .i64 yc] 25)).alloc (.cells #[.int .i64 xd, .int .i64 yd] 25)) (.cells #[.int .i64 0, .int .i64 0] 25 (0, 0))).here; simpa using this)
  have HO5 := Lib.hid HO4
  clear HO4
  go_wp2
  have HO4 := HO5.out
  have bR : 0 < (xb - xa) * (yd - yc) - (yb - ya) * (xd - xc) ∧ (xb - xa) * (yd - yc) - (yb - ya) * (xd - xc) ≤ 800000000 := by omega
  have bT : -800000000 ≤ (xc - xa) * (yd - yc) - (yc - ya) * (xd - xc) ∧ (xc - xa) * (yd - yc) - (yc - ya) * (xd - xc) ≤ 800000000 := by omega
  clear m1 m2 m3 m4 hr k2 q2 HO5
  generalize (xb - xa) * (yd - yc) - (yb - ya) * (xd - xc) = RR at *
  generalize (xc - xa) * (yd - yc) - (yc - ya) * (xd - xc) = TT at *
  have px := mulB (xb - xa) TT 20000 800000000 (by omega) (by omega) (by omega) (by omega)
  have rx := quo_bd (2 * ((xb - xa) * TT) + RR) (2 * RR) (by omega) (by omega) (by omega)
  have py := mulB (yb - ya) TT 20000 800000000 (by omega) (by omega) (by omega) (by omega)
  have ry := quo_bd (2 * ((yb - ya) * TT) + RR) (2 * RR) (by omega) (by omega) (by omega)
  have E2x : IntKind.i64.wrap (xa + (2 * ((xb - xa) * TT) + RR) / (2 * RR)) = xa + (2 * ((xb - xa) * TT) + RR) / (2 * RR) := IntWalk.i64_in _ (by omega)
  have E1x : IntKind.i64.wrap ((xb - xa) * TT) = (xb - xa) * TT := IntWalk.i64_in _ (by omega)
  have E0x : IntKind.i64.wrap (xb - xa) = xb - xa := IntWalk.i64_in _ (by omega)
  have E2y : IntKind.i64.wrap (ya + (2 * ((yb - ya) * TT) + RR) / (2 * RR)) = ya + (2 * ((yb - ya) * TT) + RR) / (2 * RR) := IntWalk.i64_in _ (by omega)
  have E1y : IntKind.i64.wrap ((yb - ya) * TT) = (yb - ya) * TT := IntWalk.i64_in _ (by omega)
  have E0y : IntKind.i64.wrap (yb - ya) = yb - ya := IntWalk.i64_in _ (by omega)
  refine wp_region_plan_own ((((w.alloc (.cells #[.int .i64 xa, .int .i64 ya] 25)).alloc (.cells #[.int .i64 xb, .int .i64 yb] 25)).alloc (.cells #[.int .i64 xc, .int .i64 yc] 25)).alloc (.cells #[.int .i64 xd, .int .i64 yd] 25)) 99 (w.heap.size + 1 + 1 + 1 + 1) (.cells #[.int .i64 0, .int .i64 0] 25 (0, 0)) [.val 0 [] (.pointer (some ⟨w.heap.size, 0, none⟩)), .val 1 [] (.int .i64 (xa)), .val 2 [] (.pointer (some ⟨w.heap.size + 1, 0, none⟩)), .val 3 [] (.int .i64 (xb)), .val 4 [] (.pointer (some ⟨w.heap.size, 0, none⟩)), .val 5 [] (.int .i64 (xa)), .val 6 [] (.int .i64 (xb - xa)), .val 7 [] (.int .i64 (TT)), .val 8 [] (.int .i64 ((xb - xa) * TT)), .val 9 [] (.int .i64 (RR)), .val 10 [] (.int .i64 ((2 * ((xb - xa) * TT) + RR) / (2 * RR))), .val 11 [] (.int .i64 (xa + (2 * ((xb - xa) * TT) + RR) / (2 * RR))), .val 12 [] (.pointer (some ⟨w.heap.size, 1, none⟩)), .val 13 [] (.int .i64 (ya)), .val 14 [] (.pointer (some ⟨w.heap.size + 1, 1, none⟩)), .val 15 [] (.int .i64 (yb)), .val 16 [] (.pointer (some ⟨w.heap.size, 1, none⟩)), .val 17 [] (.int .i64 (ya)), .val 18 [] (.int .i64 (yb - ya)), .val 19 [] (.int .i64 (TT)), .val 20 [] (.int .i64 ((yb - ya) * TT)), .val 21 [] (.int .i64 (RR)), .val 22 [] (.int .i64 ((2 * ((yb - ya) * TT) + RR) / (2 * RR))), .val 23 [] (.int .i64 (ya + (2 * ((yb - ya) * TT) + RR) / (2 * RR))), .val 24 [] (.agg #[.int .i64 (xa + (2 * ((xb - xa) * TT) + RR) / (2 * RR)), .int .i64 (ya + (2 * ((yb - ya) * TT) + RR) / (2 * RR))]), .put 25 99 (.cells #[.int .i64 (xa + (2 * ((xb - xa) * TT) + RR) / (2 * RR)), .int .i64 (ya + (2 * ((yb - ya) * TT) + RR) / (2 * RR))] 25 (0, 0)), .val 26 [] (.int .i64 0)] (by kernel_rfl) (by kernel_rfl) rfl (of_decide_eq_true (by kernel_rfl)) (bseq (one_alloc _) HW2.out) (by simp) N4 HO4 ?_
  refine plan_val (by kernel_rfl) (by kernel_rfl) (by kernel_rfl) (by go_simp) (fun w1 hw1 => ?_) ?_
  · obtain ⟨hc, hf⟩ := bcell hw1; clear hw1; go_simp; (try with_reducible rfl)
  (try simp only [Act.put, List.setIfInBounds_toArray, List.set_cons_zero, List.set_cons_succ])
  refine plan_val (by kernel_rfl) (by kernel_rfl) (by kernel_rfl) (by go_simp) (fun w1 hw1 => ?_) ?_
  · obtain ⟨hc, hf⟩ := bcell hw1; clear hw1; go_simp; (try with_reducible rfl)
  (try simp only [Act.put, List.setIfInBounds_toArray, List.set_cons_zero, List.set_cons_succ])
  refine plan_val (by kernel_rfl) (by kernel_rfl) (by kernel_rfl) (by go_simp) (fun w1 hw1 => ?_) ?_
  · obtain ⟨hc, hf⟩ := bcell hw1; clear hw1; go_simp; (try with_reducible rfl)
  (try simp only [Act.put, List.setIfInBounds_toArray, List.set_cons_zero, List.set_cons_succ])
  refine plan_val (by kernel_rfl) (by kernel_rfl) (by kernel_rfl) (by go_simp) (fun w1 hw1 => ?_) ?_
  · obtain ⟨hc, hf⟩ := bcell hw1; clear hw1; go_simp; (try with_reducible rfl)
  (try simp only [Act.put, List.setIfInBounds_toArray, List.set_cons_zero, List.set_cons_succ])
  refine plan_val (by kernel_rfl) (by kernel_rfl) (by kernel_rfl) (by go_simp) (fun w1 hw1 => ?_) ?_
  · obtain ⟨hc, hf⟩ := bcell hw1; clear hw1; go_simp; (try with_reducible rfl)
  (try simp only [Act.put, List.setIfInBounds_toArray, List.set_cons_zero, List.set_cons_succ])
  refine plan_val (by kernel_rfl) (by kernel_rfl) (by kernel_rfl) (by go_simp) (fun w1 hw1 => ?_) ?_
  · obtain ⟨hc, hf⟩ := bcell hw1; clear hw1; go_simp; (try with_reducible rfl)
  (try simp only [Act.put, List.setIfInBounds_toArray, List.set_cons_zero, List.set_cons_succ])
  refine plan_val (by kernel_rfl) (by kernel_rfl) (by kernel_rfl) (by go_simp) (fun w1 hw1 => ?_) ?_
  · obtain ⟨hc, hf⟩ := bcell hw1; clear hw1; go_simp; (try with_reducible rfl)
  (try simp only [Act.put, List.setIfInBounds_toArray, List.set_cons_zero, List.set_cons_succ])
  refine plan_val (by kernel_rfl) (by kernel_rfl) (by kernel_rfl) (by go_simp) (fun w1 hw1 => ?_) ?_
  · obtain ⟨hc, hf⟩ := bcell hw1; clear hw1; go_simp; (try with_reducible rfl)
  (try simp only [Act.put, List.setIfInBounds_toArray, List.set_cons_zero, List.set_cons_succ])
  refine plan_val (by kernel_rfl) (by kernel_rfl) (by kernel_rfl) (by go_simp) (fun w1 hw1 => ?_) ?_
  · obtain ⟨hc, hf⟩ := bcell hw1; clear hw1; go_simp; (try with_reducible rfl)
  (try simp only [Act.put, List.setIfInBounds_toArray, List.set_cons_zero, List.set_cons_succ])
  refine plan_val (by kernel_rfl) (by kernel_rfl) (by kernel_rfl) (by go_simp) (fun w1 hw1 => ?_) ?_
  · obtain ⟨hc, hf⟩ := bcell hw1; clear hw1; go_simp; (try with_reducible rfl)
  (try simp only [Act.put, List.setIfInBounds_toArray, List.set_cons_zero, List.set_cons_succ])
  refine plan_call [] 70 #[.int .i64 ((xb - xa) * TT), .int .i64 (RR)] (by kernel_rfl) (by kernel_rfl) (by kernel_rfl) (by kernel_rfl) (by go_simp) (fun w1 hw1 => ?_) (fun w1 hC => ?_) ?_
  · clear hw1; go_simp; (try with_reducible rfl)
  · exact (near_spec _ _ _ (by omega) (by omega)).mono (fun _ _ h => ⟨h.1, h.2 ▸ Below.refl _ _⟩)
  (try simp only [Act.put, List.setIfInBounds_toArray, List.set_cons_zero, List.set_cons_succ])
  refine plan_val (by kernel_rfl) (by kernel_rfl) (by kernel_rfl) (by go_simp) (fun w1 hw1 => ?_) ?_
  · obtain ⟨hc, hf⟩ := bcell hw1; clear hw1; go_simp; (try with_reducible rfl)
  (try simp only [Act.put, List.setIfInBounds_toArray, List.set_cons_zero, List.set_cons_succ])
  refine plan_val (by kernel_rfl) (by kernel_rfl) (by kernel_rfl) (by go_simp) (fun w1 hw1 => ?_) ?_
  · obtain ⟨hc, hf⟩ := bcell hw1; clear hw1; go_simp; (try with_reducible rfl)
  (try simp only [Act.put, List.setIfInBounds_toArray, List.set_cons_zero, List.set_cons_succ])
  refine plan_val (by kernel_rfl) (by kernel_rfl) (by kernel_rfl) (by go_simp) (fun w1 hw1 => ?_) ?_
  · obtain ⟨hc, hf⟩ := bcell hw1; clear hw1; go_simp; (try with_reducible rfl)
  (try simp only [Act.put, List.setIfInBounds_toArray, List.set_cons_zero, List.set_cons_succ])
  refine plan_val (by kernel_rfl) (by kernel_rfl) (by kernel_rfl) (by go_simp) (fun w1 hw1 => ?_) ?_
  · obtain ⟨hc, hf⟩ := bcell hw1; clear hw1; go_simp; (try with_reducible rfl)
  (try simp only [Act.put, List.setIfInBounds_toArray, List.set_cons_zero, List.set_cons_succ])
  refine plan_val (by kernel_rfl) (by kernel_rfl) (by kernel_rfl) (by go_simp) (fun w1 hw1 => ?_) ?_
  · obtain ⟨hc, hf⟩ := bcell hw1; clear hw1; go_simp; (try with_reducible rfl)
  (try simp only [Act.put, List.setIfInBounds_toArray, List.set_cons_zero, List.set_cons_succ])
  refine plan_val (by kernel_rfl) (by kernel_rfl) (by kernel_rfl) (by go_simp) (fun w1 hw1 => ?_) ?_
  · obtain ⟨hc, hf⟩ := bcell hw1; clear hw1; go_simp; (try with_reducible rfl)
  (try simp only [Act.put, List.setIfInBounds_toArray, List.set_cons_zero, List.set_cons_succ])
  refine plan_val (by kernel_rfl) (by kernel_rfl) (by kernel_rfl) (by go_simp) (fun w1 hw1 => ?_) ?_
  · obtain ⟨hc, hf⟩ := bcell hw1; clear hw1; go_simp; (try with_reducible rfl)
  (try simp only [Act.put, List.setIfInBounds_toArray, List.set_cons_zero, List.set_cons_succ])
  refine plan_val (by kernel_rfl) (by kernel_rfl) (by kernel_rfl) (by go_simp) (fun w1 hw1 => ?_) ?_
  · obtain ⟨hc, hf⟩ := bcell hw1; clear hw1; go_simp; (try with_reducible rfl)
  (try simp only [Act.put, List.setIfInBounds_toArray, List.set_cons_zero, List.set_cons_succ])
  refine plan_val (by kernel_rfl) (by kernel_rfl) (by kernel_rfl) (by go_simp) (fun w1 hw1 => ?_) ?_
  · obtain ⟨hc, hf⟩ := bcell hw1; clear hw1; go_simp; (try with_reducible rfl)
  (try simp only [Act.put, List.setIfInBounds_toArray, List.set_cons_zero, List.set_cons_succ])
  refine plan_val (by kernel_rfl) (by kernel_rfl) (by kernel_rfl) (by go_simp) (fun w1 hw1 => ?_) ?_
  · obtain ⟨hc, hf⟩ := bcell hw1; clear hw1; go_simp; (try with_reducible rfl)
  (try simp only [Act.put, List.setIfInBounds_toArray, List.set_cons_zero, List.set_cons_succ])
  refine plan_val (by kernel_rfl) (by kernel_rfl) (by kernel_rfl) (by go_simp) (fun w1 hw1 => ?_) ?_
  · obtain ⟨hc, hf⟩ := bcell hw1; clear hw1; go_simp; (try with_reducible rfl)
  (try simp only [Act.put, List.setIfInBounds_toArray, List.set_cons_zero, List.set_cons_succ])
  refine plan_call [] 70 #[.int .i64 ((yb - ya) * TT), .int .i64 (RR)] (by kernel_rfl) (by kernel_rfl) (by kernel_rfl) (by kernel_rfl) (by go_simp) (fun w1 hw1 => ?_) (fun w1 hC => ?_) ?_
  · clear hw1; go_simp; (try with_reducible rfl)
  · exact (near_spec _ _ _ (by omega) (by omega)).mono (fun _ _ h => ⟨h.1, h.2 ▸ Below.refl _ _⟩)
  (try simp only [Act.put, List.setIfInBounds_toArray, List.set_cons_zero, List.set_cons_succ])
  refine plan_val (by kernel_rfl) (by kernel_rfl) (by kernel_rfl) (by go_simp) (fun w1 hw1 => ?_) ?_
  · obtain ⟨hc, hf⟩ := bcell hw1; clear hw1; go_simp; (try with_reducible rfl)
  (try simp only [Act.put, List.setIfInBounds_toArray, List.set_cons_zero, List.set_cons_succ])
  refine plan_val (by kernel_rfl) (by kernel_rfl) (by kernel_rfl) (by go_simp) (fun w1 hw1 => ?_) ?_
  · obtain ⟨hc, hf⟩ := bcell hw1; clear hw1; go_simp; (try with_reducible rfl)
  (try simp only [Act.put, List.setIfInBounds_toArray, List.set_cons_zero, List.set_cons_succ])
  refine plan_put (p := w.heap.size + 1 + 1 + 1 + 1) (by kernel_rfl) (by kernel_rfl) (by kernel_rfl) (by kernel_rfl) (by go_simp) (rfl) (fun w1 hg hh => ?_) ?_
  · obtain ⟨c0, f0, c1, f1⟩ := cells2_of hh
    refine ⟨_, ?_, stored2 hh⟩
    clear hh hg; go_simp; (try with_reducible rfl)
  (try simp only [Act.put])
  refine plan_val (by kernel_rfl) (by kernel_rfl) (by kernel_rfl) (by go_simp) (fun w1 hw1 => ?_) ?_
  · obtain ⟨hc, hf⟩ := bcell hw1; clear hw1; go_simp; (try with_reducible rfl)
  (try simp only [Act.put, List.setIfInBounds_toArray, List.set_cons_zero, List.set_cons_succ])
  refine plan_done (by kernel_rfl) (fun w3 hC => ?_)
  clear E0x E1x E2x E0y E1y E2y
  obtain ⟨y1, y2, y3⟩ := hC.2 ⟨99, _, _⟩ (Or.inr ⟨_, rfl, rfl, rfl⟩)
  obtain ⟨c0, f0, c1, f1⟩ := cells2_of y3
  have HB3 := Lib.hid hC.1
  clear hC y1 y2 y3 f0 f1
  go_wp2
  exact bodyPost_ret (v := .tuple #[.agg #[.int .i64 (xa + (2 * ((xb - xa) * TT) + RR) / (2 * RR)), .int .i64 (ya + (2 * ((yb - ya) * TT) + RR) / (2 * RR))], .int .i64 0]) (by simp [results, Try.results37, go_sem, c0, c1]) rfl ⟨by rw [HX.out, HY.out], bseq (four_allocs _ _ _ _) HB3.out⟩
end Go.Proofs.Ytfaahcbdglbcjaa
