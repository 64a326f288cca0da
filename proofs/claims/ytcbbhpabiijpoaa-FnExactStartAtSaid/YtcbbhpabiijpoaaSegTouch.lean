/- Segments of impl that touch. -/
import Derived.Test.YtcbbhpabiijpoaaSegEnds
namespace Go.Proofs.Ytcbbhpabiijpoaa
open Go.ChangeShapes Go.WideShapes Go.ChangeAt Go.RowKit

set_option maxHeartbeats 2000000 in
theorem touch_cross (xa ya xb yb xc yc xd yd : Int) (w : World) (ha : okI xa ya = true) (hb : okI xb yb = true) (hc : okI xc yc = true) (hd : okI xd yd = true) (h0 : csB xa ya xb yb xc yc xd yd = true) :
    Calls Try.prog 52 #[.agg #[.int .i64 xa, .int .i64 ya, .int .i64 xb, .int .i64 yb], .agg #[.int .i64 xc, .int .i64 yc, .int .i64 xd, .int .i64 yd]] w fun e w' => e = .returned (.bool true) ∧ Below w.heap.size w w' := by
  have HA := Lib.hid ha
  have HB := Lib.hid hb
  have HC := Lib.hid hc
  have HD := Lib.hid hd
  clear ha hb hc hd
  have H0 := Lib.hid h0
  clear h0
  go_enter Try.func52, Try.ntmps52
  go_wp2
  refine wp_region_plan [.val 0 [] (.agg #[.int .i64 xa, .int .i64 ya, .int .i64 xb, .int .i64 yb]), .val 1 [] (.agg #[.int .i64 xc, .int .i64 yc, .int .i64 xd, .int .i64 yd]), .val 2 [] (.bool true), .val 3 [] (.bool true), .val 4 [] undef, .val 5 [] undef, .val 6 [] undef, .val 7 [] undef, .val 8 [] undef, .val 9 [] (.bool true), .val 10 [] (.bool true), .val 11 [] undef, .val 12 [] undef, .val 13 [] undef, .val 14 [] undef, .val 15 [] undef, .val 16 [] (.bool true), .val 17 [] (.bool true)] (by kernel_rfl) (by kernel_rfl) rfl ?_
  refine plan_val (by kernel_rfl) (by kernel_rfl) (by kernel_rfl) (by go_simp) (fun w1 hw1 => ?_) ?_
  · obtain ⟨hc, hf⟩ := bcell hw1; clear hw1; go_simp; (try with_reducible rfl)
  (try simp only [Act.put, List.setIfInBounds_toArray, List.set_cons_zero, List.set_cons_succ])
  refine plan_val (by kernel_rfl) (by kernel_rfl) (by kernel_rfl) (by go_simp) (fun w1 hw1 => ?_) ?_
  · obtain ⟨hc, hf⟩ := bcell hw1; clear hw1; go_simp; (try with_reducible rfl)
  (try simp only [Act.put, List.setIfInBounds_toArray, List.set_cons_zero, List.set_cons_succ])
  refine plan_call [] 51 #[.agg #[.int .i64 xa, .int .i64 ya, .int .i64 xb, .int .i64 yb], .agg #[.int .i64 xc, .int .i64 yc, .int .i64 xd, .int .i64 yd]] (by kernel_rfl) (by kernel_rfl) (by kernel_rfl) (by kernel_rfl) (by go_simp) (fun w1 hw1 => ?_) (fun w1 hC => ?_) ?_
  · clear hw1; go_simp; (try with_reducible rfl)
  · have := crosses_any xa ya xb yb xc yc xd yd w1 HA.out HB.out HC.out HD.out; rw [H0.out] at this; exact this
  (try simp only [Act.put, List.setIfInBounds_toArray, List.set_cons_zero, List.set_cons_succ])
  refine plan_val (by kernel_rfl) (by kernel_rfl) (by kernel_rfl) (by go_simp) (fun w1 hw1 => ?_) ?_
  · obtain ⟨hc, hf⟩ := bcell hw1; clear hw1; go_simp; (try with_reducible rfl)
  (try simp only [Act.put, List.setIfInBounds_toArray, List.set_cons_zero, List.set_cons_succ])
  refine plan_skip (by kernel_rfl) (by kernel_rfl) (by kernel_rfl) (by go_simp) ?_
  (try simp only [Act.put, List.setIfInBounds_toArray, List.set_cons_zero, List.set_cons_succ])
  refine plan_skip (by kernel_rfl) (by kernel_rfl) (by kernel_rfl) (by go_simp) ?_
  (try simp only [Act.put, List.setIfInBounds_toArray, List.set_cons_zero, List.set_cons_succ])
  refine plan_skip (by kernel_rfl) (by kernel_rfl) (by kernel_rfl) (by go_simp) ?_
  (try simp only [Act.put, List.setIfInBounds_toArray, List.set_cons_zero, List.set_cons_succ])
  refine plan_skip (by kernel_rfl) (by kernel_rfl) (by kernel_rfl) (by go_simp) ?_
  (try simp only [Act.put, List.setIfInBounds_toArray, List.set_cons_zero, List.set_cons_succ])
  refine plan_skip (by kernel_rfl) (by kernel_rfl) (by kernel_rfl) (by go_simp) ?_
  (try simp only [Act.put, List.setIfInBounds_toArray, List.set_cons_zero, List.set_cons_succ])
  refine plan_val (by kernel_rfl) (by kernel_rfl) (by kernel_rfl) (by go_simp) (fun w1 hw1 => ?_) ?_
  · obtain ⟨hc, hf⟩ := bcell hw1; clear hw1; go_simp; (try with_reducible rfl)
  (try simp only [Act.put, List.setIfInBounds_toArray, List.set_cons_zero, List.set_cons_succ])
  refine plan_val (by kernel_rfl) (by kernel_rfl) (by kernel_rfl) (by go_simp) (fun w1 hw1 => ?_) ?_
  · obtain ⟨hc, hf⟩ := bcell hw1; clear hw1; go_simp; (try with_reducible rfl)
  (try simp only [Act.put, List.setIfInBounds_toArray, List.set_cons_zero, List.set_cons_succ])
  refine plan_skip (by kernel_rfl) (by kernel_rfl) (by kernel_rfl) (by go_simp) ?_
  (try simp only [Act.put, List.setIfInBounds_toArray, List.set_cons_zero, List.set_cons_succ])
  refine plan_skip (by kernel_rfl) (by kernel_rfl) (by kernel_rfl) (by go_simp) ?_
  (try simp only [Act.put, List.setIfInBounds_toArray, List.set_cons_zero, List.set_cons_succ])
  refine plan_skip (by kernel_rfl) (by kernel_rfl) (by kernel_rfl) (by go_simp) ?_
  (try simp only [Act.put, List.setIfInBounds_toArray, List.set_cons_zero, List.set_cons_succ])
  refine plan_skip (by kernel_rfl) (by kernel_rfl) (by kernel_rfl) (by go_simp) ?_
  (try simp only [Act.put, List.setIfInBounds_toArray, List.set_cons_zero, List.set_cons_succ])
  refine plan_skip (by kernel_rfl) (by kernel_rfl) (by kernel_rfl) (by go_simp) ?_
  (try simp only [Act.put, List.setIfInBounds_toArray, List.set_cons_zero, List.set_cons_succ])
  refine plan_val (by kernel_rfl) (by kernel_rfl) (by kernel_rfl) (by go_simp) (fun w1 hw1 => ?_) ?_
  · obtain ⟨hc, hf⟩ := bcell hw1; clear hw1; go_simp; (try with_reducible rfl)
  (try simp only [Act.put, List.setIfInBounds_toArray, List.set_cons_zero, List.set_cons_succ])
  refine plan_val (by kernel_rfl) (by kernel_rfl) (by kernel_rfl) (by go_simp) (fun w1 hw1 => ?_) ?_
  · obtain ⟨hc, hf⟩ := bcell hw1; clear hw1; go_simp; (try with_reducible rfl)
  (try simp only [Act.put, List.setIfInBounds_toArray, List.set_cons_zero, List.set_cons_succ])
  refine plan_done (by kernel_rfl) (fun w2 hC => ?_)
  have HB1 := Lib.hid hC.1
  clear hC
  go_wp2
  go_ret
  exact ⟨rfl, bseq (two_allocs _ _) HB1.out⟩
set_option maxHeartbeats 2000000 in
theorem touch_one (xa ya xb yb xc yc xd yd : Int) (w : World) (ha : okI xa ya = true) (hb : okI xb yb = true) (hc : okI xc yc = true) (hd : okI xd yd = true) (h0 : csB xa ya xb yb xc yc xd yd = false) (h1 : (onB xc yc xd yd xa ya || onB xc yc xd yd xb yb) = true) :
    Calls Try.prog 52 #[.agg #[.int .i64 xa, .int .i64 ya, .int .i64 xb, .int .i64 yb], .agg #[.int .i64 xc, .int .i64 yc, .int .i64 xd, .int .i64 yd]] w fun e w' => e = .returned (.bool true) ∧ Below w.heap.size w w' := by
  have HA := Lib.hid ha
  have HB := Lib.hid hb
  have HC := Lib.hid hc
  have HD := Lib.hid hd
  clear ha hb hc hd
  have H0 := Lib.hid h0
  have H1 := Lib.hid h1
  clear h0 h1
  go_enter Try.func52, Try.ntmps52
  go_wp2
  refine wp_region_plan [.val 0 [] (.agg #[.int .i64 xa, .int .i64 ya, .int .i64 xb, .int .i64 yb]), .val 1 [] (.agg #[.int .i64 xc, .int .i64 yc, .int .i64 xd, .int .i64 yd]), .val 2 [] (.bool false), .val 3 [] (.bool false), .val 4 [] (.agg #[.int .i64 xa, .int .i64 ya, .int .i64 xb, .int .i64 yb]), .make 5 (.cells #[.int .i64 xa, .int .i64 ya, .int .i64 xb, .int .i64 yb] 25 (0, 0)) (fun p => .slice (some ⟨p, 0, none⟩) 2 2), .val 6 [] (.agg #[.int .i64 xc, .int .i64 yc, .int .i64 xd, .int .i64 yd]), .val 7 [] (.func (.func 56) #[.agg #[.int .i64 xc, .int .i64 yc, .int .i64 xd, .int .i64 yd]] #[]), .val 8 [5] (.bool true), .val 9 [] (.bool true), .val 10 [] (.bool true), .val 11 [] undef, .val 12 [] undef, .val 13 [] undef, .val 14 [] undef, .val 15 [] undef, .val 16 [] (.bool true), .val 17 [] (.bool true)] (by kernel_rfl) (by kernel_rfl) rfl ?_
  refine plan_val (by kernel_rfl) (by kernel_rfl) (by kernel_rfl) (by go_simp) (fun w1 hw1 => ?_) ?_
  · obtain ⟨hc, hf⟩ := bcell hw1; clear hw1; go_simp; (try with_reducible rfl)
  (try simp only [Act.put, List.setIfInBounds_toArray, List.set_cons_zero, List.set_cons_succ])
  refine plan_val (by kernel_rfl) (by kernel_rfl) (by kernel_rfl) (by go_simp) (fun w1 hw1 => ?_) ?_
  · obtain ⟨hc, hf⟩ := bcell hw1; clear hw1; go_simp; (try with_reducible rfl)
  (try simp only [Act.put, List.setIfInBounds_toArray, List.set_cons_zero, List.set_cons_succ])
  refine plan_call [] 51 #[.agg #[.int .i64 xa, .int .i64 ya, .int .i64 xb, .int .i64 yb], .agg #[.int .i64 xc, .int .i64 yc, .int .i64 xd, .int .i64 yd]] (by kernel_rfl) (by kernel_rfl) (by kernel_rfl) (by kernel_rfl) (by go_simp) (fun w1 hw1 => ?_) (fun w1 hC => ?_) ?_
  · clear hw1; go_simp; (try with_reducible rfl)
  · have := crosses_any xa ya xb yb xc yc xd yd w1 HA.out HB.out HC.out HD.out; rw [H0.out] at this; exact this
  (try simp only [Act.put, List.setIfInBounds_toArray, List.set_cons_zero, List.set_cons_succ])
  refine plan_val (by kernel_rfl) (by kernel_rfl) (by kernel_rfl) (by go_simp) (fun w1 hw1 => ?_) ?_
  · obtain ⟨hc, hf⟩ := bcell hw1; clear hw1; go_simp; (try with_reducible rfl)
  (try simp only [Act.put, List.setIfInBounds_toArray, List.set_cons_zero, List.set_cons_succ])
  refine plan_val (by kernel_rfl) (by kernel_rfl) (by kernel_rfl) (by go_simp) (fun w1 hw1 => ?_) ?_
  · obtain ⟨hc, hf⟩ := bcell hw1; clear hw1; go_simp; (try with_reducible rfl)
  (try simp only [Act.put, List.setIfInBounds_toArray, List.set_cons_zero, List.set_cons_succ])
  refine plan_mcall 92 #[.agg #[.int .i64 xa, .int .i64 ya, .int .i64 xb, .int .i64 yb]] (by kernel_rfl) (by kernel_rfl) (by go_simp) (fun w1 hw1 => ?_) (fun w1 hw1 => ?_) (fun p5 hp5 => ?_)
  · clear hw1; go_simp; (try with_reducible rfl)
  · exact ends_any _ _ _ _ _
  (try simp only [Act.put, List.setIfInBounds_toArray, List.set_cons_zero, List.set_cons_succ])
  refine plan_val (by kernel_rfl) (by kernel_rfl) (by kernel_rfl) (by go_simp) (fun w1 hw1 => ?_) ?_
  · obtain ⟨hc, hf⟩ := bcell hw1; clear hw1; go_simp; (try with_reducible rfl)
  (try simp only [Act.put, List.setIfInBounds_toArray, List.set_cons_zero, List.set_cons_succ])
  refine plan_val (by kernel_rfl) (by kernel_rfl) (by kernel_rfl) (by go_simp) (fun w1 hw1 => ?_) ?_
  · obtain ⟨hc, hf⟩ := bcell hw1; clear hw1; go_simp; (try with_reducible rfl)
  (try simp only [Act.put, List.setIfInBounds_toArray, List.set_cons_zero, List.set_cons_succ])
  refine plan_call [5] 91 #[.slice (some ⟨p5, 0, none⟩) 2 2, .func (.func 56) #[.agg #[.int .i64 xc, .int .i64 yc, .int .i64 xd, .int .i64 yd]] #[]] (by kernel_rfl) (by kernel_rfl) (by kernel_rfl) (by kernel_rfl) (by go_simp) (fun w1 hw1 => ?_) (fun w1 hC => ?_) ?_
  · clear hw1; go_simp; (try with_reducible rfl)
  · obtain ⟨z1, z2, z3⟩ := hC.2 ⟨5, p5, _⟩ ⟨Or.inl rfl, rfl⟩
    obtain ⟨c0, f0, c1, f1, c2, f2, c3, f3⟩ := cells4_of z3
    have := has_any xa ya xb yb xc yc xd yd p5 w1 HA.out HB.out HC.out HD.out z2 c0 c1 c2 c3
    rw [H1.out] at this; exact this
  (try simp only [Act.put, List.setIfInBounds_toArray, List.set_cons_zero, List.set_cons_succ])
  refine plan_val (by kernel_rfl) (by kernel_rfl) (by kernel_rfl) (by go_simp) (fun w1 hw1 => ?_) ?_
  · obtain ⟨hc, hf⟩ := bcell hw1; clear hw1; go_simp; (try with_reducible rfl)
  (try simp only [Act.put, List.setIfInBounds_toArray, List.set_cons_zero, List.set_cons_succ])
  refine plan_val (by kernel_rfl) (by kernel_rfl) (by kernel_rfl) (by go_simp) (fun w1 hw1 => ?_) ?_
  · obtain ⟨hc, hf⟩ := bcell hw1; clear hw1; go_simp; (try with_reducible rfl)
  (try simp only [Act.put, List.setIfInBounds_toArray, List.set_cons_zero, List.set_cons_succ])
  refine plan_skip (by kernel_rfl) (by kernel_rfl) (by kernel_rfl) (by go_simp) ?_
  (try simp only [Act.put, List.setIfInBounds_toArray, List.set_cons_zero, List.set_cons_succ])
  refine plan_skip (by kernel_rfl) (by kernel_rfl) (by kernel_rfl) (by go_simp) ?_
  (try simp only [Act.put, List.setIfInBounds_toArray, List.set_cons_zero, List.set_cons_succ])
  refine plan_skip (by kernel_rfl) (by kernel_rfl) (by kernel_rfl) (by go_simp) ?_
  (try simp only [Act.put, List.setIfInBounds_toArray, List.set_cons_zero, List.set_cons_succ])
  refine plan_skip (by kernel_rfl) (by kernel_rfl) (by kernel_rfl) (by go_simp) ?_
  (try simp only [Act.put, List.setIfInBounds_toArray, List.set_cons_zero, List.set_cons_succ])
  refine plan_skip (by kernel_rfl) (by kernel_rfl) (by kernel_rfl) (by go_simp) ?_
  (try simp only [Act.put, List.setIfInBounds_toArray, List.set_cons_zero, List.set_cons_succ])
  refine plan_val (by kernel_rfl) (by kernel_rfl) (by kernel_rfl) (by go_simp) (fun w1 hw1 => ?_) ?_
  · obtain ⟨hc, hf⟩ := bcell hw1; clear hw1; go_simp; (try with_reducible rfl)
  (try simp only [Act.put, List.setIfInBounds_toArray, List.set_cons_zero, List.set_cons_succ])
  refine plan_val (by kernel_rfl) (by kernel_rfl) (by kernel_rfl) (by go_simp) (fun w1 hw1 => ?_) ?_
  · obtain ⟨hc, hf⟩ := bcell hw1; clear hw1; go_simp; (try with_reducible rfl)
  (try simp only [Act.put, List.setIfInBounds_toArray, List.set_cons_zero, List.set_cons_succ])
  refine plan_done (by kernel_rfl) (fun w2 hC => ?_)
  have HB1 := Lib.hid hC.1
  clear hC
  go_wp2
  go_ret
  exact ⟨rfl, bseq (two_allocs _ _) HB1.out⟩
set_option maxHeartbeats 2000000 in
theorem touch_two (xa ya xb yb xc yc xd yd : Int) (w : World) (ha : okI xa ya = true) (hb : okI xb yb = true) (hc : okI xc yc = true) (hd : okI xd yd = true) (h0 : csB xa ya xb yb xc yc xd yd = false) (h1 : (onB xc yc xd yd xa ya || onB xc yc xd yd xb yb) = false) (h2 : (onB xa ya xb yb xc yc || onB xa ya xb yb xd yd) = true) :
    Calls Try.prog 52 #[.agg #[.int .i64 xa, .int .i64 ya, .int .i64 xb, .int .i64 yb], .agg #[.int .i64 xc, .int .i64 yc, .int .i64 xd, .int .i64 yd]] w fun e w' => e = .returned (.bool true) ∧ Below w.heap.size w w' := by
  have HA := Lib.hid ha
  have HB := Lib.hid hb
  have HC := Lib.hid hc
  have HD := Lib.hid hd
  clear ha hb hc hd
  have H0 := Lib.hid h0
  have H1 := Lib.hid h1
  have H2 := Lib.hid h2
  clear h0 h1 h2
  go_enter Try.func52, Try.ntmps52
  go_wp2
  refine wp_region_plan [.val 0 [] (.agg #[.int .i64 xa, .int .i64 ya, .int .i64 xb, .int .i64 yb]), .val 1 [] (.agg #[.int .i64 xc, .int .i64 yc, .int .i64 xd, .int .i64 yd]), .val 2 [] (.bool false), .val 3 [] (.bool false), .val 4 [] (.agg #[.int .i64 xa, .int .i64 ya, .int .i64 xb, .int .i64 yb]), .make 5 (.cells #[.int .i64 xa, .int .i64 ya, .int .i64 xb, .int .i64 yb] 25 (0, 0)) (fun p => .slice (some ⟨p, 0, none⟩) 2 2), .val 6 [] (.agg #[.int .i64 xc, .int .i64 yc, .int .i64 xd, .int .i64 yd]), .val 7 [] (.func (.func 56) #[.agg #[.int .i64 xc, .int .i64 yc, .int .i64 xd, .int .i64 yd]] #[]), .val 8 [5] (.bool false), .val 9 [] (.bool false), .val 10 [] (.bool false), .val 11 [] (.agg #[.int .i64 xc, .int .i64 yc, .int .i64 xd, .int .i64 yd]), .make 12 (.cells #[.int .i64 xc, .int .i64 yc, .int .i64 xd, .int .i64 yd] 25 (0, 0)) (fun p => .slice (some ⟨p, 0, none⟩) 2 2), .val 13 [] (.agg #[.int .i64 xa, .int .i64 ya, .int .i64 xb, .int .i64 yb]), .val 14 [] (.func (.func 56) #[.agg #[.int .i64 xa, .int .i64 ya, .int .i64 xb, .int .i64 yb]] #[]), .val 15 [12] (.bool true), .val 16 [] (.bool true), .val 17 [] (.bool true)] (by kernel_rfl) (by kernel_rfl) rfl ?_
  refine plan_val (by kernel_rfl) (by kernel_rfl) (by kernel_rfl) (by go_simp) (fun w1 hw1 => ?_) ?_
  · obtain ⟨hc, hf⟩ := bcell hw1; clear hw1; go_simp; (try with_reducible rfl)
  (try simp only [Act.put, List.setIfInBounds_toArray, List.set_cons_zero, List.set_cons_succ])
  refine plan_val (by kernel_rfl) (by kernel_rfl) (by kernel_rfl) (by go_simp) (fun w1 hw1 => ?_) ?_
  · obtain ⟨hc, hf⟩ := bcell hw1; clear hw1; go_simp; (try with_reducible rfl)
  (try simp only [Act.put, List.setIfInBounds_toArray, List.set_cons_zero, List.set_cons_succ])
  refine plan_call [] 51 #[.agg #[.int .i64 xa, .int .i64 ya, .int .i64 xb, .int .i64 yb], .agg #[.int .i64 xc, .int .i64 yc, .int .i64 xd, .int .i64 yd]] (by kernel_rfl) (by kernel_rfl) (by kernel_rfl) (by kernel_rfl) (by go_simp) (fun w1 hw1 => ?_) (fun w1 hC => ?_) ?_
  · clear hw1; go_simp; (try with_reducible rfl)
  · have := crosses_any xa ya xb yb xc yc xd yd w1 HA.out HB.out HC.out HD.out; rw [H0.out] at this; exact this
  (try simp only [Act.put, List.setIfInBounds_toArray, List.set_cons_zero, List.set_cons_succ])
  refine plan_val (by kernel_rfl) (by kernel_rfl) (by kernel_rfl) (by go_simp) (fun w1 hw1 => ?_) ?_
  · obtain ⟨hc, hf⟩ := bcell hw1; clear hw1; go_simp; (try with_reducible rfl)
  (try simp only [Act.put, List.setIfInBounds_toArray, List.set_cons_zero, List.set_cons_succ])
  refine plan_val (by kernel_rfl) (by kernel_rfl) (by kernel_rfl) (by go_simp) (fun w1 hw1 => ?_) ?_
  · obtain ⟨hc, hf⟩ := bcell hw1; clear hw1; go_simp; (try with_reducible rfl)
  (try simp only [Act.put, List.setIfInBounds_toArray, List.set_cons_zero, List.set_cons_succ])
  refine plan_mcall 92 #[.agg #[.int .i64 xa, .int .i64 ya, .int .i64 xb, .int .i64 yb]] (by kernel_rfl) (by kernel_rfl) (by go_simp) (fun w1 hw1 => ?_) (fun w1 hw1 => ?_) (fun p5 hp5 => ?_)
  · clear hw1; go_simp; (try with_reducible rfl)
  · exact ends_any _ _ _ _ _
  (try simp only [Act.put, List.setIfInBounds_toArray, List.set_cons_zero, List.set_cons_succ])
  refine plan_val (by kernel_rfl) (by kernel_rfl) (by kernel_rfl) (by go_simp) (fun w1 hw1 => ?_) ?_
  · obtain ⟨hc, hf⟩ := bcell hw1; clear hw1; go_simp; (try with_reducible rfl)
  (try simp only [Act.put, List.setIfInBounds_toArray, List.set_cons_zero, List.set_cons_succ])
  refine plan_val (by kernel_rfl) (by kernel_rfl) (by kernel_rfl) (by go_simp) (fun w1 hw1 => ?_) ?_
  · obtain ⟨hc, hf⟩ := bcell hw1; clear hw1; go_simp; (try with_reducible rfl)
  (try simp only [Act.put, List.setIfInBounds_toArray, List.set_cons_zero, List.set_cons_succ])
  refine plan_call [5] 91 #[.slice (some ⟨p5, 0, none⟩) 2 2, .func (.func 56) #[.agg #[.int .i64 xc, .int .i64 yc, .int .i64 xd, .int .i64 yd]] #[]] (by kernel_rfl) (by kernel_rfl) (by kernel_rfl) (by kernel_rfl) (by go_simp) (fun w1 hw1 => ?_) (fun w1 hC => ?_) ?_
  · clear hw1; go_simp; (try with_reducible rfl)
  · obtain ⟨z1, z2, z3⟩ := hC.2 ⟨5, p5, _⟩ ⟨Or.inl rfl, rfl⟩
    obtain ⟨c0, f0, c1, f1, c2, f2, c3, f3⟩ := cells4_of z3
    have := has_any xa ya xb yb xc yc xd yd p5 w1 HA.out HB.out HC.out HD.out z2 c0 c1 c2 c3
    rw [H1.out] at this; exact this
  (try simp only [Act.put, List.setIfInBounds_toArray, List.set_cons_zero, List.set_cons_succ])
  refine plan_val (by kernel_rfl) (by kernel_rfl) (by kernel_rfl) (by go_simp) (fun w1 hw1 => ?_) ?_
  · obtain ⟨hc, hf⟩ := bcell hw1; clear hw1; go_simp; (try with_reducible rfl)
  (try simp only [Act.put, List.setIfInBounds_toArray, List.set_cons_zero, List.set_cons_succ])
  refine plan_val (by kernel_rfl) (by kernel_rfl) (by kernel_rfl) (by go_simp) (fun w1 hw1 => ?_) ?_
  · obtain ⟨hc, hf⟩ := bcell hw1; clear hw1; go_simp; (try with_reducible rfl)
  (try simp only [Act.put, List.setIfInBounds_toArray, List.set_cons_zero, List.set_cons_succ])
  refine plan_val (by kernel_rfl) (by kernel_rfl) (by kernel_rfl) (by go_simp) (fun w1 hw1 => ?_) ?_
  · obtain ⟨hc, hf⟩ := bcell hw1; clear hw1; go_simp; (try with_reducible rfl)
  (try simp only [Act.put, List.setIfInBounds_toArray, List.set_cons_zero, List.set_cons_succ])
  refine plan_mcall 92 #[.agg #[.int .i64 xc, .int .i64 yc, .int .i64 xd, .int .i64 yd]] (by kernel_rfl) (by kernel_rfl) (by go_simp) (fun w1 hw1 => ?_) (fun w1 hw1 => ?_) (fun p12 hp12 => ?_)
  · clear hw1; go_simp; (try with_reducible rfl)
  · exact ends_any _ _ _ _ _
  (try simp only [Act.put, List.setIfInBounds_toArray, List.set_cons_zero, List.set_cons_succ])
  refine plan_val (by kernel_rfl) (by kernel_rfl) (by kernel_rfl) (by go_simp) (fun w1 hw1 => ?_) ?_
  · obtain ⟨hc, hf⟩ := bcell hw1; clear hw1; go_simp; (try with_reducible rfl)
  (try simp only [Act.put, List.setIfInBounds_toArray, List.set_cons_zero, List.set_cons_succ])
  refine plan_val (by kernel_rfl) (by kernel_rfl) (by kernel_rfl) (by go_simp) (fun w1 hw1 => ?_) ?_
  · obtain ⟨hc, hf⟩ := bcell hw1; clear hw1; go_simp; (try with_reducible rfl)
  (try simp only [Act.put, List.setIfInBounds_toArray, List.set_cons_zero, List.set_cons_succ])
  refine plan_call [12] 91 #[.slice (some ⟨p12, 0, none⟩) 2 2, .func (.func 56) #[.agg #[.int .i64 xa, .int .i64 ya, .int .i64 xb, .int .i64 yb]] #[]] (by kernel_rfl) (by kernel_rfl) (by kernel_rfl) (by kernel_rfl) (by go_simp) (fun w1 hw1 => ?_) (fun w1 hC => ?_) ?_
  · clear hw1; go_simp; (try with_reducible rfl)
  · obtain ⟨z1, z2, z3⟩ := hC.2 ⟨12, p12, _⟩ ⟨Or.inl rfl, rfl⟩
    obtain ⟨c0, f0, c1, f1, c2, f2, c3, f3⟩ := cells4_of z3
    have := has_any xc yc xd yd xa ya xb yb p12 w1 HC.out HD.out HA.out HB.out z2 c0 c1 c2 c3
    rw [H2.out] at this; exact this
  (try simp only [Act.put, List.setIfInBounds_toArray, List.set_cons_zero, List.set_cons_succ])
  refine plan_val (by kernel_rfl) (by kernel_rfl) (by kernel_rfl) (by go_simp) (fun w1 hw1 => ?_) ?_
  · obtain ⟨hc, hf⟩ := bcell hw1; clear hw1; go_simp; (try with_reducible rfl)
  (try simp only [Act.put, List.setIfInBounds_toArray, List.set_cons_zero, List.set_cons_succ])
  refine plan_val (by kernel_rfl) (by kernel_rfl) (by kernel_rfl) (by go_simp) (fun w1 hw1 => ?_) ?_
  · obtain ⟨hc, hf⟩ := bcell hw1; clear hw1; go_simp; (try with_reducible rfl)
  (try simp only [Act.put, List.setIfInBounds_toArray, List.set_cons_zero, List.set_cons_succ])
  refine plan_done (by kernel_rfl) (fun w2 hC => ?_)
  have HB1 := Lib.hid hC.1
  clear hC
  go_wp2
  go_ret
  exact ⟨rfl, bseq (two_allocs _ _) HB1.out⟩
set_option maxHeartbeats 2000000 in
theorem touch_none (xa ya xb yb xc yc xd yd : Int) (w : World) (ha : okI xa ya = true) (hb : okI xb yb = true) (hc : okI xc yc = true) (hd : okI xd yd = true) (h0 : csB xa ya xb yb xc yc xd yd = false) (h1 : (onB xc yc xd yd xa ya || onB xc yc xd yd xb yb) = false) (h2 : (onB xa ya xb yb xc yc || onB xa ya xb yb xd yd) = false) :
    Calls Try.prog 52 #[.agg #[.int .i64 xa, .int .i64 ya, .int .i64 xb, .int .i64 yb], .agg #[.int .i64 xc, .int .i64 yc, .int .i64 xd, .int .i64 yd]] w fun e w' => e = .returned (.bool false) ∧ Below w.heap.size w w' := by
  have HA := Lib.hid ha
  have HB := Lib.hid hb
  have HC := Lib.hid hc
  have HD := Lib.hid hd
  clear ha hb hc hd
  have H0 := Lib.hid h0
  have H1 := Lib.hid h1
  have H2 := Lib.hid h2
  clear h0 h1 h2
  go_enter Try.func52, Try.ntmps52
  go_wp2
  refine wp_region_plan [.val 0 [] (.agg #[.int .i64 xa, .int .i64 ya, .int .i64 xb, .int .i64 yb]), .val 1 [] (.agg #[.int .i64 xc, .int .i64 yc, .int .i64 xd, .int .i64 yd]), .val 2 [] (.bool false), .val 3 [] (.bool false), .val 4 [] (.agg #[.int .i64 xa, .int .i64 ya, .int .i64 xb, .int .i64 yb]), .make 5 (.cells #[.int .i64 xa, .int .i64 ya, .int .i64 xb, .int .i64 yb] 25 (0, 0)) (fun p => .slice (some ⟨p, 0, none⟩) 2 2), .val 6 [] (.agg #[.int .i64 xc, .int .i64 yc, .int .i64 xd, .int .i64 yd]), .val 7 [] (.func (.func 56) #[.agg #[.int .i64 xc, .int .i64 yc, .int .i64 xd, .int .i64 yd]] #[]), .val 8 [5] (.bool false), .val 9 [] (.bool false), .val 10 [] (.bool false), .val 11 [] (.agg #[.int .i64 xc, .int .i64 yc, .int .i64 xd, .int .i64 yd]), .make 12 (.cells #[.int .i64 xc, .int .i64 yc, .int .i64 xd, .int .i64 yd] 25 (0, 0)) (fun p => .slice (some ⟨p, 0, none⟩) 2 2), .val 13 [] (.agg #[.int .i64 xa, .int .i64 ya, .int .i64 xb, .int .i64 yb]), .val 14 [] (.func (.func 56) #[.agg #[.int .i64 xa, .int .i64 ya, .int .i64 xb, .int .i64 yb]] #[]), .val 15 [12] (.bool false), .val 16 [] (.bool false), .val 17 [] (.bool false)] (by kernel_rfl) (by kernel_rfl) rfl ?_
  refine plan_val (by kernel_rfl) (by kernel_rfl) (by kernel_rfl) (by go_simp) (fun w1 hw1 => ?_) ?_
  · obtain ⟨hc, hf⟩ := bcell hw1; clear hw1; go_simp; (try with_reducible rfl)
  (try simp only [Act.put, List.setIfInBounds_toArray, List.set_cons_zero, List.set_cons_succ])
  refine plan_val (by kernel_rfl) (by kernel_rfl) (by kernel_rfl) (by go_simp) (fun w1 hw1 => ?_) ?_
  · obtain ⟨hc, hf⟩ := bcell hw1; clear hw1; go_simp; (try with_reducible rfl)
  (try simp only [Act.put, List.setIfInBounds_toArray, List.set_cons_zero, List.set_cons_succ])
  refine plan_call [] 51 #[.agg #[.int .i64 xa, .int .i64 ya, .int .i64 xb, .int .i64 yb], .agg #[.int .i64 xc, .int .i64 yc, .int .i64 xd, .int .i64 yd]] (by kernel_rfl) (by kernel_rfl) (by kernel_rfl) (by kernel_rfl) (by go_simp) (fun w1 hw1 => ?_) (fun w1 hC => ?_) ?_
  · clear hw1; go_simp; (try with_reducible rfl)
  · have := crosses_any xa ya xb yb xc yc xd yd w1 HA.out HB.out HC.out HD.out; rw [H0.out] at this; exact this
  (try simp only [Act.put, List.setIfInBounds_toArray, List.set_cons_zero, List.set_cons_succ])
  refine plan_val (by kernel_rfl) (by kernel_rfl) (by kernel_rfl) (by go_simp) (fun w1 hw1 => ?_) ?_
  · obtain ⟨hc, hf⟩ := bcell hw1; clear hw1; go_simp; (try with_reducible rfl)
  (try simp only [Act.put, List.setIfInBounds_toArray, List.set_cons_zero, List.set_cons_succ])
  refine plan_val (by kernel_rfl) (by kernel_rfl) (by kernel_rfl) (by go_simp) (fun w1 hw1 => ?_) ?_
  · obtain ⟨hc, hf⟩ := bcell hw1; clear hw1; go_simp; (try with_reducible rfl)
  (try simp only [Act.put, List.setIfInBounds_toArray, List.set_cons_zero, List.set_cons_succ])
  refine plan_mcall 92 #[.agg #[.int .i64 xa, .int .i64 ya, .int .i64 xb, .int .i64 yb]] (by kernel_rfl) (by kernel_rfl) (by go_simp) (fun w1 hw1 => ?_) (fun w1 hw1 => ?_) (fun p5 hp5 => ?_)
  · clear hw1; go_simp; (try with_reducible rfl)
  · exact ends_any _ _ _ _ _
  (try simp only [Act.put, List.setIfInBounds_toArray, List.set_cons_zero, List.set_cons_succ])
  refine plan_val (by kernel_rfl) (by kernel_rfl) (by kernel_rfl) (by go_simp) (fun w1 hw1 => ?_) ?_
  · obtain ⟨hc, hf⟩ := bcell hw1; clear hw1; go_simp; (try with_reducible rfl)
  (try simp only [Act.put, List.setIfInBounds_toArray, List.set_cons_zero, List.set_cons_succ])
  refine plan_val (by kernel_rfl) (by kernel_rfl) (by kernel_rfl) (by go_simp) (fun w1 hw1 => ?_) ?_
  · obtain ⟨hc, hf⟩ := bcell hw1; clear hw1; go_simp; (try with_reducible rfl)
  (try simp only [Act.put, List.setIfInBounds_toArray, List.set_cons_zero, List.set_cons_succ])
  refine plan_call [5] 91 #[.slice (some ⟨p5, 0, none⟩) 2 2, .func (.func 56) #[.agg #[.int .i64 xc, .int .i64 yc, .int .i64 xd, .int .i64 yd]] #[]] (by kernel_rfl) (by kernel_rfl) (by kernel_rfl) (by kernel_rfl) (by go_simp) (fun w1 hw1 => ?_) (fun w1 hC => ?_) ?_
  · clear hw1; go_simp; (try with_reducible rfl)
  · obtain ⟨z1, z2, z3⟩ := hC.2 ⟨5, p5, _⟩ ⟨Or.inl rfl, rfl⟩
    obtain ⟨c0, f0, c1, f1, c2, f2, c3, f3⟩ := cells4_of z3
    have := has_any xa ya xb yb xc yc xd yd p5 w1 HA.out HB.out HC.out HD.out z2 c0 c1 c2 c3
    rw [H1.out] at this; exact this
  (try simp only [Act.put, List.setIfInBounds_toArray, List.set_cons_zero, List.set_cons_succ])
  refine plan_val (by kernel_rfl) (by kernel_rfl) (by kernel_rfl) (by go_simp) (fun w1 hw1 => ?_) ?_
  · obtain ⟨hc, hf⟩ := bcell hw1; clear hw1; go_simp; (try with_reducible rfl)
  (try simp only [Act.put, List.setIfInBounds_toArray, List.set_cons_zero, List.set_cons_succ])
  refine plan_val (by kernel_rfl) (by kernel_rfl) (by kernel_rfl) (by go_simp) (fun w1 hw1 => ?_) ?_
  · obtain ⟨hc, hf⟩ := bcell hw1; clear hw1; go_simp; (try with_reducible rfl)
  (try simp only [Act.put, List.setIfInBounds_toArray, List.set_cons_zero, List.set_cons_succ])
  refine plan_val (by kernel_rfl) (by kernel_rfl) (by kernel_rfl) (by go_simp) (fun w1 hw1 => ?_) ?_
  · obtain ⟨hc, hf⟩ := bcell hw1; clear hw1; go_simp; (try with_reducible rfl)
  (try simp only [Act.put, List.setIfInBounds_toArray, List.set_cons_zero, List.set_cons_succ])
  refine plan_mcall 92 #[.agg #[.int .i64 xc, .int .i64 yc, .int .i64 xd, .int .i64 yd]] (by kernel_rfl) (by kernel_rfl) (by go_simp) (fun w1 hw1 => ?_) (fun w1 hw1 => ?_) (fun p12 hp12 => ?_)
  · clear hw1; go_simp; (try with_reducible rfl)
  · exact ends_any _ _ _ _ _
  (try simp only [Act.put, List.setIfInBounds_toArray, List.set_cons_zero, List.set_cons_succ])
  refine plan_val (by kernel_rfl) (by kernel_rfl) (by kernel_rfl) (by go_simp) (fun w1 hw1 => ?_) ?_
  · obtain ⟨hc, hf⟩ := bcell hw1; clear hw1; go_simp; (try with_reducible rfl)
  (try simp only [Act.put, List.setIfInBounds_toArray, List.set_cons_zero, List.set_cons_succ])
  refine plan_val (by kernel_rfl) (by kernel_rfl) (by kernel_rfl) (by go_simp) (fun w1 hw1 => ?_) ?_
  · obtain ⟨hc, hf⟩ := bcell hw1; clear hw1; go_simp; (try with_reducible rfl)
  (try simp only [Act.put, List.setIfInBounds_toArray, List.set_cons_zero, List.set_cons_succ])
  refine plan_call [12] 91 #[.slice (some ⟨p12, 0, none⟩) 2 2, .func (.func 56) #[.agg #[.int .i64 xa, .int .i64 ya, .int .i64 xb, .int .i64 yb]] #[]] (by kernel_rfl) (by kernel_rfl) (by kernel_rfl) (by kernel_rfl) (by go_simp) (fun w1 hw1 => ?_) (fun w1 hC => ?_) ?_
  · clear hw1; go_simp; (try with_reducible rfl)
  · obtain ⟨z1, z2, z3⟩ := hC.2 ⟨12, p12, _⟩ ⟨Or.inl rfl, rfl⟩
    obtain ⟨c0, f0, c1, f1, c2, f2, c3, f3⟩ := cells4_of z3
    have := has_any xc yc xd yd xa ya xb yb p12 w1 HC.out HD.out HA.out HB.out z2 c0 c1 c2 c3
    rw [H2.out] at this; exact this
  (try simp only [Act.put, List.setIfInBounds_toArray, List.set_cons_zero, List.set_cons_succ])
  refine plan_val (by kernel_rfl) (by kernel_rfl) (by kernel_rfl) (by go_simp) (fun w1 hw1 => ?_) ?_
  · obtain ⟨hc, hf⟩ := bcell hw1; clear hw1; go_simp; (try with_reducible rfl)
  (try simp only [Act.put, List.setIfInBounds_toArray, List.set_cons_zero, List.set_cons_succ])
  refine plan_val (by kernel_rfl) (by kernel_rfl) (by kernel_rfl) (by go_simp) (fun w1 hw1 => ?_) ?_
  · obtain ⟨hc, hf⟩ := bcell hw1; clear hw1; go_simp; (try with_reducible rfl)
  (try simp only [Act.put, List.setIfInBounds_toArray, List.set_cons_zero, List.set_cons_succ])
  refine plan_done (by kernel_rfl) (fun w2 hC => ?_)
  have HB1 := Lib.hid hC.1
  clear hC
  go_wp2
  go_ret
  exact ⟨rfl, bseq (two_allocs _ _) HB1.out⟩
theorem touches_any (xa ya xb yb xc yc xd yd : Int) (w : World) (ha : okI xa ya = true) (hb : okI xb yb = true) (hc : okI xc yc = true) (hd : okI xd yd = true) :
    Calls Try.prog 52 #[.agg #[.int .i64 xa, .int .i64 ya, .int .i64 xb, .int .i64 yb], .agg #[.int .i64 xc, .int .i64 yc, .int .i64 xd, .int .i64 yd]] w fun e w' => e = .returned (.bool (tcB xa ya xb yb xc yc xd yd)) ∧ Below w.heap.size w w' := by
  cases h0 : csB xa ya xb yb xc yc xd yd
  rotate_left
  · rw [show tcB xa ya xb yb xc yc xd yd = true by unfold tcB; rw [h0]; rfl]
    exact touch_cross _ _ _ _ _ _ _ _ w ha hb hc hd h0
  have hs : tcB xa ya xb yb xc yc xd yd = ((onB xc yc xd yd xa ya || onB xc yc xd yd xb yb) || (onB xa ya xb yb xc yc || onB xa ya xb yb xd yd)) := by
    unfold tcB; rw [h0]
    cases onB xa ya xb yb xc yc <;> cases onB xa ya xb yb xd yd <;> cases onB xc yc xd yd xa ya <;> cases onB xc yc xd yd xb yb <;> rfl
  rw [hs]; clear hs
  cases h1 : (onB xc yc xd yd xa ya || onB xc yc xd yd xb yb)
  rotate_left
  · exact touch_one _ _ _ _ _ _ _ _ w ha hb hc hd h0 h1
  cases h2 : (onB xa ya xb yb xc yc || onB xa ya xb yb xd yd)
  · exact touch_none _ _ _ _ _ _ _ _ w ha hb hc hd h0 h1 h2
  · exact touch_two _ _ _ _ _ _ _ _ w ha hb hc hd h0 h1 h2
end Go.Proofs.Ytcbbhpabiijpoaa
