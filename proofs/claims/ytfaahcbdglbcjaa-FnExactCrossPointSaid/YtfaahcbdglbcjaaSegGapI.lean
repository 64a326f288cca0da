/- The distance of two segments, of impl. -/
import Derived.Test.YtfaahcbdglbcjaaSegExp3
import Derived.Test.YtfaahcbdglbcjaaSegTouch
import Derived.Test.YtfaahcbdglbcjaaLeast
namespace Go.Proofs.Ytfaahcbdglbcjaa
open Go.ChangeShapes Go.WideShapes Go.ChangeAt Go.RowKit

set_option maxHeartbeats 2000000 in
theorem gapI_touch (xa ya xb yb xc yc xd yd : Int) (w : World) (ha : okI xa ya = true) (hb : okI xb yb = true) (hc : okI xc yc = true) (hd : okI xd yd = true) (h0 : tcB xa ya xb yb xc yc xd yd = true) :
    Calls Try.prog 20 #[.agg #[.int .i64 xa, .int .i64 ya], .agg #[.int .i64 xb, .int .i64 yb], .agg #[.int .i64 xc, .int .i64 yc], .agg #[.int .i64 xd, .int .i64 yd]] w fun e w' => e = .returned (.int .i64 0) ∧ Below w.heap.size w w' := by
  have HA := Lib.hid ha
  have HB := Lib.hid hb
  have HC := Lib.hid hc
  have HD := Lib.hid hd
  clear ha hb hc hd
  have HV := Lib.hid (v4_of xa ya xb yb xc yc xd yd HA.out HB.out HC.out HD.out)
  go_enter Try.func20, Try.ntmps20
  go_wp2_with fail
  refine (allValid4_yes _ _ _ _ _ _ _ _ _ _ _ (by simp) HV.out).mono ?_
  rintro e w1 ⟨rfl, g1⟩
  obtain ⟨k1, q1⟩ := bcell g1
  have HW1 := Lib.hid g1
  clear g1
  have zw10 : w.heap.size < w1.heap.size := by have := HW1.out.size; simp at this; omega
  have zw11 : w.heap.size + 1 < w1.heap.size := by have := HW1.out.size; simp at this; omega
  have zw12 : w.heap.size + 1 + 1 < w1.heap.size := by have := HW1.out.size; simp at this; omega
  have zw13 : w.heap.size + 1 + 1 + 1 < w1.heap.size := by have := HW1.out.size; simp at this; omega
  go_wp2
  refine wp_region_plan [.val 0 [] (.agg #[.int .i64 xa, .int .i64 ya]), .val 1 [] (.agg #[.int .i64 xb, .int .i64 yb]), .val 2 [] (.agg #[.int .i64 xa, .int .i64 ya, .int .i64 xb, .int .i64 yb]), .val 3 [] (.agg #[.int .i64 xc, .int .i64 yc]), .val 4 [] (.agg #[.int .i64 xd, .int .i64 yd]), .val 5 [] (.agg #[.int .i64 xc, .int .i64 yc, .int .i64 xd, .int .i64 yd]), .make 6 (.cells #[.int .i64 0, .int .i64 0, .int .i64 0, .int .i64 0] 56 (0, 0)) (fun p => .pointer (some ⟨p, 0, none⟩)), .make 7 (.cells #[.int .i64 0, .int .i64 0, .int .i64 0, .int .i64 0] 56 (0, 0)) (fun p => .pointer (some ⟨p, 0, none⟩)), .put 8 6 (.cells #[.int .i64 xa, .int .i64 ya, .int .i64 xb, .int .i64 yb] 56 (0, 0)), .put 9 7 (.cells #[.int .i64 xc, .int .i64 yc, .int .i64 xd, .int .i64 yd] 56 (0, 0))] (by kernel_rfl) (by kernel_rfl) rfl ?_
  refine plan_val (by kernel_rfl) (by kernel_rfl) (by kernel_rfl) (by go_simp) (fun w1 hw1 => ?_) ?_
  · obtain ⟨hc, hf⟩ := bcell hw1; clear hw1; go_simp; (try with_reducible rfl)
  (try simp only [Act.put, List.setIfInBounds_toArray, List.set_cons_zero, List.set_cons_succ])
  refine plan_val (by kernel_rfl) (by kernel_rfl) (by kernel_rfl) (by go_simp) (fun w1 hw1 => ?_) ?_
  · obtain ⟨hc, hf⟩ := bcell hw1; clear hw1; go_simp; (try with_reducible rfl)
  (try simp only [Act.put, List.setIfInBounds_toArray, List.set_cons_zero, List.set_cons_succ])
  refine plan_val (by kernel_rfl) (by kernel_rfl) (by kernel_rfl) (by go_simp) (fun w1 hw1 => ?_) ?_
  · obtain ⟨hc, hf⟩ := bcell hw1; clear hw1; go_simp; (try with_reducible rfl)
  (try simp only [Act.put, List.setIfInBounds_toArray, List.set_cons_zero, List.set_cons_succ])
  refine plan_val (by kernel_rfl) (by kernel_rfl) (by kernel_rfl) (by go_simp) (fun w1 hw1 => ?_) ?_
  · obtain ⟨hc, hf⟩ := bcell hw1; clear hw1; go_simp; (try with_reducible rfl)
  (try simp only [Act.put, List.setIfInBounds_toArray, List.set_cons_zero, List.set_cons_succ])
  refine plan_val (by kernel_rfl) (by kernel_rfl) (by kernel_rfl) (by go_simp) (fun w1 hw1 => ?_) ?_
  · obtain ⟨hc, hf⟩ := bcell hw1; clear hw1; go_simp; (try with_reducible rfl)
  (try simp only [Act.put, List.setIfInBounds_toArray, List.set_cons_zero, List.set_cons_succ])
  refine plan_val (by kernel_rfl) (by kernel_rfl) (by kernel_rfl) (by go_simp) (fun w1 hw1 => ?_) ?_
  · obtain ⟨hc, hf⟩ := bcell hw1; clear hw1; go_simp; (try with_reducible rfl)
  (try simp only [Act.put, List.setIfInBounds_toArray, List.set_cons_zero, List.set_cons_succ])
  refine plan_make (by kernel_rfl) (by kernel_rfl) (by go_simp) (fun w1 => ?_) (fun p6 hp6 => ?_)
  · go_simp; (try with_reducible rfl)
  (try simp only [Act.put, List.setIfInBounds_toArray, List.set_cons_zero, List.set_cons_succ])
  refine plan_make (by kernel_rfl) (by kernel_rfl) (by go_simp) (fun w1 => ?_) (fun p7 hp7 => ?_)
  · go_simp; (try with_reducible rfl)
  (try simp only [Act.put, List.setIfInBounds_toArray, List.set_cons_zero, List.set_cons_succ])
  refine plan_put (p := p6) (by kernel_rfl) (by kernel_rfl) (by kernel_rfl) (by kernel_rfl) (by go_simp) (Or.inr (Or.inl rfl)) (fun w1 hg hh => ?_) ?_
  · obtain ⟨c0, f0, c1, f1, c2, f2, c3, f3⟩ := cells4_of hh
    refine ⟨_, ?_, stored4 hh⟩
    clear hh hg; go_simp; (try with_reducible rfl)
  (try simp only [Act.put])
  refine plan_put (p := p7) (by kernel_rfl) (by kernel_rfl) (by kernel_rfl) (by kernel_rfl) (by go_simp) (Or.inl ⟨Or.inl rfl, (fun h => by cases h)⟩) (fun w1 hg hh => ?_) ?_
  · obtain ⟨c0, f0, c1, f1, c2, f2, c3, f3⟩ := cells4_of hh
    refine ⟨_, ?_, stored4 hh⟩
    clear hh hg; go_simp; (try with_reducible rfl)
  (try simp only [Act.put])
  refine plan_done (by kernel_rfl) (fun w2 hC => ?_)
  obtain ⟨b6, s6, g6⟩ := hC.2 ⟨6, p6, _⟩ (Or.inl ⟨Or.inr ⟨⟨6, p6, _⟩, Or.inr (Or.inl rfl), rfl, rfl⟩, (fun h => by cases h)⟩)
  obtain ⟨b7, s7, g7⟩ := hC.2 ⟨7, p7, _⟩ (Or.inr ⟨⟨7, p7, _⟩, Or.inl ⟨Or.inl rfl, (fun h => by cases h)⟩, rfl, rfl⟩)
  obtain ⟨c60, f60, c61, f61, c62, f62, c63, f63⟩ := cells4_of g6
  obtain ⟨c70, f70, c71, f71, c72, f72, c73, f73⟩ := cells4_of g7
  obtain ⟨k2, q2⟩ := bcell hC.1
  have HB2 := Lib.hid hC.1
  have zw20 : w.heap.size < w2.heap.size := by have := hC.1.size; omega
  have zw21 : w.heap.size + 1 < w2.heap.size := by have := hC.1.size; omega
  have zw22 : w.heap.size + 1 + 1 < w2.heap.size := by have := hC.1.size; omega
  have zw23 : w.heap.size + 1 + 1 + 1 < w2.heap.size := by have := hC.1.size; omega
  clear hC g6 g7 f60 f61 f62 f63 f70 f71 f72 f73 hp6 hp7
  go_wp2_with fail
  refine (touches_any _ _ _ _ _ _ _ _ _ HA.out HB.out HC.out HD.out).mono ?_
  rintro e w3 ⟨rfl, g3⟩
  have HB3 := Lib.hid g3
  clear g3 k1 q1 k2 q2
  go_wp2
  go_ret
  exact ⟨rfl, bseq (bseq (bseq (five_allocs _ _ _ _ _) HW1.out) HB2.out) HB3.out⟩
theorem lo4 (a b c d : Int) : loI a [b, c, d] = min (min a b) (min c d) := by
  show min (min (min a b) c) d = _
  omega
set_option maxHeartbeats 4000000 in
theorem gapI_apart (xa ya xb yb xc yc xd yd : Int) (w : World) (ha : okI xa ya = true) (hb : okI xb yb = true) (hc : okI xc yc = true) (hd : okI xd yd = true) (h0 : tcB xa ya xb yb xc yc xd yd = false) :
    Calls Try.prog 20 #[.agg #[.int .i64 xa, .int .i64 ya], .agg #[.int .i64 xb, .int .i64 yb], .agg #[.int .i64 xc, .int .i64 yc], .agg #[.int .i64 xd, .int .i64 yd]] w fun e w' => e = .returned (.int .i64 (min (min (farI xa ya xb yb xc yc) (farI xa ya xb yb xd yd)) (min (farI xc yc xd yd xa ya) (farI xc yc xd yd xb yb)))) ∧ Below w.heap.size w w' := by
  have HA := Lib.hid ha
  have HB := Lib.hid hb
  have HC := Lib.hid hc
  have HD := Lib.hid hd
  clear ha hb hc hd
  have HV := Lib.hid (v4_of xa ya xb yb xc yc xd yd HA.out HB.out HC.out HD.out)
  go_enter Try.func20, Try.ntmps20
  go_wp2_with fail
  refine (allValid4_yes _ _ _ _ _ _ _ _ _ _ _ (by simp) HV.out).mono ?_
  rintro e w1 ⟨rfl, g1⟩
  obtain ⟨k1, q1⟩ := bcell g1
  have HW1 := Lib.hid g1
  clear g1
  have zw10 : w.heap.size < w1.heap.size := by have := HW1.out.size; simp at this; omega
  have zw11 : w.heap.size + 1 < w1.heap.size := by have := HW1.out.size; simp at this; omega
  have zw12 : w.heap.size + 1 + 1 < w1.heap.size := by have := HW1.out.size; simp at this; omega
  have zw13 : w.heap.size + 1 + 1 + 1 < w1.heap.size := by have := HW1.out.size; simp at this; omega
  go_wp2
  refine wp_region_plan [.val 0 [] (.agg #[.int .i64 xa, .int .i64 ya]), .val 1 [] (.agg #[.int .i64 xb, .int .i64 yb]), .val 2 [] (.agg #[.int .i64 xa, .int .i64 ya, .int .i64 xb, .int .i64 yb]), .val 3 [] (.agg #[.int .i64 xc, .int .i64 yc]), .val 4 [] (.agg #[.int .i64 xd, .int .i64 yd]), .val 5 [] (.agg #[.int .i64 xc, .int .i64 yc, .int .i64 xd, .int .i64 yd]), .make 6 (.cells #[.int .i64 0, .int .i64 0, .int .i64 0, .int .i64 0] 56 (0, 0)) (fun p => .pointer (some ⟨p, 0, none⟩)), .make 7 (.cells #[.int .i64 0, .int .i64 0, .int .i64 0, .int .i64 0] 56 (0, 0)) (fun p => .pointer (some ⟨p, 0, none⟩)), .put 8 6 (.cells #[.int .i64 xa, .int .i64 ya, .int .i64 xb, .int .i64 yb] 56 (0, 0)), .put 9 7 (.cells #[.int .i64 xc, .int .i64 yc, .int .i64 xd, .int .i64 yd] 56 (0, 0))] (by kernel_rfl) (by kernel_rfl) rfl ?_
  refine plan_val (by kernel_rfl) (by kernel_rfl) (by kernel_rfl) (by go_simp) (fun w1 hw1 => ?_) ?_
  · obtain ⟨hc, hf⟩ := bcell hw1; clear hw1; go_simp; (try with_reducible rfl)
  (try simp only [Act.put, List.setIfInBounds_toArray, List.set_cons_zero, List.set_cons_succ])
  refine plan_val (by kernel_rfl) (by kernel_rfl) (by kernel_rfl) (by go_simp) (fun w1 hw1 => ?_) ?_
  · obtain ⟨hc, hf⟩ := bcell hw1; clear hw1; go_simp; (try with_reducible rfl)
  (try simp only [Act.put, List.setIfInBounds_toArray, List.set_cons_zero, List.set_cons_succ])
  refine plan_val (by kernel_rfl) (by kernel_rfl) (by kernel_rfl) (by go_simp) (fun w1 hw1 => ?_) ?_
  · obtain ⟨hc, hf⟩ := bcell hw1; clear hw1; go_simp; (try with_reducible rfl)
  (try simp only [Act.put, List.setIfInBounds_toArray, List.set_cons_zero, List.set_cons_succ])
  refine plan_val (by kernel_rfl) (by kernel_rfl) (by kernel_rfl) (by go_simp) (fun w1 hw1 => ?_) ?_
  · obtain ⟨hc, hf⟩ := bcell hw1; clear hw1; go_simp; (try with_reducible rfl)
  (try simp only [Act.put, List.setIfInBounds_toArray, List.set_cons_zero, List.set_cons_succ])
  refine plan_val (by kernel_rfl) (by kernel_rfl) (by kernel_rfl) (by go_simp) (fun w1 hw1 => ?_) ?_
  · obtain ⟨hc, hf⟩ := bcell hw1; clear hw1; go_simp; (try with_reducible rfl)
  (try simp only [Act.put, List.setIfInBounds_toArray, List.set_cons_zero, List.set_cons_succ])
  refine plan_val (by kernel_rfl) (by kernel_rfl) (by kernel_rfl) (by go_simp) (fun w1 hw1 => ?_) ?_
  · obtain ⟨hc, hf⟩ := bcell hw1; clear hw1; go_simp; (try with_reducible rfl)
  (try simp only [Act.put, List.setIfInBounds_toArray, List.set_cons_zero, List.set_cons_succ])
  refine plan_make (by kernel_rfl) (by kernel_rfl) (by go_simp) (fun w1 => ?_) (fun p6 hp6 => ?_)
  · go_simp; (try with_reducible rfl)
  (try simp only [Act.put, List.setIfInBounds_toArray, List.set_cons_zero, List.set_cons_succ])
  refine plan_make (by kernel_rfl) (by kernel_rfl) (by go_simp) (fun w1 => ?_) (fun p7 hp7 => ?_)
  · go_simp; (try with_reducible rfl)
  (try simp only [Act.put, List.setIfInBounds_toArray, List.set_cons_zero, List.set_cons_succ])
  refine plan_put (p := p6) (by kernel_rfl) (by kernel_rfl) (by kernel_rfl) (by kernel_rfl) (by go_simp) (Or.inr (Or.inl rfl)) (fun w1 hg hh => ?_) ?_
  · obtain ⟨c0, f0, c1, f1, c2, f2, c3, f3⟩ := cells4_of hh
    refine ⟨_, ?_, stored4 hh⟩
    clear hh hg; go_simp; (try with_reducible rfl)
  (try simp only [Act.put])
  refine plan_put (p := p7) (by kernel_rfl) (by kernel_rfl) (by kernel_rfl) (by kernel_rfl) (by go_simp) (Or.inl ⟨Or.inl rfl, (fun h => by cases h)⟩) (fun w1 hg hh => ?_) ?_
  · obtain ⟨c0, f0, c1, f1, c2, f2, c3, f3⟩ := cells4_of hh
    refine ⟨_, ?_, stored4 hh⟩
    clear hh hg; go_simp; (try with_reducible rfl)
  (try simp only [Act.put])
  refine plan_done (by kernel_rfl) (fun w2 hC => ?_)
  obtain ⟨b6, s6, g6⟩ := hC.2 ⟨6, p6, _⟩ (Or.inl ⟨Or.inr ⟨⟨6, p6, _⟩, Or.inr (Or.inl rfl), rfl, rfl⟩, (fun h => by cases h)⟩)
  obtain ⟨b7, s7, g7⟩ := hC.2 ⟨7, p7, _⟩ (Or.inr ⟨⟨7, p7, _⟩, Or.inl ⟨Or.inl rfl, (fun h => by cases h)⟩, rfl, rfl⟩)
  obtain ⟨c60, f60, c61, f61, c62, f62, c63, f63⟩ := cells4_of g6
  obtain ⟨c70, f70, c71, f71, c72, f72, c73, f73⟩ := cells4_of g7
  obtain ⟨k2, q2⟩ := bcell hC.1
  have HB2 := Lib.hid hC.1
  have zw20 : w.heap.size < w2.heap.size := by have := hC.1.size; omega
  have zw21 : w.heap.size + 1 < w2.heap.size := by have := hC.1.size; omega
  have zw22 : w.heap.size + 1 + 1 < w2.heap.size := by have := hC.1.size; omega
  have zw23 : w.heap.size + 1 + 1 + 1 < w2.heap.size := by have := hC.1.size; omega
  clear hC g6 g7 f60 f61 f62 f63 f70 f71 f72 f73 hp6 hp7
  go_wp2_with fail
  refine (touches_any _ _ _ _ _ _ _ _ _ HA.out HB.out HC.out HD.out).mono ?_
  rintro e w3 ⟨rfl, g3⟩
  obtain ⟨k3, q3⟩ := bcell g3
  have HB3 := Lib.hid g3
  clear g3
  have d00 : w3.cell? ⟨w.heap.size, 0, none⟩ = some (.int .i64 xa) := by rw [k3 _ _ zw20, k2 _ _ zw10, k1 _ _ (by simp <;> omega)]; go_simp
  have d01 : w3.cell? ⟨w.heap.size, 1, none⟩ = some (.int .i64 ya) := by rw [k3 _ _ zw20, k2 _ _ zw10, k1 _ _ (by simp <;> omega)]; go_simp
  have d10 : w3.cell? ⟨w.heap.size + 1, 0, none⟩ = some (.int .i64 xb) := by rw [k3 _ _ zw21, k2 _ _ zw11, k1 _ _ (by simp <;> omega)]; go_simp
  have d11 : w3.cell? ⟨w.heap.size + 1, 1, none⟩ = some (.int .i64 yb) := by rw [k3 _ _ zw21, k2 _ _ zw11, k1 _ _ (by simp <;> omega)]; go_simp
  have d20 : w3.cell? ⟨w.heap.size + 1 + 1, 0, none⟩ = some (.int .i64 xc) := by rw [k3 _ _ zw22, k2 _ _ zw12, k1 _ _ (by simp <;> omega)]; go_simp
  have d21 : w3.cell? ⟨w.heap.size + 1 + 1, 1, none⟩ = some (.int .i64 yc) := by rw [k3 _ _ zw22, k2 _ _ zw12, k1 _ _ (by simp <;> omega)]; go_simp
  have d30 : w3.cell? ⟨w.heap.size + 1 + 1 + 1, 0, none⟩ = some (.int .i64 xd) := by rw [k3 _ _ zw23, k2 _ _ zw13, k1 _ _ (by simp <;> omega)]; go_simp
  have d31 : w3.cell? ⟨w.heap.size + 1 + 1 + 1, 1, none⟩ = some (.int .i64 yd) := by rw [k3 _ _ zw23, k2 _ _ zw13, k1 _ _ (by simp <;> omega)]; go_simp
  have e60 : w3.cell? ⟨p6, 0, none⟩ = some (.int .i64 xa) := (k3 _ _ s6).trans c60
  have e61 : w3.cell? ⟨p6, 1, none⟩ = some (.int .i64 ya) := (k3 _ _ s6).trans c61
  have e62 : w3.cell? ⟨p6, 2, none⟩ = some (.int .i64 xb) := (k3 _ _ s6).trans c62
  have e63 : w3.cell? ⟨p6, 3, none⟩ = some (.int .i64 yb) := (k3 _ _ s6).trans c63
  have e70 : w3.cell? ⟨p7, 0, none⟩ = some (.int .i64 xc) := (k3 _ _ s7).trans c70
  have e71 : w3.cell? ⟨p7, 1, none⟩ = some (.int .i64 yc) := (k3 _ _ s7).trans c71
  have e72 : w3.cell? ⟨p7, 2, none⟩ = some (.int .i64 xd) := (k3 _ _ s7).trans c72
  have e73 : w3.cell? ⟨p7, 3, none⟩ = some (.int .i64 yd) := (k3 _ _ s7).trans c73
  have zw30 : w.heap.size < w3.heap.size := by have := HB3.out.size; omega
  have zw31 : w.heap.size + 1 < w3.heap.size := by have := HB3.out.size; omega
  have zw32 : w.heap.size + 1 + 1 < w3.heap.size := by have := HB3.out.size; omega
  have zw33 : w.heap.size + 1 + 1 + 1 < w3.heap.size := by have := HB3.out.size; omega
  have t6 : p6 < w3.heap.size := Nat.lt_of_lt_of_le s6 HB3.out.size
  have t7 : p7 < w3.heap.size := Nat.lt_of_lt_of_le s7 HB3.out.size
  clear k1 q1 k2 q2 k3 q3 c60 c61 c62 c63 c70 c71 c72 c73
  go_wp2
  refine wp_region_plan [.val 0 [] (.agg #[.int .i64 xa, .int .i64 ya, .int .i64 xb, .int .i64 yb]), .val 1 [] (.agg #[.int .i64 xc, .int .i64 yc]), .val 2 [] (.int .i64 (farI xa ya xb yb xc yc)), .val 3 [] (.agg #[.int .i64 xa, .int .i64 ya, .int .i64 xb, .int .i64 yb]), .val 4 [] (.agg #[.int .i64 xd, .int .i64 yd]), .val 5 [] (.int .i64 (farI xa ya xb yb xd yd)), .val 6 [] (.agg #[.int .i64 xc, .int .i64 yc, .int .i64 xd, .int .i64 yd]), .val 7 [] (.agg #[.int .i64 xa, .int .i64 ya]), .val 8 [] (.int .i64 (farI xc yc xd yd xa ya)), .val 9 [] (.agg #[.int .i64 xc, .int .i64 yc, .int .i64 xd, .int .i64 yd]), .val 10 [] (.agg #[.int .i64 xb, .int .i64 yb]), .val 11 [] (.int .i64 (farI xc yc xd yd xb yb)), .make 12 (.cells #[.int .i64 (farI xa ya xb yb xd yd), .int .i64 (farI xc yc xd yd xa ya), .int .i64 (farI xc yc xd yd xb yb)] 2 (0, 0)) (fun p => .slice (some ⟨p, 0, none⟩) 3 3), .val 13 [12] (.int .i64 (loI (farI xa ya xb yb xc yc) [farI xa ya xb yb xd yd, farI xc yc xd yd xa ya, farI xc yc xd yd xb yb])), .val 14 [] (.int .i64 (loI (farI xa ya xb yb xc yc) [farI xa ya xb yb xd yd, farI xc yc xd yd xa ya, farI xc yc xd yd xb yb]))] (by kernel_rfl) (by kernel_rfl) rfl ?_
  refine plan_val (by kernel_rfl) (by kernel_rfl) (by kernel_rfl) (by go_simp) (fun w1 hw1 => ?_) ?_
  · obtain ⟨hc, hf⟩ := bcell hw1; clear hw1; go_simp; (try with_reducible rfl)
  (try simp only [Act.put, List.setIfInBounds_toArray, List.set_cons_zero, List.set_cons_succ])
  refine plan_val (by kernel_rfl) (by kernel_rfl) (by kernel_rfl) (by go_simp) (fun w1 hw1 => ?_) ?_
  · obtain ⟨hc, hf⟩ := bcell hw1; clear hw1; go_simp; (try with_reducible rfl)
  (try simp only [Act.put, List.setIfInBounds_toArray, List.set_cons_zero, List.set_cons_succ])
  refine plan_call [] 51 #[.agg #[.int .i64 xa, .int .i64 ya, .int .i64 xb, .int .i64 yb], .agg #[.int .i64 xc, .int .i64 yc]] (by kernel_rfl) (by kernel_rfl) (by kernel_rfl) (by kernel_rfl) (by go_simp) (fun w1 hw1 => ?_) (fun w1 hC => ?_) ?_
  · clear hw1; go_simp; (try with_reducible rfl)
  · exact far_any _ _ _ _ _ _ _ HA.out HB.out HC.out
  (try simp only [Act.put, List.setIfInBounds_toArray, List.set_cons_zero, List.set_cons_succ])
  refine plan_val (by kernel_rfl) (by kernel_rfl) (by kernel_rfl) (by go_simp) (fun w1 hw1 => ?_) ?_
  · obtain ⟨hc, hf⟩ := bcell hw1; clear hw1; go_simp; (try with_reducible rfl)
  (try simp only [Act.put, List.setIfInBounds_toArray, List.set_cons_zero, List.set_cons_succ])
  refine plan_val (by kernel_rfl) (by kernel_rfl) (by kernel_rfl) (by go_simp) (fun w1 hw1 => ?_) ?_
  · obtain ⟨hc, hf⟩ := bcell hw1; clear hw1; go_simp; (try with_reducible rfl)
  (try simp only [Act.put, List.setIfInBounds_toArray, List.set_cons_zero, List.set_cons_succ])
  refine plan_call [] 51 #[.agg #[.int .i64 xa, .int .i64 ya, .int .i64 xb, .int .i64 yb], .agg #[.int .i64 xd, .int .i64 yd]] (by kernel_rfl) (by kernel_rfl) (by kernel_rfl) (by kernel_rfl) (by go_simp) (fun w1 hw1 => ?_) (fun w1 hC => ?_) ?_
  · clear hw1; go_simp; (try with_reducible rfl)
  · exact far_any _ _ _ _ _ _ _ HA.out HB.out HD.out
  (try simp only [Act.put, List.setIfInBounds_toArray, List.set_cons_zero, List.set_cons_succ])
  refine plan_val (by kernel_rfl) (by kernel_rfl) (by kernel_rfl) (by go_simp) (fun w1 hw1 => ?_) ?_
  · obtain ⟨hc, hf⟩ := bcell hw1; clear hw1; go_simp; (try with_reducible rfl)
  (try simp only [Act.put, List.setIfInBounds_toArray, List.set_cons_zero, List.set_cons_succ])
  refine plan_val (by kernel_rfl) (by kernel_rfl) (by kernel_rfl) (by go_simp) (fun w1 hw1 => ?_) ?_
  · obtain ⟨hc, hf⟩ := bcell hw1; clear hw1; go_simp; (try with_reducible rfl)
  (try simp only [Act.put, List.setIfInBounds_toArray, List.set_cons_zero, List.set_cons_succ])
  refine plan_call [] 51 #[.agg #[.int .i64 xc, .int .i64 yc, .int .i64 xd, .int .i64 yd], .agg #[.int .i64 xa, .int .i64 ya]] (by kernel_rfl) (by kernel_rfl) (by kernel_rfl) (by kernel_rfl) (by go_simp) (fun w1 hw1 => ?_) (fun w1 hC => ?_) ?_
  · clear hw1; go_simp; (try with_reducible rfl)
  · exact far_any _ _ _ _ _ _ _ HC.out HD.out HA.out
  (try simp only [Act.put, List.setIfInBounds_toArray, List.set_cons_zero, List.set_cons_succ])
  refine plan_val (by kernel_rfl) (by kernel_rfl) (by kernel_rfl) (by go_simp) (fun w1 hw1 => ?_) ?_
  · obtain ⟨hc, hf⟩ := bcell hw1; clear hw1; go_simp; (try with_reducible rfl)
  (try simp only [Act.put, List.setIfInBounds_toArray, List.set_cons_zero, List.set_cons_succ])
  refine plan_val (by kernel_rfl) (by kernel_rfl) (by kernel_rfl) (by go_simp) (fun w1 hw1 => ?_) ?_
  · obtain ⟨hc, hf⟩ := bcell hw1; clear hw1; go_simp; (try with_reducible rfl)
  (try simp only [Act.put, List.setIfInBounds_toArray, List.set_cons_zero, List.set_cons_succ])
  refine plan_call [] 51 #[.agg #[.int .i64 xc, .int .i64 yc, .int .i64 xd, .int .i64 yd], .agg #[.int .i64 xb, .int .i64 yb]] (by kernel_rfl) (by kernel_rfl) (by kernel_rfl) (by kernel_rfl) (by go_simp) (fun w1 hw1 => ?_) (fun w1 hC => ?_) ?_
  · clear hw1; go_simp; (try with_reducible rfl)
  · exact far_any _ _ _ _ _ _ _ HC.out HD.out HB.out
  (try simp only [Act.put, List.setIfInBounds_toArray, List.set_cons_zero, List.set_cons_succ])
  refine plan_make (by kernel_rfl) (by kernel_rfl) (by go_simp) (fun w1 => ?_) (fun p12 hp12 => ?_)
  · go_simp; (try with_reducible rfl)
  (try simp only [Act.put, List.setIfInBounds_toArray, List.set_cons_zero, List.set_cons_succ])
  refine plan_call [12] 50 #[.int .i64 (farI xa ya xb yb xc yc), .slice (some ⟨p12, 0, none⟩) 3 3] (by kernel_rfl) (by kernel_rfl) (by kernel_rfl) (by kernel_rfl) (by go_simp) (fun w1 hw1 => ?_) (fun w1 hC => ?_) ?_
  · clear hw1; go_simp; (try with_reducible rfl)
  · obtain ⟨y1, y2, y3⟩ := hC.2 ⟨12, p12, _⟩ ⟨Or.inl rfl, rfl⟩
    obtain ⟨c0, f0, c1, f1, c2, f2⟩ := cells3_of y3
    refine (least_any _ p12 0 3 3 [farI xa ya xb yb xd yd, farI xc yc xd yd xa ya, farI xc yc xd yd xb yb] w1 rfl (by omega) (fun j hj => ?_)).mono (fun e w2 h => ⟨h.1, h.2 ▸ Below.refl _ _⟩)
    match j, hj with
    | 0, _ => exact c0
    | 1, _ => exact c1
    | 2, _ => exact c2
  (try simp only [Act.put, List.setIfInBounds_toArray, List.set_cons_zero, List.set_cons_succ])
  refine plan_val (by kernel_rfl) (by kernel_rfl) (by kernel_rfl) (by go_simp) (fun w1 hw1 => ?_) ?_
  · obtain ⟨hc, hf⟩ := bcell hw1; clear hw1; go_simp; (try with_reducible rfl)
  (try simp only [Act.put, List.setIfInBounds_toArray, List.set_cons_zero, List.set_cons_succ])
  refine plan_done (by kernel_rfl) (fun w4 hC => ?_)
  have HB4 := Lib.hid hC.1
  clear hC
  go_wp2
  go_ret
  exact ⟨ret_int (lo4 _ _ _ _), bseq (bseq (bseq (bseq (five_allocs _ _ _ _ _) HW1.out) HB2.out) HB3.out) HB4.out⟩
theorem gapI_yes (xa ya xb yb xc yc xd yd : Int) (w : World) (ha : okI xa ya = true) (hb : okI xb yb = true) (hc : okI xc yc = true) (hd : okI xd yd = true) :
    Calls Try.prog 20 #[.agg #[.int .i64 xa, .int .i64 ya], .agg #[.int .i64 xb, .int .i64 yb], .agg #[.int .i64 xc, .int .i64 yc], .agg #[.int .i64 xd, .int .i64 yd]] w fun e w' => e = .returned (.int .i64 (gapI xa ya xb yb xc yc xd yd)) ∧ Below w.heap.size w w' := by
  unfold gapI
  cases h0 : tcB xa ya xb yb xc yc xd yd
  · exact gapI_apart _ _ _ _ _ _ _ _ w ha hb hc hd h0
  · exact gapI_touch _ _ _ _ _ _ _ _ w ha hb hc hd h0
theorem gapI_no (xa ya xb yb xc yc xd yd : Int) (w : World) (hv : (okI xa ya && okI xb yb && okI xc yc && okI xd yd) = false) :
    Calls Try.prog 20 #[.agg #[.int .i64 xa, .int .i64 ya], .agg #[.int .i64 xb, .int .i64 yb], .agg #[.int .i64 xc, .int .i64 yc], .agg #[.int .i64 xd, .int .i64 yd]] w fun e w' => e = .returned (.int .i64 (-1)) ∧ Below w.heap.size w w' := by
  have HV := Lib.hid hv
  clear hv
  go_enter Try.func20, Try.ntmps20
  go_wp2_with fail
  refine (allValid4_no _ _ _ _ _ _ _ _ _ _ _ (by simp) HV.out).mono ?_
  rintro e w1 ⟨rfl, g1⟩
  obtain ⟨k1, q1⟩ := bcell g1
  have HW1 := Lib.hid g1
  clear g1
  clear k1 q1
  go_wp2
  go_ret
  exact ⟨rfl, bseq (five_allocs _ _ _ _ _) HW1.out⟩
end Go.Proofs.Ytfaahcbdglbcjaa
