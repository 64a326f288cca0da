/- Distances of impl over valid points. -/
import Derived.Test.YtjhmpmaademdcaaK1
import Derived.Test.YtjhmpmaademdcaaPlan
import Derived.Test.YtjhmpmaademdcaaRootImpl
namespace Go.Proofs.Ytjhmpmaademdcaa
open Go.ChangeShapes Go.WideShapes Go.ChangeAt Go.RowKit

set_option maxHeartbeats 1000000 in
theorem apart_any (xa ya xp yp : Int) (w : World) (ha : okI xa ya = true) (hp : okI xp yp = true) :
    Calls Try.prog 174 #[.agg #[.int .i64 xa, .int .i64 ya], .agg #[.int .i64 xp, .int .i64 yp]] w fun e w' => e = .returned (.int .i64 (rootI (sqI xa ya xp yp))) ∧ Below w.heap.size w w' := by
  have m1 := mulB (xp - xa) (xp - xa) 20000 20000
  have m2 := mulB (yp - ya) (yp - ya) 20000 20000
  have hs := Lib.hid (show rootI ((xp - xa) * (xp - xa) + (yp - ya) * (yp - ya)) = rootI (sqI xa ya xp yp) by rw [← sq_swap]; rfl)
  have ba := ok_bd ha
  have bp := ok_bd hp
  have HA := Lib.hid ha
  have HP := Lib.hid hp
  clear ha hp
  replace m1 := m1 (by omega) (by omega) (by omega) (by omega)
  replace m2 := m2 (by omega) (by omega) (by omega) (by omega)
  go_enter Try.func174, Try.ntmps174
  go_wp2_with fail
  refine (minus_any _ _ _ _ _ (by omega) (by omega) (by omega) (by omega)).mono ?_
  rintro e w1 ⟨rfl, hb1⟩
  have HB1 := Lib.hid hb1
  clear hb1
  go_wp2_with fail
  refine (dot_any _ _ _ _ _ (by omega) (by omega) (by omega) (by omega)).mono ?_
  rintro e w2 ⟨rfl, hb2⟩
  have HB2 := Lib.hid hb2
  clear hb2
  go_wp2_with fail
  refine (root_impl _ _ (by omega)).mono ?_
  rintro e w3 ⟨rfl, rfl⟩
  go_wp2
  go_ret
  exact ⟨ret_int hs.out, bseq ((bseq (two_allocs _ _) HB1.out).alloc (bseq (two_allocs _ _) HB1.out).size _) HB2.out⟩
theorem far_cases (xa ya xb yb xp yp : Int) : farI xa ya xb yb xp yp = if alI xa ya xb yb xp yp ≤ 0 then rootI (sqI xa ya xp yp) else if sqI xa ya xb yb ≤ alI xa ya xb yb xp yp then rootI (sqI xb yb xp yp)
  else rootI (crI xa ya xb yb xp yp * crI xa ya xb yb xp yp / sqI xa ya xb yb) := rfl
set_option maxHeartbeats 2000000 in
theorem far_start (xa ya xb yb xp yp : Int) (w : World) (ha : okI xa ya = true) (hb : okI xb yb = true) (hp : okI xp yp = true) (h0 : (xb - xa) * (xp - xa) + (yb - ya) * (yp - ya) ≤ 0) :
    Calls Try.prog 119 #[.agg #[.int .i64 xa, .int .i64 ya, .int .i64 xb, .int .i64 yb], .agg #[.int .i64 xp, .int .i64 yp]] w fun e w' => e = .returned (.int .i64 (rootI (sqI xa ya xp yp))) ∧ Below w.heap.size w w' := by
  have m1 := mulB (xb - xa) (xp - xa) 20000 20000
  have m2 := mulB (yb - ya) (yp - ya) 20000 20000
  have m3 := mulB (xb - xa) (xb - xa) 20000 20000
  have m4 := mulB (yb - ya) (yb - ya) 20000 20000
  have ba := ok_bd ha
  have bb := ok_bd hb
  have bp := ok_bd hp
  have HA := Lib.hid ha
  have HB := Lib.hid hb
  have HP := Lib.hid hp
  clear ha hb hp
  replace m1 := m1 (by omega) (by omega) (by omega) (by omega)
  replace m2 := m2 (by omega) (by omega) (by omega) (by omega)
  replace m3 := m3 (by omega) (by omega) (by omega) (by omega)
  replace m4 := m4 (by omega) (by omega) (by omega) (by omega)
  go_enter Try.func119, Try.ntmps119
  go_wp2
  refine wp_region_plan [.val 0 [] (.agg #[.int .i64 xa, .int .i64 ya, .int .i64 xb, .int .i64 yb]), .val 1 [] (.agg #[.int .i64 (xb - xa), .int .i64 (yb - ya)]), .val 2 [] (.agg #[.int .i64 xp, .int .i64 yp]), .val 3 [] (.pointer (some ⟨w.heap.size, 0, none⟩)), .val 4 [] (.agg #[.int .i64 xa, .int .i64 ya]), .val 5 [] (.agg #[.int .i64 (xp - xa), .int .i64 (yp - ya)]), .make 6 (.cells #[.int .i64 0, .int .i64 0] 30 (0, 0)) (fun p => .pointer (some ⟨p, 0, none⟩)), .make 7 (.cells #[.int .i64 0, .int .i64 0] 30 (0, 0)) (fun p => .pointer (some ⟨p, 0, none⟩)), .put 8 6 (.cells #[.int .i64 (xb - xa), .int .i64 (yb - ya)] 30 (0, 0)), .put 9 7 (.cells #[.int .i64 (xp - xa), .int .i64 (yp - ya)] 30 (0, 0))] (by kernel_rfl) (by kernel_rfl) rfl ?_
  refine plan_val (by kernel_rfl) (by kernel_rfl) (by kernel_rfl) (by go_simp) (fun w1 hw1 => ?_) ?_
  · obtain ⟨hc, hf⟩ := bcell hw1; clear hw1; go_simp; (try with_reducible rfl)
  (try simp only [Act.put, List.setIfInBounds_toArray, List.set_cons_zero, List.set_cons_succ])
  refine plan_call [] 124 #[.agg #[.int .i64 xa, .int .i64 ya, .int .i64 xb, .int .i64 yb]] (by kernel_rfl) (by kernel_rfl) (by kernel_rfl) (by kernel_rfl) (by go_simp) (fun w1 hw1 => ?_) (fun w1 hC => ?_) ?_
  · clear hw1; go_simp; (try with_reducible rfl)
  · exact step_any _ _ _ _ _ HA.out HB.out
  (try simp only [Act.put, List.setIfInBounds_toArray, List.set_cons_zero, List.set_cons_succ])
  refine plan_val (by kernel_rfl) (by kernel_rfl) (by kernel_rfl) (by go_simp) (fun w1 hw1 => ?_) ?_
  · obtain ⟨hc, hf⟩ := bcell hw1; clear hw1; go_simp; (try with_reducible rfl)
  (try simp only [Act.put, List.setIfInBounds_toArray, List.set_cons_zero, List.set_cons_succ])
  refine plan_val (by kernel_rfl) (by kernel_rfl) (by kernel_rfl) (by go_simp) (fun w1 hw1 => ?_) ?_
  · obtain ⟨hc, hf⟩ := bcell hw1; clear hw1; go_simp; (try with_reducible rfl)
  (try simp only [Act.put, List.setIfInBounds_toArray, List.set_cons_zero, List.set_cons_succ])
  refine plan_val (by kernel_rfl) (by kernel_rfl) (by kernel_rfl) (by go_simp) (fun w1 hw1 => ?_) ?_
  · obtain ⟨hc, hf⟩ := bcell hw1; clear hw1; go_simp; (try with_reducible rfl)
  (try simp only [Act.put, List.setIfInBounds_toArray, List.set_cons_zero, List.set_cons_succ])
  refine plan_call [] 125 #[.agg #[.int .i64 xp, .int .i64 yp], .agg #[.int .i64 xa, .int .i64 ya]] (by kernel_rfl) (by kernel_rfl) (by kernel_rfl) (by kernel_rfl) (by go_simp) (fun w1 hw1 => ?_) (fun w1 hC => ?_) ?_
  · clear hw1; go_simp; (try with_reducible rfl)
  · exact minus_any _ _ _ _ _ (by omega) (by omega) (by omega) (by omega)
  (try simp only [Act.put, List.setIfInBounds_toArray, List.set_cons_zero, List.set_cons_succ])
  refine plan_make (by kernel_rfl) (by kernel_rfl) (by go_simp) (fun w1 => ?_) (fun p6 hp6 => ?_)
  · go_simp; (try with_reducible rfl)
  (try simp only [Act.put, List.setIfInBounds_toArray, List.set_cons_zero, List.set_cons_succ])
  refine plan_make (by kernel_rfl) (by kernel_rfl) (by go_simp) (fun w1 => ?_) (fun p7 hp7 => ?_)
  · go_simp; (try with_reducible rfl)
  (try simp only [Act.put, List.setIfInBounds_toArray, List.set_cons_zero, List.set_cons_succ])
  refine plan_put (p := p6) (by kernel_rfl) (by kernel_rfl) (by kernel_rfl) (by kernel_rfl) (by go_simp) (Or.inr (Or.inl rfl)) (fun w1 hg hh => ?_) ?_
  · obtain ⟨c0, f0, c1, f1⟩ := cells2_of hh
    refine ⟨_, ?_, stored2 hh⟩
    clear hh hg; go_simp; (try with_reducible rfl)
  (try simp only [Act.put])
  refine plan_put (p := p7) (by kernel_rfl) (by kernel_rfl) (by kernel_rfl) (by kernel_rfl) (by go_simp) (Or.inl ⟨Or.inl rfl, (fun h => by cases h)⟩) (fun w1 hg hh => ?_) ?_
  · obtain ⟨c0, f0, c1, f1⟩ := cells2_of hh
    refine ⟨_, ?_, stored2 hh⟩
    clear hh hg; go_simp; (try with_reducible rfl)
  (try simp only [Act.put])
  refine plan_done (by kernel_rfl) (fun w2 hC => ?_)
  obtain ⟨b6, s6, g6⟩ := hC.2 ⟨6, p6, _⟩ (Or.inl ⟨Or.inr ⟨⟨6, p6, _⟩, Or.inr (Or.inl rfl), rfl, rfl⟩, (fun h => by cases h)⟩)
  obtain ⟨b7, s7, g7⟩ := hC.2 ⟨7, p7, _⟩ (Or.inr ⟨⟨7, p7, _⟩, Or.inl ⟨Or.inl rfl, (fun h => by cases h)⟩, rfl, rfl⟩)
  obtain ⟨c60, f60, c61, f61⟩ := cells2_of g6
  obtain ⟨c70, f70, c71, f71⟩ := cells2_of g7
  obtain ⟨k1, k2⟩ := bcell hC.1
  have HB1 := Lib.hid hC.1
  have n0 : w.heap.size < w2.heap.size := by have := hC.1.size; simp at this; omega
  have n1 : w.heap.size + 1 < w2.heap.size := by have := hC.1.size; simp at this; omega
  clear hC g6 g7 f60 f61 f70 f71 hp6 hp7
  go_wp2
  refine wp_region_below (by kernel_rfl) (by kernel_rfl) ?_
  (refine wq_val (by go_simp) ?_; apply Exists.intro; refine ⟨fun w1 hw1 => ?_, ?_⟩; (obtain ⟨hc, hf⟩ := bcell hw1; clear hw1; go_simp; (try with_reducible rfl)); (try simp only [Act.put, List.setIfInBounds_toArray, List.set_cons_zero, List.set_cons_succ]))
  (refine wq_val (by go_simp) ?_; apply Exists.intro; refine ⟨fun w1 hw1 => ?_, ?_⟩; (obtain ⟨hc, hf⟩ := bcell hw1; clear hw1; go_simp; (try with_reducible rfl)); (try simp only [Act.put, List.setIfInBounds_toArray, List.set_cons_zero, List.set_cons_succ]))
  (refine wq_call 173 (by go_simp) ?_; apply Exists.intro; refine ⟨fun w1 hw1 => ?_, ?_⟩; (clear hw1; go_simp; (try with_reducible rfl)); apply Exists.intro; refine ⟨fun w1 hw1 => ?_, ?_⟩; (exact calls_below hw1 (dot_any _ _ _ _ _ (by omega) (by omega) (by omega) (by omega))); (try simp only [Act.put, List.setIfInBounds_toArray, List.set_cons_zero, List.set_cons_succ]))
  (refine wq_val (by go_simp) ?_; apply Exists.intro; refine ⟨fun w1 hw1 => ?_, ?_⟩; (obtain ⟨hc, hf⟩ := bcell hw1; clear hw1; go_simp; (try with_reducible rfl)); (try simp only [Act.put, List.setIfInBounds_toArray, List.set_cons_zero, List.set_cons_succ]))
  (refine wq_val (by go_simp) ?_; apply Exists.intro; refine ⟨fun w1 hw1 => ?_, ?_⟩; (obtain ⟨hc, hf⟩ := bcell hw1; clear hw1; go_simp; (try with_reducible rfl)); (try simp only [Act.put, List.setIfInBounds_toArray, List.set_cons_zero, List.set_cons_succ]))
  (refine wq_call 173 (by go_simp) ?_; apply Exists.intro; refine ⟨fun w1 hw1 => ?_, ?_⟩; (clear hw1; go_simp; (try with_reducible rfl)); apply Exists.intro; refine ⟨fun w1 hw1 => ?_, ?_⟩; (exact calls_below hw1 (dot_any _ _ _ _ _ (by omega) (by omega) (by omega) (by omega))); (try simp only [Act.put, List.setIfInBounds_toArray, List.set_cons_zero, List.set_cons_succ]))
  (refine wq_val (by go_simp) ?_; apply Exists.intro; refine ⟨fun w1 hw1 => ?_, ?_⟩; (obtain ⟨hc, hf⟩ := bcell hw1; clear hw1; go_simp; (try with_reducible rfl)); (try simp only [Act.put, List.setIfInBounds_toArray, List.set_cons_zero, List.set_cons_succ]))
  (refine wq_val (by go_simp) ?_; apply Exists.intro; refine ⟨fun w1 hw1 => ?_, ?_⟩; (obtain ⟨hc, hf⟩ := bcell hw1; clear hw1; go_simp; (try with_reducible rfl)); (try simp only [Act.put, List.setIfInBounds_toArray, List.set_cons_zero, List.set_cons_succ]))
  refine wq_nil ?_
  intro w3 hb3
  obtain ⟨k3, k4⟩ := bcell hb3
  have HB3 := Lib.hid hb3
  clear hb3
  go_wp2_with fail
  refine (apart_any _ _ _ _ _ HA.out HP.out).mono ?_
  rintro e w4 ⟨rfl, hb4⟩
  have HB4 := Lib.hid hb4
  clear hb4 k1 k2 k3 k4
  go_wp2
  go_ret
  exact ⟨rfl, bseq (bseq (bseq (two_allocs _ _) HB1.out) HB3.out) HB4.out⟩
set_option maxHeartbeats 2000000 in
theorem far_end (xa ya xb yb xp yp : Int) (w : World) (ha : okI xa ya = true) (hb : okI xb yb = true) (hp : okI xp yp = true) (h0 : 0 < (xb - xa) * (xp - xa) + (yb - ya) * (yp - ya)) (h1 : (xb - xa) * (xb - xa) + (yb - ya) * (yb - ya) ≤ (xb - xa) * (xp - xa) + (yb - ya) * (yp - ya)) :
    Calls Try.prog 119 #[.agg #[.int .i64 xa, .int .i64 ya, .int .i64 xb, .int .i64 yb], .agg #[.int .i64 xp, .int .i64 yp]] w fun e w' => e = .returned (.int .i64 (rootI (sqI xb yb xp yp))) ∧ Below w.heap.size w w' := by
  have m1 := mulB (xb - xa) (xp - xa) 20000 20000
  have m2 := mulB (yb - ya) (yp - ya) 20000 20000
  have m3 := mulB (xb - xa) (xb - xa) 20000 20000
  have m4 := mulB (yb - ya) (yb - ya) 20000 20000
  have ba := ok_bd ha
  have bb := ok_bd hb
  have bp := ok_bd hp
  have HA := Lib.hid ha
  have HB := Lib.hid hb
  have HP := Lib.hid hp
  clear ha hb hp
  replace m1 := m1 (by omega) (by omega) (by omega) (by omega)
  replace m2 := m2 (by omega) (by omega) (by omega) (by omega)
  replace m3 := m3 (by omega) (by omega) (by omega) (by omega)
  replace m4 := m4 (by omega) (by omega) (by omega) (by omega)
  go_enter Try.func119, Try.ntmps119
  go_wp2
  refine wp_region_plan [.val 0 [] (.agg #[.int .i64 xa, .int .i64 ya, .int .i64 xb, .int .i64 yb]), .val 1 [] (.agg #[.int .i64 (xb - xa), .int .i64 (yb - ya)]), .val 2 [] (.agg #[.int .i64 xp, .int .i64 yp]), .val 3 [] (.pointer (some ⟨w.heap.size, 0, none⟩)), .val 4 [] (.agg #[.int .i64 xa, .int .i64 ya]), .val 5 [] (.agg #[.int .i64 (xp - xa), .int .i64 (yp - ya)]), .make 6 (.cells #[.int .i64 0, .int .i64 0] 30 (0, 0)) (fun p => .pointer (some ⟨p, 0, none⟩)), .make 7 (.cells #[.int .i64 0, .int .i64 0] 30 (0, 0)) (fun p => .pointer (some ⟨p, 0, none⟩)), .put 8 6 (.cells #[.int .i64 (xb - xa), .int .i64 (yb - ya)] 30 (0, 0)), .put 9 7 (.cells #[.int .i64 (xp - xa), .int .i64 (yp - ya)] 30 (0, 0))] (by kernel_rfl) (by kernel_rfl) rfl ?_
  refine plan_val (by kernel_rfl) (by kernel_rfl) (by kernel_rfl) (by go_simp) (fun w1 hw1 => ?_) ?_
  · obtain ⟨hc, hf⟩ := bcell hw1; clear hw1; go_simp; (try with_reducible rfl)
  (try simp only [Act.put, List.setIfInBounds_toArray, List.set_cons_zero, List.set_cons_succ])
  refine plan_call [] 124 #[.agg #[.int .i64 xa, .int .i64 ya, .int .i64 xb, .int .i64 yb]] (by kernel_rfl) (by kernel_rfl) (by kernel_rfl) (by kernel_rfl) (by go_simp) (fun w1 hw1 => ?_) (fun w1 hC => ?_) ?_
  · clear hw1; go_simp; (try with_reducible rfl)
  · exact step_any _ _ _ _ _ HA.out HB.out
  (try simp only [Act.put, List.setIfInBounds_toArray, List.set_cons_zero, List.set_cons_succ])
  refine plan_val (by kernel_rfl) (by kernel_rfl) (by kernel_rfl) (by go_simp) (fun w1 hw1 => ?_) ?_
  · obtain ⟨hc, hf⟩ := bcell hw1; clear hw1; go_simp; (try with_reducible rfl)
  (try simp only [Act.put, List.setIfInBounds_toArray, List.set_cons_zero, List.set_cons_succ])
  refine plan_val (by kernel_rfl) (by kernel_rfl) (by kernel_rfl) (by go_simp) (fun w1 hw1 => ?_) ?_
  · obtain ⟨hc, hf⟩ := bcell hw1; clear hw1; go_simp; (try with_reducible rfl)
  (try simp only [Act.put, List.setIfInBounds_toArray, List.set_cons_zero, List.set_cons_succ])
  refine plan_val (by kernel_rfl) (by kernel_rfl) (by kernel_rfl) (by go_simp) (fun w1 hw1 => ?_) ?_
  · obtain ⟨hc, hf⟩ := bcell hw1; clear hw1; go_simp; (try with_reducible rfl)
  (try simp only [Act.put, List.setIfInBounds_toArray, List.set_cons_zero, List.set_cons_succ])
  refine plan_call [] 125 #[.agg #[.int .i64 xp, .int .i64 yp], .agg #[.int .i64 xa, .int .i64 ya]] (by kernel_rfl) (by kernel_rfl) (by kernel_rfl) (by kernel_rfl) (by go_simp) (fun w1 hw1 => ?_) (fun w1 hC => ?_) ?_
  · clear hw1; go_simp; (try with_reducible rfl)
  · exact minus_any _ _ _ _ _ (by omega) (by omega) (by omega) (by omega)
  (try simp only [Act.put, List.setIfInBounds_toArray, List.set_cons_zero, List.set_cons_succ])
  refine plan_make (by kernel_rfl) (by kernel_rfl) (by go_simp) (fun w1 => ?_) (fun p6 hp6 => ?_)
  · go_simp; (try with_reducible rfl)
  (try simp only [Act.put, List.setIfInBounds_toArray, List.set_cons_zero, List.set_cons_succ])
  refine plan_make (by kernel_rfl) (by kernel_rfl) (by go_simp) (fun w1 => ?_) (fun p7 hp7 => ?_)
  · go_simp; (try with_reducible rfl)
  (try simp only [Act.put, List.setIfInBounds_toArray, List.set_cons_zero, List.set_cons_succ])
  refine plan_put (p := p6) (by kernel_rfl) (by kernel_rfl) (by kernel_rfl) (by kernel_rfl) (by go_simp) (Or.inr (Or.inl rfl)) (fun w1 hg hh => ?_) ?_
  · obtain ⟨c0, f0, c1, f1⟩ := cells2_of hh
    refine ⟨_, ?_, stored2 hh⟩
    clear hh hg; go_simp; (try with_reducible rfl)
  (try simp only [Act.put])
  refine plan_put (p := p7) (by kernel_rfl) (by kernel_rfl) (by kernel_rfl) (by kernel_rfl) (by go_simp) (Or.inl ⟨Or.inl rfl, (fun h => by cases h)⟩) (fun w1 hg hh => ?_) ?_
  · obtain ⟨c0, f0, c1, f1⟩ := cells2_of hh
    refine ⟨_, ?_, stored2 hh⟩
    clear hh hg; go_simp; (try with_reducible rfl)
  (try simp only [Act.put])
  refine plan_done (by kernel_rfl) (fun w2 hC => ?_)
  obtain ⟨b6, s6, g6⟩ := hC.2 ⟨6, p6, _⟩ (Or.inl ⟨Or.inr ⟨⟨6, p6, _⟩, Or.inr (Or.inl rfl), rfl, rfl⟩, (fun h => by cases h)⟩)
  obtain ⟨b7, s7, g7⟩ := hC.2 ⟨7, p7, _⟩ (Or.inr ⟨⟨7, p7, _⟩, Or.inl ⟨Or.inl rfl, (fun h => by cases h)⟩, rfl, rfl⟩)
  obtain ⟨c60, f60, c61, f61⟩ := cells2_of g6
  obtain ⟨c70, f70, c71, f71⟩ := cells2_of g7
  obtain ⟨k1, k2⟩ := bcell hC.1
  have HB1 := Lib.hid hC.1
  have n0 : w.heap.size < w2.heap.size := by have := hC.1.size; simp at this; omega
  have n1 : w.heap.size + 1 < w2.heap.size := by have := hC.1.size; simp at this; omega
  clear hC g6 g7 f60 f61 f70 f71 hp6 hp7
  go_wp2
  refine wp_region_below (by kernel_rfl) (by kernel_rfl) ?_
  (refine wq_val (by go_simp) ?_; apply Exists.intro; refine ⟨fun w1 hw1 => ?_, ?_⟩; (obtain ⟨hc, hf⟩ := bcell hw1; clear hw1; go_simp; (try with_reducible rfl)); (try simp only [Act.put, List.setIfInBounds_toArray, List.set_cons_zero, List.set_cons_succ]))
  (refine wq_val (by go_simp) ?_; apply Exists.intro; refine ⟨fun w1 hw1 => ?_, ?_⟩; (obtain ⟨hc, hf⟩ := bcell hw1; clear hw1; go_simp; (try with_reducible rfl)); (try simp only [Act.put, List.setIfInBounds_toArray, List.set_cons_zero, List.set_cons_succ]))
  (refine wq_call 173 (by go_simp) ?_; apply Exists.intro; refine ⟨fun w1 hw1 => ?_, ?_⟩; (clear hw1; go_simp; (try with_reducible rfl)); apply Exists.intro; refine ⟨fun w1 hw1 => ?_, ?_⟩; (exact calls_below hw1 (dot_any _ _ _ _ _ (by omega) (by omega) (by omega) (by omega))); (try simp only [Act.put, List.setIfInBounds_toArray, List.set_cons_zero, List.set_cons_succ]))
  (refine wq_val (by go_simp) ?_; apply Exists.intro; refine ⟨fun w1 hw1 => ?_, ?_⟩; (obtain ⟨hc, hf⟩ := bcell hw1; clear hw1; go_simp; (try with_reducible rfl)); (try simp only [Act.put, List.setIfInBounds_toArray, List.set_cons_zero, List.set_cons_succ]))
  (refine wq_val (by go_simp) ?_; apply Exists.intro; refine ⟨fun w1 hw1 => ?_, ?_⟩; (obtain ⟨hc, hf⟩ := bcell hw1; clear hw1; go_simp; (try with_reducible rfl)); (try simp only [Act.put, List.setIfInBounds_toArray, List.set_cons_zero, List.set_cons_succ]))
  (refine wq_call 173 (by go_simp) ?_; apply Exists.intro; refine ⟨fun w1 hw1 => ?_, ?_⟩; (clear hw1; go_simp; (try with_reducible rfl)); apply Exists.intro; refine ⟨fun w1 hw1 => ?_, ?_⟩; (exact calls_below hw1 (dot_any _ _ _ _ _ (by omega) (by omega) (by omega) (by omega))); (try simp only [Act.put, List.setIfInBounds_toArray, List.set_cons_zero, List.set_cons_succ]))
  (refine wq_val (by go_simp) ?_; apply Exists.intro; refine ⟨fun w1 hw1 => ?_, ?_⟩; (obtain ⟨hc, hf⟩ := bcell hw1; clear hw1; go_simp; (try with_reducible rfl)); (try simp only [Act.put, List.setIfInBounds_toArray, List.set_cons_zero, List.set_cons_succ]))
  (refine wq_val (by go_simp) ?_; apply Exists.intro; refine ⟨fun w1 hw1 => ?_, ?_⟩; (obtain ⟨hc, hf⟩ := bcell hw1; clear hw1; go_simp; (try with_reducible rfl)); (try simp only [Act.put, List.setIfInBounds_toArray, List.set_cons_zero, List.set_cons_succ]))
  refine wq_nil ?_
  intro w3 hb3
  obtain ⟨k3, k4⟩ := bcell hb3
  have HB3 := Lib.hid hb3
  clear hb3
  go_wp2_with fail
  refine (apart_any _ _ _ _ _ HB.out HP.out).mono ?_
  rintro e w4 ⟨rfl, hb4⟩
  have HB4 := Lib.hid hb4
  clear hb4 k1 k2 k3 k4
  go_wp2
  go_ret
  exact ⟨rfl, bseq (bseq (bseq (two_allocs _ _) HB1.out) HB3.out) HB4.out⟩
set_option maxHeartbeats 2000000 in
theorem far_mid (xa ya xb yb xp yp : Int) (w : World) (ha : okI xa ya = true) (hb : okI xb yb = true) (hp : okI xp yp = true) (h0 : 0 < (xb - xa) * (xp - xa) + (yb - ya) * (yp - ya)) (h1 : (xb - xa) * (xp - xa) + (yb - ya) * (yp - ya) < (xb - xa) * (xb - xa) + (yb - ya) * (yb - ya)) :
    Calls Try.prog 119 #[.agg #[.int .i64 xa, .int .i64 ya, .int .i64 xb, .int .i64 yb], .agg #[.int .i64 xp, .int .i64 yp]] w fun e w' => e = .returned (.int .i64 (rootI (crI xa ya xb yb xp yp * crI xa ya xb yb xp yp / sqI xa ya xb yb))) ∧ Below w.heap.size w w' := by
  have hs := Lib.hid (show rootI (((xb - xa) * (yp - ya) - (yb - ya) * (xp - xa)) * ((xb - xa) * (yp - ya) - (yb - ya) * (xp - xa)) / ((xb - xa) * (xb - xa) + (yb - ya) * (yb - ya))) = rootI (crI xa ya xb yb xp yp * crI xa ya xb yb xp yp / sqI xa ya xb yb) by rw [← sq_swap]; rfl)
  have m5 := mulB (xb - xa) (yp - ya) 20000 20000
  have m6 := mulB (yb - ya) (xp - xa) 20000 20000
  have m1 := mulB (xb - xa) (xp - xa) 20000 20000
  have m2 := mulB (yb - ya) (yp - ya) 20000 20000
  have m3 := mulB (xb - xa) (xb - xa) 20000 20000
  have m4 := mulB (yb - ya) (yb - ya) 20000 20000
  have ba := ok_bd ha
  have bb := ok_bd hb
  have bp := ok_bd hp
  have HA := Lib.hid ha
  have HB := Lib.hid hb
  have HP := Lib.hid hp
  clear ha hb hp
  replace m1 := m1 (by omega) (by omega) (by omega) (by omega)
  replace m2 := m2 (by omega) (by omega) (by omega) (by omega)
  replace m3 := m3 (by omega) (by omega) (by omega) (by omega)
  replace m4 := m4 (by omega) (by omega) (by omega) (by omega)
  replace m5 := m5 (by omega) (by omega) (by omega) (by omega)
  replace m6 := m6 (by omega) (by omega) (by omega) (by omega)
  have m7 := mulB ((xb - xa) * (yp - ya) - (yb - ya) * (xp - xa)) ((xb - xa) * (yp - ya) - (yb - ya) * (xp - xa)) 800000000 800000000 (by omega) (by omega) (by omega) (by omega)
  have m8 := sq_nonneg ((xb - xa) * (yp - ya) - (yb - ya) * (xp - xa))
  have m9 : (((xb - xa) * (yp - ya) - (yb - ya) * (xp - xa)) * ((xb - xa) * (yp - ya) - (yb - ya) * (xp - xa))) / ((xb - xa) * (xb - xa) + (yb - ya) * (yb - ya)) ≤ 640000000000000000 := Int.le_trans (Int.ediv_le_self _ m8) (by omega)
  go_enter Try.func119, Try.ntmps119
  go_wp2
  refine wp_region_plan [.val 0 [] (.agg #[.int .i64 xa, .int .i64 ya, .int .i64 xb, .int .i64 yb]), .val 1 [] (.agg #[.int .i64 (xb - xa), .int .i64 (yb - ya)]), .val 2 [] (.agg #[.int .i64 xp, .int .i64 yp]), .val 3 [] (.pointer (some ⟨w.heap.size, 0, none⟩)), .val 4 [] (.agg #[.int .i64 xa, .int .i64 ya]), .val 5 [] (.agg #[.int .i64 (xp - xa), .int .i64 (yp - ya)]), .make 6 (.cells #[.int .i64 0, .int .i64 0] 30 (0, 0)) (fun p => .pointer (some ⟨p, 0, none⟩)), .make 7 (.cells #[.int .i64 0, .int .i64 0] 30 (0, 0)) (fun p => .pointer (some ⟨p, 0, none⟩)), .put 8 6 (.cells #[.int .i64 (xb - xa), .int .i64 (yb - ya)] 30 (0, 0)), .put 9 7 (.cells #[.int .i64 (xp - xa), .int .i64 (yp - ya)] 30 (0, 0))] (by kernel_rfl) (by kernel_rfl) rfl ?_
  refine plan_val (by kernel_rfl) (by kernel_rfl) (by kernel_rfl) (by go_simp) (fun w1 hw1 => ?_) ?_
  · obtain ⟨hc, hf⟩ := bcell hw1; clear hw1; go_simp; (try with_reducible rfl)
  (try simp only [Act.put, List.setIfInBounds_toArray, List.set_cons_zero, List.set_cons_succ])
  refine plan_call [] 124 #[.agg #[.int .i64 xa, .int .i64 ya, .int .i64 xb, .int .i64 yb]] (by kernel_rfl) (by kernel_rfl) (by kernel_rfl) (by kernel_rfl) (by go_simp) (fun w1 hw1 => ?_) (fun w1 hC => ?_) ?_
  · clear hw1; go_simp; (try with_reducible rfl)
  · exact step_any _ _ _ _ _ HA.out HB.out
  (try simp only [Act.put, List.setIfInBounds_toArray, List.set_cons_zero, List.set_cons_succ])
  refine plan_val (by kernel_rfl) (by kernel_rfl) (by kernel_rfl) (by go_simp) (fun w1 hw1 => ?_) ?_
  · obtain ⟨hc, hf⟩ := bcell hw1; clear hw1; go_simp; (try with_reducible rfl)
  (try simp only [Act.put, List.setIfInBounds_toArray, List.set_cons_zero, List.set_cons_succ])
  refine plan_val (by kernel_rfl) (by kernel_rfl) (by kernel_rfl) (by go_simp) (fun w1 hw1 => ?_) ?_
  · obtain ⟨hc, hf⟩ := bcell hw1; clear hw1; go_simp; (try with_reducible rfl)
  (try simp only [Act.put, List.setIfInBounds_toArray, List.set_cons_zero, List.set_cons_succ])
  refine plan_val (by kernel_rfl) (by kernel_rfl) (by kernel_rfl) (by go_simp) (fun w1 hw1 => ?_) ?_
  · obtain ⟨hc, hf⟩ := bcell hw1; clear hw1; go_simp; (try with_reducible rfl)
  (try simp only [Act.put, List.setIfInBounds_toArray, List.set_cons_zero, List.set_cons_succ])
  refine plan_call [] 125 #[.agg #[.int .i64 xp, .int .i64 yp], .agg #[.int .i64 xa, .int .i64 ya]] (by kernel_rfl) (by kernel_rfl) (by kernel_rfl) (by kernel_rfl) (by go_simp) (fun w1 hw1 => ?_) (fun w1 hC => ?_) ?_
  · clear hw1; go_simp; (try with_reducible rfl)
  · exact minus_any _ _ _ _ _ (by omega) (by omega) (by omega) (by omega)
  (try simp only [Act.put, List.setIfInBounds_toArray, List.set_cons_zero, List.set_cons_succ])
  refine plan_make (by kernel_rfl) (by kernel_rfl) (by go_simp) (fun w1 => ?_) (fun p6 hp6 => ?_)
  · go_simp; (try with_reducible rfl)
  (try simp only [Act.put, List.setIfInBounds_toArray, List.set_cons_zero, List.set_cons_succ])
  refine plan_make (by kernel_rfl) (by kernel_rfl) (by go_simp) (fun w1 => ?_) (fun p7 hp7 => ?_)
  · go_simp; (try with_reducible rfl)
  (try simp only [Act.put, List.setIfInBounds_toArray, List.set_cons_zero, List.set_cons_succ])
  refine plan_put (p := p6) (by kernel_rfl) (by kernel_rfl) (by kernel_rfl) (by kernel_rfl) (by go_simp) (Or.inr (Or.inl rfl)) (fun w1 hg hh => ?_) ?_
  · obtain ⟨c0, f0, c1, f1⟩ := cells2_of hh
    refine ⟨_, ?_, stored2 hh⟩
    clear hh hg; go_simp; (try with_reducible rfl)
  (try simp only [Act.put])
  refine plan_put (p := p7) (by kernel_rfl) (by kernel_rfl) (by kernel_rfl) (by kernel_rfl) (by go_simp) (Or.inl ⟨Or.inl rfl, (fun h => by cases h)⟩) (fun w1 hg hh => ?_) ?_
  · obtain ⟨c0, f0, c1, f1⟩ := cells2_of hh
    refine ⟨_, ?_, stored2 hh⟩
    clear hh hg; go_simp; (try with_reducible rfl)
  (try simp only [Act.put])
  refine plan_done (by kernel_rfl) (fun w2 hC => ?_)
  obtain ⟨b6, s6, g6⟩ := hC.2 ⟨6, p6, _⟩ (Or.inl ⟨Or.inr ⟨⟨6, p6, _⟩, Or.inr (Or.inl rfl), rfl, rfl⟩, (fun h => by cases h)⟩)
  obtain ⟨b7, s7, g7⟩ := hC.2 ⟨7, p7, _⟩ (Or.inr ⟨⟨7, p7, _⟩, Or.inl ⟨Or.inl rfl, (fun h => by cases h)⟩, rfl, rfl⟩)
  obtain ⟨c60, f60, c61, f61⟩ := cells2_of g6
  obtain ⟨c70, f70, c71, f71⟩ := cells2_of g7
  obtain ⟨k1, k2⟩ := bcell hC.1
  have HB1 := Lib.hid hC.1
  have n0 : w.heap.size < w2.heap.size := by have := hC.1.size; simp at this; omega
  have n1 : w.heap.size + 1 < w2.heap.size := by have := hC.1.size; simp at this; omega
  clear hC g6 g7 f60 f61 f70 f71 hp6 hp7
  go_wp2
  refine wp_region_below (by kernel_rfl) (by kernel_rfl) ?_
  (refine wq_val (by go_simp) ?_; apply Exists.intro; refine ⟨fun w1 hw1 => ?_, ?_⟩; (obtain ⟨hc, hf⟩ := bcell hw1; clear hw1; go_simp; (try with_reducible rfl)); (try simp only [Act.put, List.setIfInBounds_toArray, List.set_cons_zero, List.set_cons_succ]))
  (refine wq_val (by go_simp) ?_; apply Exists.intro; refine ⟨fun w1 hw1 => ?_, ?_⟩; (obtain ⟨hc, hf⟩ := bcell hw1; clear hw1; go_simp; (try with_reducible rfl)); (try simp only [Act.put, List.setIfInBounds_toArray, List.set_cons_zero, List.set_cons_succ]))
  (refine wq_call 173 (by go_simp) ?_; apply Exists.intro; refine ⟨fun w1 hw1 => ?_, ?_⟩; (clear hw1; go_simp; (try with_reducible rfl)); apply Exists.intro; refine ⟨fun w1 hw1 => ?_, ?_⟩; (exact calls_below hw1 (dot_any _ _ _ _ _ (by omega) (by omega) (by omega) (by omega))); (try simp only [Act.put, List.setIfInBounds_toArray, List.set_cons_zero, List.set_cons_succ]))
  (refine wq_val (by go_simp) ?_; apply Exists.intro; refine ⟨fun w1 hw1 => ?_, ?_⟩; (obtain ⟨hc, hf⟩ := bcell hw1; clear hw1; go_simp; (try with_reducible rfl)); (try simp only [Act.put, List.setIfInBounds_toArray, List.set_cons_zero, List.set_cons_succ]))
  (refine wq_val (by go_simp) ?_; apply Exists.intro; refine ⟨fun w1 hw1 => ?_, ?_⟩; (obtain ⟨hc, hf⟩ := bcell hw1; clear hw1; go_simp; (try with_reducible rfl)); (try simp only [Act.put, List.setIfInBounds_toArray, List.set_cons_zero, List.set_cons_succ]))
  (refine wq_call 173 (by go_simp) ?_; apply Exists.intro; refine ⟨fun w1 hw1 => ?_, ?_⟩; (clear hw1; go_simp; (try with_reducible rfl)); apply Exists.intro; refine ⟨fun w1 hw1 => ?_, ?_⟩; (exact calls_below hw1 (dot_any _ _ _ _ _ (by omega) (by omega) (by omega) (by omega))); (try simp only [Act.put, List.setIfInBounds_toArray, List.set_cons_zero, List.set_cons_succ]))
  (refine wq_val (by go_simp) ?_; apply Exists.intro; refine ⟨fun w1 hw1 => ?_, ?_⟩; (obtain ⟨hc, hf⟩ := bcell hw1; clear hw1; go_simp; (try with_reducible rfl)); (try simp only [Act.put, List.setIfInBounds_toArray, List.set_cons_zero, List.set_cons_succ]))
  (refine wq_val (by go_simp) ?_; apply Exists.intro; refine ⟨fun w1 hw1 => ?_, ?_⟩; (obtain ⟨hc, hf⟩ := bcell hw1; clear hw1; go_simp; (try with_reducible rfl)); (try simp only [Act.put, List.setIfInBounds_toArray, List.set_cons_zero, List.set_cons_succ]))
  refine wq_nil ?_
  intro w3 hb3
  obtain ⟨k3, k4⟩ := bcell hb3
  have HB3 := Lib.hid hb3
  clear hb3
  go_wp2_with fail
  refine (cross_any _ _ _ _ _ (by omega) (by omega) (by omega) (by omega)).mono ?_
  rintro e w4 ⟨rfl, hb4⟩
  have HB4 := Lib.hid hb4
  clear hb4 k1 k2 k3 k4
  go_wp2_with fail
  refine (root_impl _ _ (by omega)).mono ?_
  rintro e w5 ⟨rfl, rfl⟩
  go_wp2
  go_ret
  exact ⟨ret_int hs.out, bseq (bseq (bseq (two_allocs _ _) HB1.out) HB3.out) HB4.out⟩
theorem far_any (xa ya xb yb xp yp : Int) (w : World) (ha : okI xa ya = true) (hb : okI xb yb = true) (hp : okI xp yp = true) :
    Calls Try.prog 119 #[.agg #[.int .i64 xa, .int .i64 ya, .int .i64 xb, .int .i64 yb], .agg #[.int .i64 xp, .int .i64 yp]] w fun e w' => e = .returned (.int .i64 (farI xa ya xb yb xp yp)) ∧ Below w.heap.size w w' := by
  have e1 : alI xa ya xb yb xp yp = (xb - xa) * (xp - xa) + (yb - ya) * (yp - ya) := rfl
  have e2 : sqI xa ya xb yb = (xb - xa) * (xb - xa) + (yb - ya) * (yb - ya) := by rw [← sq_swap]; rfl
  rw [far_cases]
  split
  · rename_i h
    exact far_start _ _ _ _ _ _ w ha hb hp (by omega)
  · split
    · rename_i h1 h2
      exact far_end _ _ _ _ _ _ w ha hb hp (by omega) (by omega)
    · rename_i h1 h2
      exact far_mid _ _ _ _ _ _ w ha hb hp (by omega) (by omega)
end Go.Proofs.Ytjhmpmaademdcaa
