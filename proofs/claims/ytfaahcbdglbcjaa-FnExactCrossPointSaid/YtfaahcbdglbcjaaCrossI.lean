/- CrossPoint of impl: the answers. -/
import Derived.Test.YtfaahcbdglbcjaaQuot
namespace Go.Proofs.Ytfaahcbdglbcjaa
open Go.ChangeShapes Go.WideShapes Go.ChangeAt Go.RowKit
set_option linter.unusedVariables false

theorem six_allocs {w : World} (o1 o2 o3 o4 o5 o6 : Obj) : Below w.heap.size w ((((((w.alloc o1).alloc o2).alloc o3).alloc o4).alloc o5).alloc o6) := (five_allocs _ _ _ _ _).alloc (five_allocs _ _ _ _ _).size _
set_option maxHeartbeats 1000000 in
theorem cpI_no (xa ya xb yb xc yc xd yd : Int) (w : World) (hv : (okI xa ya && okI xb yb && okI xc yc && okI xd yd) = false) :
    Calls Try.prog 25 #[.agg #[.int .i64 xa, .int .i64 ya], .agg #[.int .i64 xb, .int .i64 yb], .agg #[.int .i64 xc, .int .i64 yc], .agg #[.int .i64 xd, .int .i64 yd]] w fun e w' => e = .returned (.tuple #[.agg #[.int .i64 0, .int .i64 0], .int .i64 1]) ∧ Below w.heap.size w w' := by
  have HV := Lib.hid hv
  clear hv
  go_enter Try.func25, Try.ntmps25
  go_wp2_with fail
  refine (allValid4_no _ _ _ _ _ _ _ _ _ _ _ (by simp) HV.out).mono ?_
  rintro e w1 ⟨rfl, g1⟩
  obtain ⟨k1, q1⟩ := bcell g1
  have HW1 := Lib.hid g1
  clear g1
  go_wp2
  exact bodyPost_ret (v := .tuple #[.agg #[.int .i64 0, .int .i64 0], .int .i64 1]) (by simp [results, Try.results25, go_sem, k1]) rfl ⟨rfl, ((bseq (six_allocs _ _ _ _ _ _) HW1.out).setCell (by simp; omega) _).setCell (by simp; omega) _⟩
set_option maxHeartbeats 4000000 in
theorem cpI_apart (xa ya xb yb xc yc xd yd : Int) (w : World) (ha : okI xa ya = true) (hb : okI xb yb = true) (hc : okI xc yc = true) (hd : okI xd yd = true) (h0 : csB xa ya xb yb xc yc xd yd = false) :
    Calls Try.prog 25 #[.agg #[.int .i64 xa, .int .i64 ya], .agg #[.int .i64 xb, .int .i64 yb], .agg #[.int .i64 xc, .int .i64 yc], .agg #[.int .i64 xd, .int .i64 yd]] w fun e w' => e = .returned (.tuple #[.agg #[.int .i64 0, .int .i64 0], .int .i64 6]) ∧ Below w.heap.size w w' := by
  have HA := Lib.hid ha
  have HB := Lib.hid hb
  have HC := Lib.hid hc
  have HD := Lib.hid hd
  clear ha hb hc hd
  have HV := Lib.hid (v4_of xa ya xb yb xc yc xd yd HA.out HB.out HC.out HD.out)
  go_enter Try.func25, Try.ntmps25
  go_wp2_with fail
  refine (allValid4_yes _ _ _ _ _ _ _ _ _ _ _ (by simp) HV.out).mono ?_
  rintro e w1 ⟨rfl, g1⟩
  obtain ⟨k1, q1⟩ := bcell g1
  have HW1 := Lib.hid g1
  clear g1
  have saw1 : w.heap.size < w1.heap.size := by have := HW1.out.size; simp at this; omega
  have ca0w1 : w1.cell? ⟨w.heap.size, 0, none⟩ = some (.int .i64 (xa)) := by rw [k1 _ _ (by simp <;> omega)]; go_simp
  have ca1w1 : w1.cell? ⟨w.heap.size, 1, none⟩ = some (.int .i64 (ya)) := by rw [k1 _ _ (by simp <;> omega)]; go_simp
  have sbw1 : w.heap.size + 1 < w1.heap.size := by have := HW1.out.size; simp at this; omega
  have cb0w1 : w1.cell? ⟨w.heap.size + 1, 0, none⟩ = some (.int .i64 (xb)) := by rw [k1 _ _ (by simp <;> omega)]; go_simp
  have cb1w1 : w1.cell? ⟨w.heap.size + 1, 1, none⟩ = some (.int .i64 (yb)) := by rw [k1 _ _ (by simp <;> omega)]; go_simp
  have scw1 : w.heap.size + 1 + 1 < w1.heap.size := by have := HW1.out.size; simp at this; omega
  have cc0w1 : w1.cell? ⟨w.heap.size + 1 + 1, 0, none⟩ = some (.int .i64 (xc)) := by rw [k1 _ _ (by simp <;> omega)]; go_simp
  have cc1w1 : w1.cell? ⟨w.heap.size + 1 + 1, 1, none⟩ = some (.int .i64 (yc)) := by rw [k1 _ _ (by simp <;> omega)]; go_simp
  have sdw1 : w.heap.size + 1 + 1 + 1 < w1.heap.size := by have := HW1.out.size; simp at this; omega
  have cd0w1 : w1.cell? ⟨w.heap.size + 1 + 1 + 1, 0, none⟩ = some (.int .i64 (xd)) := by rw [k1 _ _ (by simp <;> omega)]; go_simp
  have cd1w1 : w1.cell? ⟨w.heap.size + 1 + 1 + 1, 1, none⟩ = some (.int .i64 (yd)) := by rw [k1 _ _ (by simp <;> omega)]; go_simp
  have srw1 : w.heap.size + 1 + 1 + 1 + 1 < w1.heap.size := by have := HW1.out.size; simp at this; omega
  have hrw1 : w1.heap[w.heap.size + 1 + 1 + 1 + 1]? = some (.cells #[.int .i64 0, .int .i64 0] 25 (0, 0)) := (HW1.out.block _ (by simp)).trans (by have := second_last ((((w.alloc (.cells #[.int .i64 xa, .int .i64 ya] 25)).alloc (.cells #[.int .i64 xb, .int .i64 yb] 25)).alloc (.cells #[.int .i64 xc, .int .i64 yc] 25)).alloc (.cells #[.int .i64 xd, .int .i64 yd] 25)) (.cells #[.int .i64 0, .int .i64 0] 25 (0, 0)) (.cells #[.int .i64 xa, .int .i64 ya, .int .i64 xb, .int .i64 yb, .int .i64 xc, .int .i64 yc, .int .i64 xd, .int .i64 yd] 25); simpa using this)
  have HB1 := Lib.hid (bseq (two_allocs (w := (((w.alloc (.cells #[.int .i64 xa, .int .i64 ya] 25)).alloc (.cells #[.int .i64 xb, .int .i64 yb] 25)).alloc (.cells #[.int .i64 xc, .int .i64 yc] 25)).alloc (.cells #[.int .i64 xd, .int .i64 yd] 25)) (.cells #[.int .i64 0, .int .i64 0] 25 (0, 0)) (.cells #[.int .i64 xa, .int .i64 ya, .int .i64 xb, .int .i64 yb, .int .i64 xc, .int .i64 yc, .int .i64 xd, .int .i64 yd] 25)) HW1.out)
  clear k1 q1 HW1
  have Hrw1 := Lib.hid hrw1
  clear hrw1
  go_wp2
  refine wp_region_plan [.val 0 [] (.agg #[.int .i64 xa, .int .i64 ya]), .val 1 [] (.agg #[.int .i64 xb, .int .i64 yb]), .val 2 [] (.agg #[.int .i64 xa, .int .i64 ya, .int .i64 xb, .int .i64 yb]), .val 3 [] (.agg #[.int .i64 xc, .int .i64 yc]), .val 4 [] (.agg #[.int .i64 xd, .int .i64 yd]), .val 5 [] (.agg #[.int .i64 xc, .int .i64 yc, .int .i64 xd, .int .i64 yd]), .make 6 (.cells #[.int .i64 0, .int .i64 0, .int .i64 0, .int .i64 0] 56 (0, 0)) (fun p => .pointer (some ⟨p, 0, none⟩)), .make 7 (.cells #[.int .i64 0, .int .i64 0, .int .i64 0, .int .i64 0] 56 (0, 0)) (fun p => .pointer (some ⟨p, 0, none⟩)), .put 8 6 (.cells #[.int .i64 xa, .int .i64 ya, .int .i64 xb, .int .i64 yb] 56 (0, 0)), .put 9 7 (.cells #[.int .i64 xc, .int .i64 yc, .int .i64 xd, .int .i64 yd] 56 (0, 0))] (by kernel_rfl) (by kernel_rfl) rfl ?_
  refine plan_val (by kernel_rfl) (by kernel_rfl) (by kernel_rfl) (by go_simp) (fun w1 hw1 => ?_) ?_
  · obtain ⟨hc, hf⟩ := bcell hw1; clear hw1; go_simp; (try with_reducible rfl)
  (try simp only [Act.put, List.setIfInBounds_toArray, List.set_cons_zero, List.set_cons_succ])
  refine plan_val (by kernel_rfl) (by kernel_rfl) (by kernel_rfl) (by go_simp) (fun w1 hw1 => ?_) ?_
  · obtain ⟨hc, hf⟩ := bcell hw1; clear hw1; go_simp; (try with_reducible rfl)
  (try simp only [Act.put, List.setIfInBounds_toArray, List.set_cons_zero, List.set_cons_succ])
  refine plan_val (by kernel_rfl) (by kernel_rfl) (by kernel_rfl) (by go_simp) (fun w1 hw1 => ?_) ?_
  · obtain ⟨hc, hf⟩ := bcell hw1; clear hw1; go_simp; (try with_reducible rfl)
  (try simp only [Act.put, List.setIfInBounds_toArray, List.set_cons_zero, List.set_cons_succ])
  refine plan_val (by kernel_rfl) (by kernel_rfl) (by kernel_rfl) (by go_simp) (fun w1 hw1 => ?_) ?_
  · obtain ⟨hc, hf⟩ := bcell hw1; clear hw1; go_simp; (try with_reducible rfl)
  (try simp only [Act.put, List.setIfInBounds_toArray, List.set_cons_zero, List.set_cons_succ])
  refine plan_val (by kernel_rfl) (by kernel_rfl) (by kernel_rfl) (by go_simp) (fun w1 hw1 => ?_) ?_
  · obtain ⟨hc, hf⟩ := bcell hw1; clear hw1; go_simp; (try with_reducible rfl)
  (try simp only [Act.put, List.setIfInBounds_toArray, List.set_cons_zero, List.set_cons_succ])
  refine plan_val (by kernel_rfl) (by kernel_rfl) (by kernel_rfl) (by go_simp) (fun w1 hw1 => ?_) ?_
  · obtain ⟨hc, hf⟩ := bcell hw1; clear hw1; go_simp; (try with_reducible rfl)
  (try simp only [Act.put, List.setIfInBounds_toArray, List.set_cons_zero, List.set_cons_succ])
  refine plan_make (by kernel_rfl) (by kernel_rfl) (by go_simp) (fun w1 => ?_) (fun p6 hp6 => ?_)
  · go_simp; (try with_reducible rfl)
  (try simp only [Act.put, List.setIfInBounds_toArray, List.set_cons_zero, List.set_cons_succ])
  refine plan_make (by kernel_rfl) (by kernel_rfl) (by go_simp) (fun w1 => ?_) (fun p7 hp7 => ?_)
  · go_simp; (try with_reducible rfl)
  (try simp only [Act.put, List.setIfInBounds_toArray, List.set_cons_zero, List.set_cons_succ])
  refine plan_put (p := p6) (by kernel_rfl) (by kernel_rfl) (by kernel_rfl) (by kernel_rfl) (by go_simp) (Or.inr (Or.inl rfl)) (fun w1 hg hh => ?_) ?_
  · obtain ⟨c0, f0, c1, f1, c2, f2, c3, f3⟩ := cells4_of hh
    refine ⟨_, ?_, stored4 hh⟩
    clear hh hg; go_simp; (try with_reducible rfl)
  (try simp only [Act.put])
  refine plan_put (p := p7) (by kernel_rfl) (by kernel_rfl) (by kernel_rfl) (by kernel_rfl) (by go_simp) (Or.inl ⟨Or.inl rfl, (fun h => by cases h)⟩) (fun w1 hg hh => ?_) ?_
  · obtain ⟨c0, f0, c1, f1, c2, f2, c3, f3⟩ := cells4_of hh
    refine ⟨_, ?_, stored4 hh⟩
    clear hh hg; go_simp; (try with_reducible rfl)
  (try simp only [Act.put])
  refine plan_done (by kernel_rfl) (fun w2 hC => ?_)
  have hrw1 := Hrw1.out
  clear Hrw1
  obtain ⟨b6, s6, g6⟩ := hC.2 ⟨6, p6, _⟩ (Or.inl ⟨Or.inr ⟨⟨6, p6, _⟩, Or.inr (Or.inl rfl), rfl, rfl⟩, (fun h => by cases h)⟩)
  obtain ⟨b7, s7, g7⟩ := hC.2 ⟨7, p7, _⟩ (Or.inr ⟨⟨7, p7, _⟩, Or.inl ⟨Or.inl rfl, (fun h => by cases h)⟩, rfl, rfl⟩)
  obtain ⟨c60w2, f60, c61w2, f61, c62w2, f62, c63w2, f63⟩ := cells4_of g6
  obtain ⟨c70w2, f70, c71w2, f71, c72w2, f72, c73w2, f73⟩ := cells4_of g7
  have HB2 := Lib.hid hC.1
  have s6w2 := s6
  have s7w2 := s7
  have saw2 : w.heap.size < w2.heap.size := Nat.lt_of_lt_of_le saw1 hC.1.size
  have sbw2 : w.heap.size + 1 < w2.heap.size := Nat.lt_of_lt_of_le sbw1 hC.1.size
  have scw2 : w.heap.size + 1 + 1 < w2.heap.size := Nat.lt_of_lt_of_le scw1 hC.1.size
  have sdw2 : w.heap.size + 1 + 1 + 1 < w2.heap.size := Nat.lt_of_lt_of_le sdw1 hC.1.size
  have srw2 : w.heap.size + 1 + 1 + 1 + 1 < w2.heap.size := Nat.lt_of_lt_of_le srw1 hC.1.size
  have ca0w2 : w2.cell? ⟨w.heap.size, 0, none⟩ = some (.int .i64 (xa)) := (hC.1.cell (p := ⟨w.heap.size, 0, none⟩) saw1).trans ca0w1
  have ca1w2 : w2.cell? ⟨w.heap.size, 1, none⟩ = some (.int .i64 (ya)) := (hC.1.cell (p := ⟨w.heap.size, 1, none⟩) saw1).trans ca1w1
  have cb0w2 : w2.cell? ⟨w.heap.size + 1, 0, none⟩ = some (.int .i64 (xb)) := (hC.1.cell (p := ⟨w.heap.size + 1, 0, none⟩) sbw1).trans cb0w1
  have cb1w2 : w2.cell? ⟨w.heap.size + 1, 1, none⟩ = some (.int .i64 (yb)) := (hC.1.cell (p := ⟨w.heap.size + 1, 1, none⟩) sbw1).trans cb1w1
  have cc0w2 : w2.cell? ⟨w.heap.size + 1 + 1, 0, none⟩ = some (.int .i64 (xc)) := (hC.1.cell (p := ⟨w.heap.size + 1 + 1, 0, none⟩) scw1).trans cc0w1
  have cc1w2 : w2.cell? ⟨w.heap.size + 1 + 1, 1, none⟩ = some (.int .i64 (yc)) := (hC.1.cell (p := ⟨w.heap.size + 1 + 1, 1, none⟩) scw1).trans cc1w1
  have cd0w2 : w2.cell? ⟨w.heap.size + 1 + 1 + 1, 0, none⟩ = some (.int .i64 (xd)) := (hC.1.cell (p := ⟨w.heap.size + 1 + 1 + 1, 0, none⟩) sdw1).trans cd0w1
  have cd1w2 : w2.cell? ⟨w.heap.size + 1 + 1 + 1, 1, none⟩ = some (.int .i64 (yd)) := (hC.1.cell (p := ⟨w.heap.size + 1 + 1 + 1, 1, none⟩) sdw1).trans cd1w1
  have hrw2 : w2.heap[w.heap.size + 1 + 1 + 1 + 1]? = some (.cells #[.int .i64 0, .int .i64 0] 25 (0, 0)) := (hC.1.block _ srw1).trans hrw1
  clear ca0w1 ca1w1 cb0w1 cb1w1 cc0w1 cc1w1 cd0w1 cd1w1 hrw1 saw1 sbw1 scw1 sdw1 srw1
  clear hC g6 g7 f60 f61 f62 f63 f70 f71 f72 f73 hp6 hp7 s6 s7 b6 b7
  have Hrw2 := Lib.hid hrw2
  clear hrw2
  go_wp2_with fail
  refine (crosses_any _ _ _ _ _ _ _ _ _ HA.out HB.out HC.out HD.out).mono ?_
  rintro e w3 ⟨rfl, g3⟩
  have HB3 := Lib.hid g3
  have hrw2 := Hrw2.out
  clear Hrw2
  have saw3 : w.heap.size < w3.heap.size := Nat.lt_of_lt_of_le saw2 g3.size
  have sbw3 : w.heap.size + 1 < w3.heap.size := Nat.lt_of_lt_of_le sbw2 g3.size
  have scw3 : w.heap.size + 1 + 1 < w3.heap.size := Nat.lt_of_lt_of_le scw2 g3.size
  have sdw3 : w.heap.size + 1 + 1 + 1 < w3.heap.size := Nat.lt_of_lt_of_le sdw2 g3.size
  have srw3 : w.heap.size + 1 + 1 + 1 + 1 < w3.heap.size := Nat.lt_of_lt_of_le srw2 g3.size
  have s6w3 : p6 < w3.heap.size := Nat.lt_of_lt_of_le s6w2 g3.size
  have s7w3 : p7 < w3.heap.size := Nat.lt_of_lt_of_le s7w2 g3.size
  have ca0w3 : w3.cell? ⟨w.heap.size, 0, none⟩ = some (.int .i64 (xa)) := (g3.cell (p := ⟨w.heap.size, 0, none⟩) saw2).trans ca0w2
  have ca1w3 : w3.cell? ⟨w.heap.size, 1, none⟩ = some (.int .i64 (ya)) := (g3.cell (p := ⟨w.heap.size, 1, none⟩) saw2).trans ca1w2
  have cb0w3 : w3.cell? ⟨w.heap.size + 1, 0, none⟩ = some (.int .i64 (xb)) := (g3.cell (p := ⟨w.heap.size + 1, 0, none⟩) sbw2).trans cb0w2
  have cb1w3 : w3.cell? ⟨w.heap.size + 1, 1, none⟩ = some (.int .i64 (yb)) := (g3.cell (p := ⟨w.heap.size + 1, 1, none⟩) sbw2).trans cb1w2
  have cc0w3 : w3.cell? ⟨w.heap.size + 1 + 1, 0, none⟩ = some (.int .i64 (xc)) := (g3.cell (p := ⟨w.heap.size + 1 + 1, 0, none⟩) scw2).trans cc0w2
  have cc1w3 : w3.cell? ⟨w.heap.size + 1 + 1, 1, none⟩ = some (.int .i64 (yc)) := (g3.cell (p := ⟨w.heap.size + 1 + 1, 1, none⟩) scw2).trans cc1w2
  have cd0w3 : w3.cell? ⟨w.heap.size + 1 + 1 + 1, 0, none⟩ = some (.int .i64 (xd)) := (g3.cell (p := ⟨w.heap.size + 1 + 1 + 1, 0, none⟩) sdw2).trans cd0w2
  have cd1w3 : w3.cell? ⟨w.heap.size + 1 + 1 + 1, 1, none⟩ = some (.int .i64 (yd)) := (g3.cell (p := ⟨w.heap.size + 1 + 1 + 1, 1, none⟩) sdw2).trans cd1w2
  have c60w3 : w3.cell? ⟨p6, 0, none⟩ = some (.int .i64 (xa)) := (g3.cell (p := ⟨p6, 0, none⟩) s6w2).trans c60w2
  have c61w3 : w3.cell? ⟨p6, 1, none⟩ = some (.int .i64 (ya)) := (g3.cell (p := ⟨p6, 1, none⟩) s6w2).trans c61w2
  have c62w3 : w3.cell? ⟨p6, 2, none⟩ = some (.int .i64 (xb)) := (g3.cell (p := ⟨p6, 2, none⟩) s6w2).trans c62w2
  have c63w3 : w3.cell? ⟨p6, 3, none⟩ = some (.int .i64 (yb)) := (g3.cell (p := ⟨p6, 3, none⟩) s6w2).trans c63w2
  have c70w3 : w3.cell? ⟨p7, 0, none⟩ = some (.int .i64 (xc)) := (g3.cell (p := ⟨p7, 0, none⟩) s7w2).trans c70w2
  have c71w3 : w3.cell? ⟨p7, 1, none⟩ = some (.int .i64 (yc)) := (g3.cell (p := ⟨p7, 1, none⟩) s7w2).trans c71w2
  have c72w3 : w3.cell? ⟨p7, 2, none⟩ = some (.int .i64 (xd)) := (g3.cell (p := ⟨p7, 2, none⟩) s7w2).trans c72w2
  have c73w3 : w3.cell? ⟨p7, 3, none⟩ = some (.int .i64 (yd)) := (g3.cell (p := ⟨p7, 3, none⟩) s7w2).trans c73w2
  have hrw3 : w3.heap[w.heap.size + 1 + 1 + 1 + 1]? = some (.cells #[.int .i64 0, .int .i64 0] 25 (0, 0)) := (g3.block _ srw2).trans hrw2
  clear ca0w2 ca1w2 cb0w2 cb1w2 cc0w2 cc1w2 cd0w2 cd1w2 c60w2 c61w2 c62w2 c63w2 c70w2 c71w2 c72w2 c73w2 hrw2 saw2 sbw2 scw2 sdw2 srw2 s6w2 s7w2
  clear g3
  obtain ⟨e0, _, e1, _⟩ := cells2_of hrw3
  obtain ⟨_, e2, _, e3⟩ := cells2_of hrw3
  clear hrw3
  go_wp2
  exact bodyPost_ret (v := .tuple #[.agg #[.int .i64 0, .int .i64 0], .int .i64 6]) (by simp [results, Try.results25, go_sem, e0, e1]) rfl ⟨rfl, ((bseq (bseq (bseq (four_allocs _ _ _ _) HB1.out) HB2.out) HB3.out).setCell (by simp; omega) _).setCell (by simp; omega) _⟩
set_option maxHeartbeats 8000000 in
theorem cpI_yes (xa ya xb yb xc yc xd yd : Int) (w : World) (ha : okI xa ya = true) (hb : okI xb yb = true) (hc : okI xc yc = true) (hd : okI xd yd = true) (h0 : csB xa ya xb yb xc yc xd yd = true) (hr : (xb - xa) * (yd - yc) - (yb - ya) * (xd - xc) ≠ 0) :
    Calls Try.prog 25 #[.agg #[.int .i64 xa, .int .i64 ya], .agg #[.int .i64 xb, .int .i64 yb], .agg #[.int .i64 xc, .int .i64 yc], .agg #[.int .i64 xd, .int .i64 yd]] w fun e w' => e = .returned (.tuple #[.agg #[.int .i64 (cpX xa ya xb yb xc yc xd yd), .int .i64 (cpY xa ya xb yb xc yc xd yd)], .int .i64 0]) ∧ Below w.heap.size w w' := by
  have ba := ok_bd ha
  have bb := ok_bd hb
  have bc := ok_bd hc
  have bd := ok_bd hd
  have HA := Lib.hid ha
  have HB := Lib.hid hb
  have HC := Lib.hid hc
  have HD := Lib.hid hd
  clear ha hb hc hd
  have m1 := mulB (xb - xa) (yd - yc) 20000 20000 (by omega) (by omega) (by omega) (by omega)
  have m2 := mulB (yb - ya) (xd - xc) 20000 20000 (by omega) (by omega) (by omega) (by omega)
  have m3 := mulB (xc - xa) (yd - yc) 20000 20000 (by omega) (by omega) (by omega) (by omega)
  have m4 := mulB (yc - ya) (xd - xc) 20000 20000 (by omega) (by omega) (by omega) (by omega)
  have HX := Lib.hid (show xa + qhI ((xb - xa) * ((xc - xa) * (yd - yc) - (yc - ya) * (xd - xc))) ((xb - xa) * (yd - yc) - (yb - ya) * (xd - xc)) = cpX xa ya xb yb xc yc xd yd from rfl)
  have HY := Lib.hid (show ya + qhI ((yb - ya) * ((xc - xa) * (yd - yc) - (yc - ya) * (xd - xc))) ((xb - xa) * (yd - yc) - (yb - ya) * (xd - xc)) = cpY xa ya xb yb xc yc xd yd from rfl)
  have HR := Lib.hid hr
  clear hr
  have HV := Lib.hid (v4_of xa ya xb yb xc yc xd yd HA.out HB.out HC.out HD.out)
  go_enter Try.func25, Try.ntmps25
  go_wp2_with fail
  refine (allValid4_yes _ _ _ _ _ _ _ _ _ _ _ (by simp) HV.out).mono ?_
  rintro e w1 ⟨rfl, g1⟩
  obtain ⟨k1, q1⟩ := bcell g1
  have HW1 := Lib.hid g1
  clear g1
  have saw1 : w.heap.size < w1.heap.size := by have := HW1.out.size; simp at this; omega
  have ca0w1 : w1.cell? ⟨w.heap.size, 0, none⟩ = some (.int .i64 (xa)) := by rw [k1 _ _ (by simp <;> omega)]; go_simp
  have ca1w1 : w1.cell? ⟨w.heap.size, 1, none⟩ = some (.int .i64 (ya)) := by rw [k1 _ _ (by simp <;> omega)]; go_simp
  have sbw1 : w.heap.size + 1 < w1.heap.size := by have := HW1.out.size; simp at this; omega
  have cb0w1 : w1.cell? ⟨w.heap.size + 1, 0, none⟩ = some (.int .i64 (xb)) := by rw [k1 _ _ (by simp <;> omega)]; go_simp
  have cb1w1 : w1.cell? ⟨w.heap.size + 1, 1, none⟩ = some (.int .i64 (yb)) := by rw [k1 _ _ (by simp <;> omega)]; go_simp
  have scw1 : w.heap.size + 1 + 1 < w1.heap.size := by have := HW1.out.size; simp at this; omega
  have cc0w1 : w1.cell? ⟨w.heap.size + 1 + 1, 0, none⟩ = some (.int .i64 (xc)) := by rw [k1 _ _ (by simp <;> omega)]; go_simp
  have cc1w1 : w1.cell? ⟨w.heap.size + 1 + 1, 1, none⟩ = some (.int .i64 (yc)) := by rw [k1 _ _ (by simp <;> omega)]; go_simp
  have sdw1 : w.heap.size + 1 + 1 + 1 < w1.heap.size := by have := HW1.out.size; simp at this; omega
  have cd0w1 : w1.cell? ⟨w.heap.size + 1 + 1 + 1, 0, none⟩ = some (.int .i64 (xd)) := by rw [k1 _ _ (by simp <;> omega)]; go_simp
  have cd1w1 : w1.cell? ⟨w.heap.size + 1 + 1 + 1, 1, none⟩ = some (.int .i64 (yd)) := by rw [k1 _ _ (by simp <;> omega)]; go_simp
  have srw1 : w.heap.size + 1 + 1 + 1 + 1 < w1.heap.size := by have := HW1.out.size; simp at this; omega
  have hrw1 : w1.heap[w.heap.size + 1 + 1 + 1 + 1]? = some (.cells #[.int .i64 0, .int .i64 0] 25 (0, 0)) := (HW1.out.block _ (by simp)).trans (by have := second_last ((((w.alloc (.cells #[.int .i64 xa, .int .i64 ya] 25)).alloc (.cells #[.int .i64 xb, .int .i64 yb] 25)).alloc (.cells #[.int .i64 xc, .int .i64 yc] 25)).alloc (.cells #[.int .i64 xd, .int .i64 yd] 25)) (.cells #[.int .i64 0, .int .i64 0] 25 (0, 0)) (.cells #[.int .i64 xa, .int .i64 ya, .int .i64 xb, .int .i64 yb, .int .i64 xc, .int .i64 yc, .int .i64 xd, .int .i64 yd] 25); simpa using this)
  have HB1 := Lib.hid (bseq (two_allocs (w := (((w.alloc (.cells #[.int .i64 xa, .int .i64 ya] 25)).alloc (.cells #[.int .i64 xb, .int .i64 yb] 25)).alloc (.cells #[.int .i64 xc, .int .i64 yc] 25)).alloc (.cells #[.int .i64 xd, .int .i64 yd] 25)) (.cells #[.int .i64 0, .int .i64 0] 25 (0, 0)) (.cells #[.int .i64 xa, .int .i64 ya, .int .i64 xb, .int .i64 yb, .int .i64 xc, .int .i64 yc, .int .i64 xd, .int .i64 yd] 25)) HW1.out)
  clear k1 q1 HW1
  have Hrw1 := Lib.hid hrw1
  clear hrw1
  go_wp2
  refine wp_region_plan [.val 0 [] (.agg #[.int .i64 xa, .int .i64 ya]), .val 1 [] (.agg #[.int .i64 xb, .int .i64 yb]), .val 2 [] (.agg #[.int .i64 xa, .int .i64 ya, .int .i64 xb, .int .i64 yb]), .val 3 [] (.agg #[.int .i64 xc, .int .i64 yc]), .val 4 [] (.agg #[.int .i64 xd, .int .i64 yd]), .val 5 [] (.agg #[.int .i64 xc, .int .i64 yc, .int .i64 xd, .int .i64 yd]), .make 6 (.cells #[.int .i64 0, .int .i64 0, .int .i64 0, .int .i64 0] 56 (0, 0)) (fun p => .pointer (some ⟨p, 0, none⟩)), .make 7 (.cells #[.int .i64 0, .int .i64 0, .int .i64 0, .int .i64 0] 56 (0, 0)) (fun p => .pointer (some ⟨p, 0, none⟩)), .put 8 6 (.cells #[.int .i64 xa, .int .i64 ya, .int .i64 xb, .int .i64 yb] 56 (0, 0)), .put 9 7 (.cells #[.int .i64 xc, .int .i64 yc, .int .i64 xd, .int .i64 yd] 56 (0, 0))] (by kernel_rfl) (by kernel_rfl) rfl ?_
  refine plan_val (by kernel_rfl) (by kernel_rfl) (by kernel_rfl) (by go_simp) (fun w1 hw1 => ?_) ?_
  · obtain ⟨hc, hf⟩ := bcell hw1; clear hw1; go_simp; (try with_reducible rfl)
  (try simp only [Act.put, List.setIfInBounds_toArray, List.set_cons_zero, List.set_cons_succ])
  refine plan_val (by kernel_rfl) (by kernel_rfl) (by kernel_rfl) (by go_simp) (fun w1 hw1 => ?_) ?_
  · obtain ⟨hc, hf⟩ := bcell hw1; clear hw1; go_simp; (try with_reducible rfl)
  (try simp only [Act.put, List.setIfInBounds_toArray, List.set_cons_zero, List.set_cons_succ])
  refine plan_val (by kernel_rfl) (by kernel_rfl) (by kernel_rfl) (by go_simp) (fun w1 hw1 => ?_) ?_
  · obtain ⟨hc, hf⟩ := bcell hw1; clear hw1; go_simp; (try with_reducible rfl)
  (try simp only [Act.put, List.setIfInBounds_toArray, List.set_cons_zero, List.set_cons_succ])
  refine plan_val (by kernel_rfl) (by kernel_rfl) (by kernel_rfl) (by go_simp) (fun w1 hw1 => ?_) ?_
  · obtain ⟨hc, hf⟩ := bcell hw1; clear hw1; go_simp; (try with_reducible rfl)
  (try simp only [Act.put, List.setIfInBounds_toArray, List.set_cons_zero, List.set_cons_succ])
  refine plan_val (by kernel_rfl) (by kernel_rfl) (by kernel_rfl) (by go_simp) (fun w1 hw1 => ?_) ?_
  · obtain ⟨hc, hf⟩ := bcell hw1; clear hw1; go_simp; (try with_reducible rfl)
  (try simp only [Act.put, List.setIfInBounds_toArray, List.set_cons_zero, List.set_cons_succ])
  refine plan_val (by kernel_rfl) (by kernel_rfl) (by kernel_rfl) (by go_simp) (fun w1 hw1 => ?_) ?_
  · obtain ⟨hc, hf⟩ := bcell hw1; clear hw1; go_simp; (try with_reducible rfl)
  (try simp only [Act.put, List.setIfInBounds_toArray, List.set_cons_zero, List.set_cons_succ])
  refine plan_make (by kernel_rfl) (by kernel_rfl) (by go_simp) (fun w1 => ?_) (fun p6 hp6 => ?_)
  · go_simp; (try with_reducible rfl)
  (try simp only [Act.put, List.setIfInBounds_toArray, List.set_cons_zero, List.set_cons_succ])
  refine plan_make (by kernel_rfl) (by kernel_rfl) (by go_simp) (fun w1 => ?_) (fun p7 hp7 => ?_)
  · go_simp; (try with_reducible rfl)
  (try simp only [Act.put, List.setIfInBounds_toArray, List.set_cons_zero, List.set_cons_succ])
  refine plan_put (p := p6) (by kernel_rfl) (by kernel_rfl) (by kernel_rfl) (by kernel_rfl) (by go_simp) (Or.inr (Or.inl rfl)) (fun w1 hg hh => ?_) ?_
  · obtain ⟨c0, f0, c1, f1, c2, f2, c3, f3⟩ := cells4_of hh
    refine ⟨_, ?_, stored4 hh⟩
    clear hh hg; go_simp; (try with_reducible rfl)
  (try simp only [Act.put])
  refine plan_put (p := p7) (by kernel_rfl) (by kernel_rfl) (by kernel_rfl) (by kernel_rfl) (by go_simp) (Or.inl ⟨Or.inl rfl, (fun h => by cases h)⟩) (fun w1 hg hh => ?_) ?_
  · obtain ⟨c0, f0, c1, f1, c2, f2, c3, f3⟩ := cells4_of hh
    refine ⟨_, ?_, stored4 hh⟩
    clear hh hg; go_simp; (try with_reducible rfl)
  (try simp only [Act.put])
  refine plan_done (by kernel_rfl) (fun w2 hC => ?_)
  have hrw1 := Hrw1.out
  clear Hrw1
  obtain ⟨b6, s6, g6⟩ := hC.2 ⟨6, p6, _⟩ (Or.inl ⟨Or.inr ⟨⟨6, p6, _⟩, Or.inr (Or.inl rfl), rfl, rfl⟩, (fun h => by cases h)⟩)
  obtain ⟨b7, s7, g7⟩ := hC.2 ⟨7, p7, _⟩ (Or.inr ⟨⟨7, p7, _⟩, Or.inl ⟨Or.inl rfl, (fun h => by cases h)⟩, rfl, rfl⟩)
  obtain ⟨c60w2, f60, c61w2, f61, c62w2, f62, c63w2, f63⟩ := cells4_of g6
  obtain ⟨c70w2, f70, c71w2, f71, c72w2, f72, c73w2, f73⟩ := cells4_of g7
  have HB2 := Lib.hid hC.1
  have s6w2 := s6
  have s7w2 := s7
  have saw2 : w.heap.size < w2.heap.size := Nat.lt_of_lt_of_le saw1 hC.1.size
  have sbw2 : w.heap.size + 1 < w2.heap.size := Nat.lt_of_lt_of_le sbw1 hC.1.size
  have scw2 : w.heap.size + 1 + 1 < w2.heap.size := Nat.lt_of_lt_of_le scw1 hC.1.size
  have sdw2 : w.heap.size + 1 + 1 + 1 < w2.heap.size := Nat.lt_of_lt_of_le sdw1 hC.1.size
  have srw2 : w.heap.size + 1 + 1 + 1 + 1 < w2.heap.size := Nat.lt_of_lt_of_le srw1 hC.1.size
  have ca0w2 : w2.cell? ⟨w.heap.size, 0, none⟩ = some (.int .i64 (xa)) := (hC.1.cell (p := ⟨w.heap.size, 0, none⟩) saw1).trans ca0w1
  have ca1w2 : w2.cell? ⟨w.heap.size, 1, none⟩ = some (.int .i64 (ya)) := (hC.1.cell (p := ⟨w.heap.size, 1, none⟩) saw1).trans ca1w1
  have cb0w2 : w2.cell? ⟨w.heap.size + 1, 0, none⟩ = some (.int .i64 (xb)) := (hC.1.cell (p := ⟨w.heap.size + 1, 0, none⟩) sbw1).trans cb0w1
  have cb1w2 : w2.cell? ⟨w.heap.size + 1, 1, none⟩ = some (.int .i64 (yb)) := (hC.1.cell (p := ⟨w.heap.size + 1, 1, none⟩) sbw1).trans cb1w1
  have cc0w2 : w2.cell? ⟨w.heap.size + 1 + 1, 0, none⟩ = some (.int .i64 (xc)) := (hC.1.cell (p := ⟨w.heap.size + 1 + 1, 0, none⟩) scw1).trans cc0w1
  have cc1w2 : w2.cell? ⟨w.heap.size + 1 + 1, 1, none⟩ = some (.int .i64 (yc)) := (hC.1.cell (p := ⟨w.heap.size + 1 + 1, 1, none⟩) scw1).trans cc1w1
  have cd0w2 : w2.cell? ⟨w.heap.size + 1 + 1 + 1, 0, none⟩ = some (.int .i64 (xd)) := (hC.1.cell (p := ⟨w.heap.size + 1 + 1 + 1, 0, none⟩) sdw1).trans cd0w1
  have cd1w2 : w2.cell? ⟨w.heap.size + 1 + 1 + 1, 1, none⟩ = some (.int .i64 (yd)) := (hC.1.cell (p := ⟨w.heap.size + 1 + 1 + 1, 1, none⟩) sdw1).trans cd1w1
  have hrw2 : w2.heap[w.heap.size + 1 + 1 + 1 + 1]? = some (.cells #[.int .i64 0, .int .i64 0] 25 (0, 0)) := (hC.1.block _ srw1).trans hrw1
  clear ca0w1 ca1w1 cb0w1 cb1w1 cc0w1 cc1w1 cd0w1 cd1w1 hrw1 saw1 sbw1 scw1 sdw1 srw1
  clear hC g6 g7 f60 f61 f62 f63 f70 f71 f72 f73 hp6 hp7 s6 s7 b6 b7
  have Hrw2 := Lib.hid hrw2
  clear hrw2
  go_wp2_with fail
  refine (crosses_any _ _ _ _ _ _ _ _ _ HA.out HB.out HC.out HD.out).mono ?_
  rintro e w3 ⟨rfl, g3⟩
  have HB3 := Lib.hid g3
  have hrw2 := Hrw2.out
  clear Hrw2
  have saw3 : w.heap.size < w3.heap.size := Nat.lt_of_lt_of_le saw2 g3.size
  have sbw3 : w.heap.size + 1 < w3.heap.size := Nat.lt_of_lt_of_le sbw2 g3.size
  have scw3 : w.heap.size + 1 + 1 < w3.heap.size := Nat.lt_of_lt_of_le scw2 g3.size
  have sdw3 : w.heap.size + 1 + 1 + 1 < w3.heap.size := Nat.lt_of_lt_of_le sdw2 g3.size
  have srw3 : w.heap.size + 1 + 1 + 1 + 1 < w3.heap.size := Nat.lt_of_lt_of_le srw2 g3.size
  have s6w3 : p6 < w3.heap.size := Nat.lt_of_lt_of_le s6w2 g3.size
  have s7w3 : p7 < w3.heap.size := Nat.lt_of_lt_of_le s7w2 g3.size
  have ca0w3 : w3.cell? ⟨w.heap.size, 0, none⟩ = some (.int .i64 (xa)) := (g3.cell (p := ⟨w.heap.size, 0, none⟩) saw2).trans ca0w2
  have ca1w3 : w3.cell? ⟨w.heap.size, 1, none⟩ = some (.int .i64 (ya)) := (g3.cell (p := ⟨w.heap.size, 1, none⟩) saw2).trans ca1w2
  have cb0w3 : w3.cell? ⟨w.heap.size + 1, 0, none⟩ = some (.int .i64 (xb)) := (g3.cell (p := ⟨w.heap.size + 1, 0, none⟩) sbw2).trans cb0w2
  have cb1w3 : w3.cell? ⟨w.heap.size + 1, 1, none⟩ = some (.int .i64 (yb)) := (g3.cell (p := ⟨w.heap.size + 1, 1, none⟩) sbw2).trans cb1w2
  have cc0w3 : w3.cell? ⟨w.heap.size + 1 + 1, 0, none⟩ = some (.int .i64 (xc)) := (g3.cell (p := ⟨w.heap.size + 1 + 1, 0, none⟩) scw2).trans cc0w2
  have cc1w3 : w3.cell? ⟨w.heap.size + 1 + 1, 1, none⟩ = some (.int .i64 (yc)) := (g3.cell (p := ⟨w.heap.size + 1 + 1, 1, none⟩) scw2).trans cc1w2
  have cd0w3 : w3.cell? ⟨w.heap.size + 1 + 1 + 1, 0, none⟩ = some (.int .i64 (xd)) := (g3.cell (p := ⟨w.heap.size + 1 + 1 + 1, 0, none⟩) sdw2).trans cd0w2
  have cd1w3 : w3.cell? ⟨w.heap.size + 1 + 1 + 1, 1, none⟩ = some (.int .i64 (yd)) := (g3.cell (p := ⟨w.heap.size + 1 + 1 + 1, 1, none⟩) sdw2).trans cd1w2
  have c60w3 : w3.cell? ⟨p6, 0, none⟩ = some (.int .i64 (xa)) := (g3.cell (p := ⟨p6, 0, none⟩) s6w2).trans c60w2
  have c61w3 : w3.cell? ⟨p6, 1, none⟩ = some (.int .i64 (ya)) := (g3.cell (p := ⟨p6, 1, none⟩) s6w2).trans c61w2
  have c62w3 : w3.cell? ⟨p6, 2, none⟩ = some (.int .i64 (xb)) := (g3.cell (p := ⟨p6, 2, none⟩) s6w2).trans c62w2
  have c63w3 : w3.cell? ⟨p6, 3, none⟩ = some (.int .i64 (yb)) := (g3.cell (p := ⟨p6, 3, none⟩) s6w2).trans c63w2
  have c70w3 : w3.cell? ⟨p7, 0, none⟩ = some (.int .i64 (xc)) := (g3.cell (p := ⟨p7, 0, none⟩) s7w2).trans c70w2
  have c71w3 : w3.cell? ⟨p7, 1, none⟩ = some (.int .i64 (yc)) := (g3.cell (p := ⟨p7, 1, none⟩) s7w2).trans c71w2
  have c72w3 : w3.cell? ⟨p7, 2, none⟩ = some (.int .i64 (xd)) := (g3.cell (p := ⟨p7, 2, none⟩) s7w2).trans c72w2
  have c73w3 : w3.cell? ⟨p7, 3, none⟩ = some (.int .i64 (yd)) := (g3.cell (p := ⟨p7, 3, none⟩) s7w2).trans c73w2
  have hrw3 : w3.heap[w.heap.size + 1 + 1 + 1 + 1]? = some (.cells #[.int .i64 0, .int .i64 0] 25 (0, 0)) := (g3.block _ srw2).trans hrw2
  clear ca0w2 ca1w2 cb0w2 cb1w2 cc0w2 cc1w2 cd0w2 cd1w2 c60w2 c61w2 c62w2 c63w2 c70w2 c71w2 c72w2 c73w2 hrw2 saw2 sbw2 scw2 sdw2 srw2 s6w2 s7w2
  clear g3
  have Hrw3 := Lib.hid hrw3
  clear hrw3
  go_wp2
  refine wp_region_plan [.val 0 [] (.agg #[.int .i64 xa, .int .i64 ya, .int .i64 xb, .int .i64 yb]), .val 1 [] (.agg #[.int .i64 (xb - xa), .int .i64 (yb - ya)]), .val 2 [] (.agg #[.int .i64 xc, .int .i64 yc, .int .i64 xd, .int .i64 yd]), .val 3 [] (.agg #[.int .i64 (xd - xc), .int .i64 (yd - yc)]), .make 4 (.cells #[.int .i64 0, .int .i64 0] 25 (0, 0)) (fun p => .pointer (some ⟨p, 0, none⟩)), .make 5 (.cells #[.int .i64 0, .int .i64 0] 25 (0, 0)) (fun p => .pointer (some ⟨p, 0, none⟩)), .put 6 4 (.cells #[.int .i64 (xb - xa), .int .i64 (yb - ya)] 25 (0, 0)), .put 7 5 (.cells #[.int .i64 (xd - xc), .int .i64 (yd - yc)] 25 (0, 0))] (by kernel_rfl) (by kernel_rfl) rfl ?_
  refine plan_val (by kernel_rfl) (by kernel_rfl) (by kernel_rfl) (by go_simp) (fun w1 hw1 => ?_) ?_
  · obtain ⟨hc, hf⟩ := bcell hw1; clear hw1; go_simp; (try with_reducible rfl)
  (try simp only [Act.put, List.setIfInBounds_toArray, List.set_cons_zero, List.set_cons_succ])
  refine plan_call [] 56 #[.agg #[.int .i64 xa, .int .i64 ya, .int .i64 xb, .int .i64 yb]] (by kernel_rfl) (by kernel_rfl) (by kernel_rfl) (by kernel_rfl) (by go_simp) (fun w1 hw1 => ?_) (fun w1 hC => ?_) ?_
  · clear hw1; go_simp; (try with_reducible rfl)
  · exact step_any _ _ _ _ _ HA.out HB.out
  (try simp only [Act.put, List.setIfInBounds_toArray, List.set_cons_zero, List.set_cons_succ])
  refine plan_val (by kernel_rfl) (by kernel_rfl) (by kernel_rfl) (by go_simp) (fun w1 hw1 => ?_) ?_
  · obtain ⟨hc, hf⟩ := bcell hw1; clear hw1; go_simp; (try with_reducible rfl)
  (try simp only [Act.put, List.setIfInBounds_toArray, List.set_cons_zero, List.set_cons_succ])
  refine plan_call [] 56 #[.agg #[.int .i64 xc, .int .i64 yc, .int .i64 xd, .int .i64 yd]] (by kernel_rfl) (by kernel_rfl) (by kernel_rfl) (by kernel_rfl) (by go_simp) (fun w1 hw1 => ?_) (fun w1 hC => ?_) ?_
  · clear hw1; go_simp; (try with_reducible rfl)
  · exact step_any _ _ _ _ _ HC.out HD.out
  (try simp only [Act.put, List.setIfInBounds_toArray, List.set_cons_zero, List.set_cons_succ])
  refine plan_make (by kernel_rfl) (by kernel_rfl) (by go_simp) (fun w1 => ?_) (fun p4 hp4 => ?_)
  · go_simp; (try with_reducible rfl)
  (try simp only [Act.put, List.setIfInBounds_toArray, List.set_cons_zero, List.set_cons_succ])
  refine plan_make (by kernel_rfl) (by kernel_rfl) (by go_simp) (fun w1 => ?_) (fun p5 hp5 => ?_)
  · go_simp; (try with_reducible rfl)
  (try simp only [Act.put, List.setIfInBounds_toArray, List.set_cons_zero, List.set_cons_succ])
  refine plan_put (p := p4) (by kernel_rfl) (by kernel_rfl) (by kernel_rfl) (by kernel_rfl) (by go_simp) (Or.inr (Or.inl rfl)) (fun w1 hg hh => ?_) ?_
  · obtain ⟨c0, f0, c1, f1⟩ := cells2_of hh
    refine ⟨_, ?_, stored2 hh⟩
    clear hh hg; go_simp; (try with_reducible rfl)
  (try simp only [Act.put])
  refine plan_put (p := p5) (by kernel_rfl) (by kernel_rfl) (by kernel_rfl) (by kernel_rfl) (by go_simp) (Or.inl ⟨Or.inl rfl, (fun h => by cases h)⟩) (fun w1 hg hh => ?_) ?_
  · obtain ⟨c0, f0, c1, f1⟩ := cells2_of hh
    refine ⟨_, ?_, stored2 hh⟩
    clear hh hg; go_simp; (try with_reducible rfl)
  (try simp only [Act.put])
  refine plan_done (by kernel_rfl) (fun w4 hC => ?_)
  have hrw3 := Hrw3.out
  clear Hrw3
  obtain ⟨b4, s4, g4⟩ := hC.2 ⟨4, p4, _⟩ (Or.inl ⟨Or.inr ⟨⟨4, p4, _⟩, Or.inr (Or.inl rfl), rfl, rfl⟩, (fun h => by cases h)⟩)
  obtain ⟨b5, s5, g5⟩ := hC.2 ⟨5, p5, _⟩ (Or.inr ⟨⟨5, p5, _⟩, Or.inl ⟨Or.inl rfl, (fun h => by cases h)⟩, rfl, rfl⟩)
  obtain ⟨cS0w4, f40, cS1w4, f41⟩ := cells2_of g4
  obtain ⟨cO0w4, f50, cO1w4, f51⟩ := cells2_of g5
  have hSw4 := g4
  have sSw4 := s4
  have sOw4 := s5
  have ne4 : w.heap.size + 1 + 1 + 1 + 1 < p4 := Nat.lt_of_lt_of_le srw3 b4
  have HB4 := Lib.hid hC.1
  have saw4 : w.heap.size < w4.heap.size := Nat.lt_of_lt_of_le saw3 hC.1.size
  have sbw4 : w.heap.size + 1 < w4.heap.size := Nat.lt_of_lt_of_le sbw3 hC.1.size
  have scw4 : w.heap.size + 1 + 1 < w4.heap.size := Nat.lt_of_lt_of_le scw3 hC.1.size
  have sdw4 : w.heap.size + 1 + 1 + 1 < w4.heap.size := Nat.lt_of_lt_of_le sdw3 hC.1.size
  have srw4 : w.heap.size + 1 + 1 + 1 + 1 < w4.heap.size := Nat.lt_of_lt_of_le srw3 hC.1.size
  have s6w4 : p6 < w4.heap.size := Nat.lt_of_lt_of_le s6w3 hC.1.size
  have s7w4 : p7 < w4.heap.size := Nat.lt_of_lt_of_le s7w3 hC.1.size
  have ca0w4 : w4.cell? ⟨w.heap.size, 0, none⟩ = some (.int .i64 (xa)) := (hC.1.cell (p := ⟨w.heap.size, 0, none⟩) saw3).trans ca0w3
  have ca1w4 : w4.cell? ⟨w.heap.size, 1, none⟩ = some (.int .i64 (ya)) := (hC.1.cell (p := ⟨w.heap.size, 1, none⟩) saw3).trans ca1w3
  have cb0w4 : w4.cell? ⟨w.heap.size + 1, 0, none⟩ = some (.int .i64 (xb)) := (hC.1.cell (p := ⟨w.heap.size + 1, 0, none⟩) sbw3).trans cb0w3
  have cb1w4 : w4.cell? ⟨w.heap.size + 1, 1, none⟩ = some (.int .i64 (yb)) := (hC.1.cell (p := ⟨w.heap.size + 1, 1, none⟩) sbw3).trans cb1w3
  have cc0w4 : w4.cell? ⟨w.heap.size + 1 + 1, 0, none⟩ = some (.int .i64 (xc)) := (hC.1.cell (p := ⟨w.heap.size + 1 + 1, 0, none⟩) scw3).trans cc0w3
  have cc1w4 : w4.cell? ⟨w.heap.size + 1 + 1, 1, none⟩ = some (.int .i64 (yc)) := (hC.1.cell (p := ⟨w.heap.size + 1 + 1, 1, none⟩) scw3).trans cc1w3
  have cd0w4 : w4.cell? ⟨w.heap.size + 1 + 1 + 1, 0, none⟩ = some (.int .i64 (xd)) := (hC.1.cell (p := ⟨w.heap.size + 1 + 1 + 1, 0, none⟩) sdw3).trans cd0w3
  have cd1w4 : w4.cell? ⟨w.heap.size + 1 + 1 + 1, 1, none⟩ = some (.int .i64 (yd)) := (hC.1.cell (p := ⟨w.heap.size + 1 + 1 + 1, 1, none⟩) sdw3).trans cd1w3
  have c60w4 : w4.cell? ⟨p6, 0, none⟩ = some (.int .i64 (xa)) := (hC.1.cell (p := ⟨p6, 0, none⟩) s6w3).trans c60w3
  have c61w4 : w4.cell? ⟨p6, 1, none⟩ = some (.int .i64 (ya)) := (hC.1.cell (p := ⟨p6, 1, none⟩) s6w3).trans c61w3
  have c62w4 : w4.cell? ⟨p6, 2, none⟩ = some (.int .i64 (xb)) := (hC.1.cell (p := ⟨p6, 2, none⟩) s6w3).trans c62w3
  have c63w4 : w4.cell? ⟨p6, 3, none⟩ = some (.int .i64 (yb)) := (hC.1.cell (p := ⟨p6, 3, none⟩) s6w3).trans c63w3
  have c70w4 : w4.cell? ⟨p7, 0, none⟩ = some (.int .i64 (xc)) := (hC.1.cell (p := ⟨p7, 0, none⟩) s7w3).trans c70w3
  have c71w4 : w4.cell? ⟨p7, 1, none⟩ = some (.int .i64 (yc)) := (hC.1.cell (p := ⟨p7, 1, none⟩) s7w3).trans c71w3
  have c72w4 : w4.cell? ⟨p7, 2, none⟩ = some (.int .i64 (xd)) := (hC.1.cell (p := ⟨p7, 2, none⟩) s7w3).trans c72w3
  have c73w4 : w4.cell? ⟨p7, 3, none⟩ = some (.int .i64 (yd)) := (hC.1.cell (p := ⟨p7, 3, none⟩) s7w3).trans c73w3
  have hrw4 : w4.heap[w.heap.size + 1 + 1 + 1 + 1]? = some (.cells #[.int .i64 0, .int .i64 0] 25 (0, 0)) := (hC.1.block _ srw3).trans hrw3
  clear ca0w3 ca1w3 cb0w3 cb1w3 cc0w3 cc1w3 cd0w3 cd1w3 c60w3 c61w3 c62w3 c63w3 c70w3 c71w3 c72w3 c73w3 hrw3 saw3 sbw3 scw3 sdw3 srw3 s6w3 s7w3
  clear hC g4 g5 f40 f41 f50 f51 hp4 hp5 s4 s5 b4 b5
  clear c60w4 c61w4 c62w4 c63w4 c70w4 c71w4 c72w4 c73w4 s6w4 s7w4
  have Hrw4 := Lib.hid hrw4
  clear hrw4
  have HSw4 := Lib.hid hSw4
  clear hSw4
  go_wp2_with fail
  refine (cross_any _ _ _ _ _ (by omega) (by omega) (by omega) (by omega)).mono ?_
  rintro e w5 ⟨rfl, g5⟩
  have HB5 := Lib.hid g5
  have hrw4 := Hrw4.out
  clear Hrw4
  have hSw4 := HSw4.out
  clear HSw4
  have saw5 : w.heap.size < w5.heap.size := Nat.lt_of_lt_of_le saw4 g5.size
  have sbw5 : w.heap.size + 1 < w5.heap.size := Nat.lt_of_lt_of_le sbw4 g5.size
  have scw5 : w.heap.size + 1 + 1 < w5.heap.size := Nat.lt_of_lt_of_le scw4 g5.size
  have sdw5 : w.heap.size + 1 + 1 + 1 < w5.heap.size := Nat.lt_of_lt_of_le sdw4 g5.size
  have srw5 : w.heap.size + 1 + 1 + 1 + 1 < w5.heap.size := Nat.lt_of_lt_of_le srw4 g5.size
  have sSw5 : p4 < w5.heap.size := Nat.lt_of_lt_of_le sSw4 g5.size
  have sOw5 : p5 < w5.heap.size := Nat.lt_of_lt_of_le sOw4 g5.size
  have ca0w5 : w5.cell? ⟨w.heap.size, 0, none⟩ = some (.int .i64 (xa)) := (g5.cell (p := ⟨w.heap.size, 0, none⟩) saw4).trans ca0w4
  have ca1w5 : w5.cell? ⟨w.heap.size, 1, none⟩ = some (.int .i64 (ya)) := (g5.cell (p := ⟨w.heap.size, 1, none⟩) saw4).trans ca1w4
  have cb0w5 : w5.cell? ⟨w.heap.size + 1, 0, none⟩ = some (.int .i64 (xb)) := (g5.cell (p := ⟨w.heap.size + 1, 0, none⟩) sbw4).trans cb0w4
  have cb1w5 : w5.cell? ⟨w.heap.size + 1, 1, none⟩ = some (.int .i64 (yb)) := (g5.cell (p := ⟨w.heap.size + 1, 1, none⟩) sbw4).trans cb1w4
  have cc0w5 : w5.cell? ⟨w.heap.size + 1 + 1, 0, none⟩ = some (.int .i64 (xc)) := (g5.cell (p := ⟨w.heap.size + 1 + 1, 0, none⟩) scw4).trans cc0w4
  have cc1w5 : w5.cell? ⟨w.heap.size + 1 + 1, 1, none⟩ = some (.int .i64 (yc)) := (g5.cell (p := ⟨w.heap.size + 1 + 1, 1, none⟩) scw4).trans cc1w4
  have cd0w5 : w5.cell? ⟨w.heap.size + 1 + 1 + 1, 0, none⟩ = some (.int .i64 (xd)) := (g5.cell (p := ⟨w.heap.size + 1 + 1 + 1, 0, none⟩) sdw4).trans cd0w4
  have cd1w5 : w5.cell? ⟨w.heap.size + 1 + 1 + 1, 1, none⟩ = some (.int .i64 (yd)) := (g5.cell (p := ⟨w.heap.size + 1 + 1 + 1, 1, none⟩) sdw4).trans cd1w4
  have cS0w5 : w5.cell? ⟨p4, 0, none⟩ = some (.int .i64 (xb - xa)) := (g5.cell (p := ⟨p4, 0, none⟩) sSw4).trans cS0w4
  have cS1w5 : w5.cell? ⟨p4, 1, none⟩ = some (.int .i64 (yb - ya)) := (g5.cell (p := ⟨p4, 1, none⟩) sSw4).trans cS1w4
  have cO0w5 : w5.cell? ⟨p5, 0, none⟩ = some (.int .i64 (xd - xc)) := (g5.cell (p := ⟨p5, 0, none⟩) sOw4).trans cO0w4
  have cO1w5 : w5.cell? ⟨p5, 1, none⟩ = some (.int .i64 (yd - yc)) := (g5.cell (p := ⟨p5, 1, none⟩) sOw4).trans cO1w4
  have hrw5 : w5.heap[w.heap.size + 1 + 1 + 1 + 1]? = some (.cells #[.int .i64 0, .int .i64 0] 25 (0, 0)) := (g5.block _ srw4).trans hrw4
  have hSw5 : w5.heap[p4]? = some (.cells #[.int .i64 (xb - xa), .int .i64 (yb - ya)] 25 (0, 0)) := (g5.block _ sSw4).trans hSw4
  clear ca0w4 ca1w4 cb0w4 cb1w4 cc0w4 cc1w4 cd0w4 cd1w4 cS0w4 cS1w4 cO0w4 cO1w4 hrw4 hSw4 saw4 sbw4 scw4 sdw4 srw4 sSw4 sOw4
  clear g5
  have Hrw5 := Lib.hid hrw5
  clear hrw5
  have HSw5 := Lib.hid hSw5
  clear hSw5
  go_wp2
  refine wp_region_below (by kernel_rfl) (by kernel_rfl) ?_
  (refine wq_val (by go_simp) ?_; apply Exists.intro; refine ⟨fun w1 hw1 => ?_, ?_⟩; (obtain ⟨hc, hf⟩ := bcell hw1; clear hw1; go_simp; (try with_reducible rfl)); (try simp only [Act.put, List.setIfInBounds_toArray, List.set_cons_zero, List.set_cons_succ]))
  (refine wq_val (by go_simp) ?_; apply Exists.intro; refine ⟨fun w1 hw1 => ?_, ?_⟩; (obtain ⟨hc, hf⟩ := bcell hw1; clear hw1; go_simp; (try with_reducible rfl)); (try simp only [Act.put, List.setIfInBounds_toArray, List.set_cons_zero, List.set_cons_succ]))
  (refine wq_call 58 (by go_simp) ?_; apply Exists.intro; refine ⟨fun w1 hw1 => ?_, ?_⟩; (clear hw1; go_simp; (try with_reducible rfl)); apply Exists.intro; refine ⟨fun w1 hw1 => ?_, ?_⟩; (exact calls_below hw1 (minus_any _ _ _ _ _ (by omega) (by omega) (by omega) (by omega))); (try simp only [Act.put, List.setIfInBounds_toArray, List.set_cons_zero, List.set_cons_succ]))
  (refine wq_val (by go_simp) ?_; apply Exists.intro; refine ⟨fun w1 hw1 => ?_, ?_⟩; (obtain ⟨hc, hf⟩ := bcell hw1; clear hw1; go_simp; (try with_reducible rfl)); (try simp only [Act.put, List.setIfInBounds_toArray, List.set_cons_zero, List.set_cons_succ]))
  (refine wq_call 57 (by go_simp) ?_; apply Exists.intro; refine ⟨fun w1 hw1 => ?_, ?_⟩; (clear hw1; go_simp; (try with_reducible rfl)); apply Exists.intro; refine ⟨fun w1 hw1 => ?_, ?_⟩; (exact calls_below hw1 (cross_any _ _ _ _ _ (by omega) (by omega) (by omega) (by omega))); (try simp only [Act.put, List.setIfInBounds_toArray, List.set_cons_zero, List.set_cons_succ]))
  (refine wq_val (by go_simp) ?_; apply Exists.intro; refine ⟨fun w1 hw1 => ?_, ?_⟩; (obtain ⟨hc, hf⟩ := bcell hw1; clear hw1; go_simp; (try with_reducible rfl)); (try simp only [Act.put, List.setIfInBounds_toArray, List.set_cons_zero, List.set_cons_succ]))
  refine wq_nil ?_
  intro w6 g6
  have HB6 := Lib.hid g6
  have hrw5 := Hrw5.out
  clear Hrw5
  have hSw5 := HSw5.out
  clear HSw5
  have saw6 : w.heap.size < w6.heap.size := Nat.lt_of_lt_of_le saw5 g6.size
  have sbw6 : w.heap.size + 1 < w6.heap.size := Nat.lt_of_lt_of_le sbw5 g6.size
  have scw6 : w.heap.size + 1 + 1 < w6.heap.size := Nat.lt_of_lt_of_le scw5 g6.size
  have sdw6 : w.heap.size + 1 + 1 + 1 < w6.heap.size := Nat.lt_of_lt_of_le sdw5 g6.size
  have srw6 : w.heap.size + 1 + 1 + 1 + 1 < w6.heap.size := Nat.lt_of_lt_of_le srw5 g6.size
  have sSw6 : p4 < w6.heap.size := Nat.lt_of_lt_of_le sSw5 g6.size
  have sOw6 : p5 < w6.heap.size := Nat.lt_of_lt_of_le sOw5 g6.size
  have ca0w6 : w6.cell? ⟨w.heap.size, 0, none⟩ = some (.int .i64 (xa)) := (g6.cell (p := ⟨w.heap.size, 0, none⟩) saw5).trans ca0w5
  have ca1w6 : w6.cell? ⟨w.heap.size, 1, none⟩ = some (.int .i64 (ya)) := (g6.cell (p := ⟨w.heap.size, 1, none⟩) saw5).trans ca1w5
  have cb0w6 : w6.cell? ⟨w.heap.size + 1, 0, none⟩ = some (.int .i64 (xb)) := (g6.cell (p := ⟨w.heap.size + 1, 0, none⟩) sbw5).trans cb0w5
  have cb1w6 : w6.cell? ⟨w.heap.size + 1, 1, none⟩ = some (.int .i64 (yb)) := (g6.cell (p := ⟨w.heap.size + 1, 1, none⟩) sbw5).trans cb1w5
  have cc0w6 : w6.cell? ⟨w.heap.size + 1 + 1, 0, none⟩ = some (.int .i64 (xc)) := (g6.cell (p := ⟨w.heap.size + 1 + 1, 0, none⟩) scw5).trans cc0w5
  have cc1w6 : w6.cell? ⟨w.heap.size + 1 + 1, 1, none⟩ = some (.int .i64 (yc)) := (g6.cell (p := ⟨w.heap.size + 1 + 1, 1, none⟩) scw5).trans cc1w5
  have cd0w6 : w6.cell? ⟨w.heap.size + 1 + 1 + 1, 0, none⟩ = some (.int .i64 (xd)) := (g6.cell (p := ⟨w.heap.size + 1 + 1 + 1, 0, none⟩) sdw5).trans cd0w5
  have cd1w6 : w6.cell? ⟨w.heap.size + 1 + 1 + 1, 1, none⟩ = some (.int .i64 (yd)) := (g6.cell (p := ⟨w.heap.size + 1 + 1 + 1, 1, none⟩) sdw5).trans cd1w5
  have cS0w6 : w6.cell? ⟨p4, 0, none⟩ = some (.int .i64 (xb - xa)) := (g6.cell (p := ⟨p4, 0, none⟩) sSw5).trans cS0w5
  have cS1w6 : w6.cell? ⟨p4, 1, none⟩ = some (.int .i64 (yb - ya)) := (g6.cell (p := ⟨p4, 1, none⟩) sSw5).trans cS1w5
  have cO0w6 : w6.cell? ⟨p5, 0, none⟩ = some (.int .i64 (xd - xc)) := (g6.cell (p := ⟨p5, 0, none⟩) sOw5).trans cO0w5
  have cO1w6 : w6.cell? ⟨p5, 1, none⟩ = some (.int .i64 (yd - yc)) := (g6.cell (p := ⟨p5, 1, none⟩) sOw5).trans cO1w5
  have hrw6 : w6.heap[w.heap.size + 1 + 1 + 1 + 1]? = some (.cells #[.int .i64 0, .int .i64 0] 25 (0, 0)) := (g6.block _ srw5).trans hrw5
  have hSw6 : w6.heap[p4]? = some (.cells #[.int .i64 (xb - xa), .int .i64 (yb - ya)] 25 (0, 0)) := (g6.block _ sSw5).trans hSw5
  clear ca0w5 ca1w5 cb0w5 cb1w5 cc0w5 cc1w5 cd0w5 cd1w5 cS0w5 cS1w5 cO0w5 cO1w5 hrw5 hSw5 saw5 sbw5 scw5 sdw5 srw5 sSw5 sOw5
  clear g6
  have Hrw6 := Lib.hid hrw6
  clear hrw6
  have HSw6 := Lib.hid hSw6
  clear hSw6
  go_wp2
  have hrw6 := Hrw6.out
  clear Hrw6
  have hSw6 := HSw6.out
  clear HSw6
  have bR : -800000000 ≤ (xb - xa) * (yd - yc) - (yb - ya) * (xd - xc) ∧ (xb - xa) * (yd - yc) - (yb - ya) * (xd - xc) ≤ 800000000 := by omega
  have bT : -800000000 ≤ (xc - xa) * (yd - yc) - (yc - ya) * (xd - xc) ∧ (xc - xa) * (yd - yc) - (yc - ya) * (xd - xc) ≤ 800000000 := by omega
  have nR := HR.out
  clear m1 m2 m3 m4 HR
  generalize (xb - xa) * (yd - yc) - (yb - ya) * (xd - xc) = RR at *
  generalize (xc - xa) * (yd - yc) - (yc - ya) * (xd - xc) = TT at *
  have HB9 := Lib.hid (bseq (bseq (bseq (bseq (bseq HB1.out HB2.out) HB3.out) HB4.out) HB5.out) HB6.out)
  have HK9 : ∀ x : Made, x ∈ [(⟨99, w.heap.size + 1 + 1 + 1 + 1, .cells #[.int .i64 0, .int .i64 0] 25 (0, 0)⟩ : Made), ⟨98, p4, .cells #[.int .i64 (xb - xa), .int .i64 (yb - ya)] 25 (0, 0)⟩] → 21 ≤ x.key := by
    intro x hx
    simp only [List.mem_cons, List.not_mem_nil, or_false] at hx
    rcases hx with rfl | rfl <;> simp
  have HO9 : ∀ x y : Made, x ∈ [(⟨99, w.heap.size + 1 + 1 + 1 + 1, .cells #[.int .i64 0, .int .i64 0] 25 (0, 0)⟩ : Made), ⟨98, p4, .cells #[.int .i64 (xb - xa), .int .i64 (yb - ya)] 25 (0, 0)⟩] → y ∈ [(⟨99, w.heap.size + 1 + 1 + 1 + 1, .cells #[.int .i64 0, .int .i64 0] 25 (0, 0)⟩ : Made), ⟨98, p4, .cells #[.int .i64 (xb - xa), .int .i64 (yb - ya)] 25 (0, 0)⟩] → (x.key = y.key ∨ x.blk = y.blk) → x = y := by
    intro x y hx hy h
    simp only [List.mem_cons, List.not_mem_nil, or_false] at hx hy
    rcases hx with rfl | rfl <;> rcases hy with rfl | rfl
    · rfl
    · exfalso; simp at h; omega
    · exfalso; simp at h; omega
    · rfl
  have HE9 : ∀ x : Made, x ∈ [(⟨99, w.heap.size + 1 + 1 + 1 + 1, .cells #[.int .i64 0, .int .i64 0] 25 (0, 0)⟩ : Made), ⟨98, p4, .cells #[.int .i64 (xb - xa), .int .i64 (yb - ya)] 25 (0, 0)⟩] → ((((w.alloc (.cells #[.int .i64 xa, .int .i64 ya] 25)).alloc (.cells #[.int .i64 xb, .int .i64 yb] 25)).alloc (.cells #[.int .i64 xc, .int .i64 yc] 25)).alloc (.cells #[.int .i64 xd, .int .i64 yd] 25)).heap.size ≤ x.blk ∧ x.blk < w6.heap.size ∧ w6.heap[x.blk]? = some x.obj := by
    intro x hx
    simp only [List.mem_cons, List.not_mem_nil, or_false] at hx
    rcases hx with rfl | rfl
    · exact ⟨by simp, srw6, hrw6⟩
    · exact ⟨by simp; omega, sSw6, hSw6⟩
  clear hrw6 hSw6 ca0w6 ca1w6 cb0w6 cb1w6 cc0w6 cc1w6 cd0w6 cd1w6 cS0w6 cS1w6 cO0w6 cO1w6
  have px := mulB (xb - xa) TT 20000 800000000 (by omega) (by omega) (by omega) (by omega)
  have rx := qh_bd ((xb - xa) * TT) RR (by omega) (by omega) nR
  have py := mulB (yb - ya) TT 20000 800000000 (by omega) (by omega) (by omega) (by omega)
  have ry := qh_bd ((yb - ya) * TT) RR (by omega) (by omega) nR
  have E2x : IntKind.i64.wrap (xa + qhI ((xb - xa) * TT) RR) = xa + qhI ((xb - xa) * TT) RR := IntWalk.i64_in _ (by omega)
  have E1x : IntKind.i64.wrap ((xb - xa) * TT) = (xb - xa) * TT := IntWalk.i64_in _ (by omega)
  have E2y : IntKind.i64.wrap (ya + qhI ((yb - ya) * TT) RR) = ya + qhI ((yb - ya) * TT) RR := IntWalk.i64_in _ (by omega)
  have E1y : IntKind.i64.wrap ((yb - ya) * TT) = (yb - ya) * TT := IntWalk.i64_in _ (by omega)
  refine wp_region_plan_env ((((w.alloc (.cells #[.int .i64 xa, .int .i64 ya] 25)).alloc (.cells #[.int .i64 xb, .int .i64 yb] 25)).alloc (.cells #[.int .i64 xc, .int .i64 yc] 25)).alloc (.cells #[.int .i64 xd, .int .i64 yd] 25)) [⟨99, w.heap.size + 1 + 1 + 1 + 1, .cells #[.int .i64 0, .int .i64 0] 25 (0, 0)⟩, ⟨98, p4, .cells #[.int .i64 (xb - xa), .int .i64 (yb - ya)] 25 (0, 0)⟩] [.val 0 [] (.pointer (some ⟨w.heap.size, 0, none⟩)), .val 1 [] (.int .i64 (xa)), .val 2 [] (.pointer (some ⟨p4, 0, none⟩)), .val 3 [98] (.int .i64 (xb - xa)), .val 4 [] (.int .i64 (TT)), .val 5 [] (.int .i64 ((xb - xa) * TT)), .val 6 [] (.int .i64 (RR)), .val 7 [] (.int .i64 (qhI ((xb - xa) * TT) RR)), .val 8 [] (.int .i64 (xa + qhI ((xb - xa) * TT) RR)), .val 9 [] (.pointer (some ⟨w.heap.size, 1, none⟩)), .val 10 [] (.int .i64 (ya)), .val 11 [] (.pointer (some ⟨p4, 1, none⟩)), .val 12 [98] (.int .i64 (yb - ya)), .val 13 [] (.int .i64 (TT)), .val 14 [] (.int .i64 ((yb - ya) * TT)), .val 15 [] (.int .i64 (RR)), .val 16 [] (.int .i64 (qhI ((yb - ya) * TT) RR)), .val 17 [] (.int .i64 (ya + qhI ((yb - ya) * TT) RR)), .val 18 [] (.agg #[.int .i64 (xa + qhI ((xb - xa) * TT) RR), .int .i64 (ya + qhI ((yb - ya) * TT) RR)]), .put 19 99 (.cells #[.int .i64 (xa + qhI ((xb - xa) * TT) RR), .int .i64 (ya + qhI ((yb - ya) * TT) RR)] 25 (0, 0)), .val 20 [] (.int .i64 0)] (by kernel_rfl) (by kernel_rfl) rfl HK9 HO9 HB9.out HE9 ?_
  refine plan_val (by kernel_rfl) (by kernel_rfl) (by kernel_rfl) (by go_simp) (fun w1 hw1 => ?_) ?_
  · obtain ⟨hc, hf⟩ := bcell hw1; clear hw1; go_simp; (try with_reducible rfl)
  (try simp only [Act.put, List.setIfInBounds_toArray, List.set_cons_zero, List.set_cons_succ])
  refine plan_val (by kernel_rfl) (by kernel_rfl) (by kernel_rfl) (by go_simp) (fun w1 hw1 => ?_) ?_
  · obtain ⟨hc, hf⟩ := bcell hw1; clear hw1; go_simp; (try with_reducible rfl)
  (try simp only [Act.put, List.setIfInBounds_toArray, List.set_cons_zero, List.set_cons_succ])
  refine plan_val (by kernel_rfl) (by kernel_rfl) (by kernel_rfl) (by go_simp) (fun w1 hw1 => ?_) ?_
  · obtain ⟨hc, hf⟩ := bcell hw1; clear hw1; go_simp; (try with_reducible rfl)
  (try simp only [Act.put, List.setIfInBounds_toArray, List.set_cons_zero, List.set_cons_succ])
  refine plan_valu [98] (by kernel_rfl) (by kernel_rfl) (by kernel_rfl) (by kernel_rfl) (by go_simp) (fun w1 hC => ?_) ?_
  · obtain ⟨y1, y2, y3⟩ := hC.2 ⟨98, p4, _⟩ ⟨List.mem_cons_of_mem _ (List.mem_cons_self ..), rfl⟩; obtain ⟨cc0, _, cc1, _⟩ := cells2_of y3; clear hC; go_simp; (try with_reducible rfl)
  (try simp only [Act.put, List.setIfInBounds_toArray, List.set_cons_zero, List.set_cons_succ])
  refine plan_val (by kernel_rfl) (by kernel_rfl) (by kernel_rfl) (by go_simp) (fun w1 hw1 => ?_) ?_
  · obtain ⟨hc, hf⟩ := bcell hw1; clear hw1; go_simp; (try with_reducible rfl)
  (try simp only [Act.put, List.setIfInBounds_toArray, List.set_cons_zero, List.set_cons_succ])
  refine plan_val (by kernel_rfl) (by kernel_rfl) (by kernel_rfl) (by go_simp) (fun w1 hw1 => ?_) ?_
  · obtain ⟨hc, hf⟩ := bcell hw1; clear hw1; go_simp; (try with_reducible rfl)
  (try simp only [Act.put, List.setIfInBounds_toArray, List.set_cons_zero, List.set_cons_succ])
  refine plan_val (by kernel_rfl) (by kernel_rfl) (by kernel_rfl) (by go_simp) (fun w1 hw1 => ?_) ?_
  · obtain ⟨hc, hf⟩ := bcell hw1; clear hw1; go_simp; (try with_reducible rfl)
  (try simp only [Act.put, List.setIfInBounds_toArray, List.set_cons_zero, List.set_cons_succ])
  refine plan_call [] 59 #[.int .i64 ((xb - xa) * TT), .int .i64 (RR)] (by kernel_rfl) (by kernel_rfl) (by kernel_rfl) (by kernel_rfl) (by go_simp) (fun w1 hw1 => ?_) (fun w1 hC => ?_) ?_
  · clear hw1; go_simp; (try with_reducible rfl)
  · exact (quot_impl _ _ _ (by omega) (by omega) (by omega)).mono (fun _ _ h => ⟨h.1, h.2 ▸ Below.refl _ _⟩)
  (try simp only [Act.put, List.setIfInBounds_toArray, List.set_cons_zero, List.set_cons_succ])
  refine plan_val (by kernel_rfl) (by kernel_rfl) (by kernel_rfl) (by go_simp) (fun w1 hw1 => ?_) ?_
  · obtain ⟨hc, hf⟩ := bcell hw1; clear hw1; go_simp; (try with_reducible rfl)
  (try simp only [Act.put, List.setIfInBounds_toArray, List.set_cons_zero, List.set_cons_succ])
  refine plan_val (by kernel_rfl) (by kernel_rfl) (by kernel_rfl) (by go_simp) (fun w1 hw1 => ?_) ?_
  · obtain ⟨hc, hf⟩ := bcell hw1; clear hw1; go_simp; (try with_reducible rfl)
  (try simp only [Act.put, List.setIfInBounds_toArray, List.set_cons_zero, List.set_cons_succ])
  refine plan_val (by kernel_rfl) (by kernel_rfl) (by kernel_rfl) (by go_simp) (fun w1 hw1 => ?_) ?_
  · obtain ⟨hc, hf⟩ := bcell hw1; clear hw1; go_simp; (try with_reducible rfl)
  (try simp only [Act.put, List.setIfInBounds_toArray, List.set_cons_zero, List.set_cons_succ])
  refine plan_val (by kernel_rfl) (by kernel_rfl) (by kernel_rfl) (by go_simp) (fun w1 hw1 => ?_) ?_
  · obtain ⟨hc, hf⟩ := bcell hw1; clear hw1; go_simp; (try with_reducible rfl)
  (try simp only [Act.put, List.setIfInBounds_toArray, List.set_cons_zero, List.set_cons_succ])
  refine plan_valu [98] (by kernel_rfl) (by kernel_rfl) (by kernel_rfl) (by kernel_rfl) (by go_simp) (fun w1 hC => ?_) ?_
  · obtain ⟨y1, y2, y3⟩ := hC.2 ⟨98, p4, _⟩ ⟨List.mem_cons_of_mem _ (List.mem_cons_self ..), rfl⟩; obtain ⟨cc0, _, cc1, _⟩ := cells2_of y3; clear hC; go_simp; (try with_reducible rfl)
  (try simp only [Act.put, List.setIfInBounds_toArray, List.set_cons_zero, List.set_cons_succ])
  refine plan_val (by kernel_rfl) (by kernel_rfl) (by kernel_rfl) (by go_simp) (fun w1 hw1 => ?_) ?_
  · obtain ⟨hc, hf⟩ := bcell hw1; clear hw1; go_simp; (try with_reducible rfl)
  (try simp only [Act.put, List.setIfInBounds_toArray, List.set_cons_zero, List.set_cons_succ])
  refine plan_val (by kernel_rfl) (by kernel_rfl) (by kernel_rfl) (by go_simp) (fun w1 hw1 => ?_) ?_
  · obtain ⟨hc, hf⟩ := bcell hw1; clear hw1; go_simp; (try with_reducible rfl)
  (try simp only [Act.put, List.setIfInBounds_toArray, List.set_cons_zero, List.set_cons_succ])
  refine plan_val (by kernel_rfl) (by kernel_rfl) (by kernel_rfl) (by go_simp) (fun w1 hw1 => ?_) ?_
  · obtain ⟨hc, hf⟩ := bcell hw1; clear hw1; go_simp; (try with_reducible rfl)
  (try simp only [Act.put, List.setIfInBounds_toArray, List.set_cons_zero, List.set_cons_succ])
  refine plan_call [] 59 #[.int .i64 ((yb - ya) * TT), .int .i64 (RR)] (by kernel_rfl) (by kernel_rfl) (by kernel_rfl) (by kernel_rfl) (by go_simp) (fun w1 hw1 => ?_) (fun w1 hC => ?_) ?_
  · clear hw1; go_simp; (try with_reducible rfl)
  · exact (quot_impl _ _ _ (by omega) (by omega) (by omega)).mono (fun _ _ h => ⟨h.1, h.2 ▸ Below.refl _ _⟩)
  (try simp only [Act.put, List.setIfInBounds_toArray, List.set_cons_zero, List.set_cons_succ])
  refine plan_val (by kernel_rfl) (by kernel_rfl) (by kernel_rfl) (by go_simp) (fun w1 hw1 => ?_) ?_
  · obtain ⟨hc, hf⟩ := bcell hw1; clear hw1; go_simp; (try with_reducible rfl)
  (try simp only [Act.put, List.setIfInBounds_toArray, List.set_cons_zero, List.set_cons_succ])
  refine plan_val (by kernel_rfl) (by kernel_rfl) (by kernel_rfl) (by go_simp) (fun w1 hw1 => ?_) ?_
  · obtain ⟨hc, hf⟩ := bcell hw1; clear hw1; go_simp; (try with_reducible rfl)
  (try simp only [Act.put, List.setIfInBounds_toArray, List.set_cons_zero, List.set_cons_succ])
  refine plan_put (p := w.heap.size + 1 + 1 + 1 + 1) (by kernel_rfl) (by kernel_rfl) (by kernel_rfl) (by kernel_rfl) (by go_simp) (List.mem_cons_self ..) (fun w1 hg hh => ?_) ?_
  · obtain ⟨c0, f0, c1, f1⟩ := cells2_of hh
    refine ⟨_, ?_, stored2 hh⟩
    clear hh hg; go_simp; (try with_reducible rfl)
  (try simp only [Act.put])
  refine plan_val (by kernel_rfl) (by kernel_rfl) (by kernel_rfl) (by go_simp) (fun w1 hw1 => ?_) ?_
  · obtain ⟨hc, hf⟩ := bcell hw1; clear hw1; go_simp; (try with_reducible rfl)
  (try simp only [Act.put, List.setIfInBounds_toArray, List.set_cons_zero, List.set_cons_succ])
  refine plan_done (by kernel_rfl) (fun w7 hC => ?_)
  clear E1x E2x E1y E2y
  obtain ⟨y1, y2, y3⟩ := hC.2 ⟨99, w.heap.size + 1 + 1 + 1 + 1, _⟩ (Or.inr ⟨⟨99, _, _⟩, List.mem_cons_self .., rfl, rfl⟩)
  obtain ⟨e0, f0, e1, f1⟩ := cells2_of y3
  have HB7 := Lib.hid hC.1
  clear hC y1 y2 y3 f0 f1
  go_wp2
  exact bodyPost_ret (v := .tuple #[.agg #[.int .i64 (xa + qhI ((xb - xa) * TT) RR), .int .i64 (ya + qhI ((yb - ya) * TT) RR)], .int .i64 0]) (by simp [results, Try.results25, go_sem, e0, e1]) rfl ⟨by rw [HX.out, HY.out], bseq (four_allocs _ _ _ _) HB7.out⟩
end Go.Proofs.Ytfaahcbdglbcjaa
