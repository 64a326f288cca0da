/- BoundsOf of spec and of impl. -/
import Derived.Test.YtjhmpmaademdcaaPolyF4
namespace Go.Proofs.Ytjhmpmaademdcaa
open Go.ChangeShapes Go.WideShapes Go.ChangeAt Go.RowKit
set_option linter.unusedVariables false

set_option maxHeartbeats 1000000 in
theorem bndX_no (ao : Option Addr) (len cap : Nat) (zs : List P2) (w : World) (hl : len ≤ 1048576) (hp : PV w ao len zs) (hv : polyB zs = false) :
    Calls Try.prog 53 #[.slice ao len cap] w fun e w' => e = .returned (.tuple #[.agg #[.int .i64 (0), .int .i64 (0)], .agg #[.int .i64 (0), .int .i64 (0)], .int .i64 1]) ∧ Below w.heap.size w w' := by
  have HP := Lib.hid (hp.below (two_allocs (w := w) (.cells #[.int .i64 0, .int .i64 0] 30) (.cells #[.int .i64 0, .int .i64 0] 30)))
  have HV := Lib.hid hv
  have ne0 : w.heap.size ≠ w.heap.size + 1 := by omega
  clear hp hv
  go_enter Try.func53, Try.ntmps53
  go_wp2_with fail
  refine (valid_pimpl ao len cap zs _ hl HP.out).mono ?_
  rintro e w1 ⟨rfl, g1⟩
  obtain ⟨k1, q1⟩ := bcell g1
  have HW1 := Lib.hid g1
  have z0 : w.heap.size < w1.heap.size := by have := g1.size; simp at this; omega
  have z1 : w.heap.size + 1 < w1.heap.size := by have := g1.size; simp at this; omega
  have a0 : w1.cell? ⟨w.heap.size, 0, none⟩ = some (.int .i64 0) := by rw [k1 _ _ (by simp; omega)]; go_simp
  have a1 : w1.cell? ⟨w.heap.size, 1, none⟩ = some (.int .i64 0) := by rw [k1 _ _ (by simp; omega)]; go_simp
  have a2 : w1.cell? ⟨w.heap.size + 1, 0, none⟩ = some (.int .i64 0) := by rw [k1 _ _ (by simp)]; go_simp
  have a3 : w1.cell? ⟨w.heap.size + 1, 1, none⟩ = some (.int .i64 0) := by rw [k1 _ _ (by simp)]; go_simp
  clear g1
  rw [HV.out]
  go_wp2
  exact bodyPost_ret (v := .tuple #[.agg #[.int .i64 (0), .int .i64 (0)], .agg #[.int .i64 (0), .int .i64 (0)], .int .i64 1]) (by simp [results, Try.results53, go_sem, a0, a1, a2, a3]) rfl ⟨rfl, ((((bseq (two_allocs _ _) HW1.out).setCell (Nat.le_refl _) _).setCell (Nat.le_refl _) _).setCell (by show w.heap.size ≤ w.heap.size + 1; omega) _).setCell (by show w.heap.size ≤ w.heap.size + 1; omega) _⟩
set_option maxRecDepth 100000 in
set_option maxHeartbeats 4000000 in
theorem bndX_yes (ao : Option Addr) (len cap : Nat) (zs : List P2) (w : World) (hl : len ≤ 1048576) (hp : PV w ao len zs) (hv : polyB zs = true) :
    Calls Try.prog 53 #[.slice ao len cap] w fun e w' => e = .returned (.tuple #[.agg #[.int .i64 (minF (pX zs) zs.length), .int .i64 (minF (pY zs) zs.length)], .agg #[.int .i64 (maxF (pX zs) zs.length), .int .i64 (maxF (pY zs) zs.length)], .int .i64 0]) ∧ Below w.heap.size w w' := by
  obtain ⟨z3, z4, hok, _, _, _⟩ := poly_ok hv
  have hz := hp.1
  obtain ⟨b, hao, hpp⟩ := hp.at (by omega)
  subst hao
  have HQ := Lib.hid hp
  have HP := Lib.hid hpp
  have HT := Lib.hid hv
  have HV := Lib.hid hok
  have HZ := Lib.hid hz
  have l3 : 3 ≤ len := by omega
  have l4 : len ≤ 24 := by omega
  have hbw := hpp.1
  clear hp hpp hv hok hz
  have HQ0 := Lib.hid (HQ.out.below (two_allocs (w := w) (.cells #[.int .i64 0, .int .i64 0] 30) (.cells #[.int .i64 0, .int .i64 0] 30)))
  have HP0 := Lib.hid (HP.out.below (two_allocs (w := w) (.cells #[.int .i64 0, .int .i64 0] 30) (.cells #[.int .i64 0, .int .i64 0] 30)) hbw)
  obtain ⟨m0, m1⟩ := two_new w (.cells #[.int .i64 0, .int .i64 0] 30) (.cells #[.int .i64 0, .int .i64 0] 30)
  have M := Lib.hid (And.intro m0 m1)
  clear m0 m1
  go_enter Try.func53, Try.ntmps53
  go_wp2_with fail
  refine (valid_pimpl _ len cap zs _ hl HQ0.out).mono ?_
  rintro e w1 ⟨rfl, g1⟩
  have hb1 : b < w.heap.size + 1 + 1 := by omega
  have HP1 := Lib.hid (HP0.out.below g1 (by simpa using hb1))
  have HW1 := Lib.hid g1
  clear g1
  rw [HT.out]
  go_wp2_with fail
  refine (bounds_impl b len cap zs _ HZ.out (by omega) (by omega) HP1.out).mono ?_
  rintro e w2 ⟨rfl, g2⟩
  have HW2 := Lib.hid (bseq HW1.out g2)
  have hz := HW2.out.size
  simp at hz
  have M2 : Hid (w2.heap[w.heap.size]? = some (.cells #[.int .i64 0, .int .i64 0] 30) ∧ w2.heap[w.heap.size + 1]? = some (.cells #[.int .i64 0, .int .i64 0] 30)) := Lib.hid ⟨(HW2.out.block _ (by simp; omega)).trans M.out.1, (HW2.out.block _ (by simp)).trans M.out.2⟩
  have HBB : Hid (Below w.heap.size w w2) := Lib.hid (bseq (two_allocs _ _) HW2.out)
  clear g2
  obtain ⟨n0, n1⟩ := two_new w2 (.cells #[.int .i64 (minF (pX zs) zs.length), .int .i64 (minF (pY zs) zs.length)] 30) (.cells #[.int .i64 (maxF (pX zs) zs.length), .int .i64 (maxF (pY zs) zs.length)] 30)
  have M3 := Lib.hid (And.intro n0 n1)
  clear n0 n1
  go_wp2
  refine wp_region_plan_env w [⟨99, w.heap.size, .cells #[.int .i64 (0), .int .i64 (0)] 30 (0, 0)⟩, ⟨98, w.heap.size + 1, .cells #[.int .i64 (0), .int .i64 (0)] 30 (0, 0)⟩, ⟨97, w2.heap.size, .cells #[.int .i64 (minF (pX zs) zs.length), .int .i64 (minF (pY zs) zs.length)] 30 (0, 0)⟩, ⟨96, w2.heap.size + 1, .cells #[.int .i64 (maxF (pX zs) zs.length), .int .i64 (maxF (pY zs) zs.length)] 30 (0, 0)⟩] [.val 0 [97] (.agg #[.int .i64 (minF (pX zs) zs.length), .int .i64 (minF (pY zs) zs.length)]), .val 1 [96] (.agg #[.int .i64 (maxF (pX zs) zs.length), .int .i64 (maxF (pY zs) zs.length)]), .put 2 99 (.cells #[.int .i64 (minF (pX zs) zs.length), .int .i64 (minF (pY zs) zs.length)] 30 (0, 0)), .put 3 98 (.cells #[.int .i64 (maxF (pX zs) zs.length), .int .i64 (maxF (pY zs) zs.length)] 30 (0, 0)), .val 4 [] (.int .i64 0)] (by kernel_rfl) (by kernel_rfl) rfl (by simp) (es_one _ (by simp <;> omega)) (bseq HBB.out (two_allocs _ _)) (by simp only [List.mem_cons, List.not_mem_nil, or_false]; rintro x (rfl | rfl | rfl | rfl); exact ⟨Nat.le_refl _, by simp; omega, ((two_allocs _ _).block _ (by show w.heap.size < w2.heap.size; omega)).trans M2.out.1⟩; exact ⟨Nat.le_succ _, by simp; omega, ((two_allocs _ _).block _ (by show w.heap.size + 1 < w2.heap.size; omega)).trans M2.out.2⟩; exact ⟨by show w.heap.size ≤ w2.heap.size; omega, by simp; omega, M3.out.1⟩; exact ⟨by show w.heap.size ≤ w2.heap.size + 1; omega, by simp, M3.out.2⟩) ?_
  refine plan_valu [97] (by kernel_rfl) (by kernel_rfl) (by kernel_rfl) (by kernel_rfl) (by go_simp) (fun w1 hC => ?_) ?_
  · obtain ⟨_, _, y3⟩ := hC.2 ⟨97, _, _⟩ ⟨List.mem_cons_of_mem _ (List.mem_cons_of_mem _ (List.mem_cons_self ..)), rfl⟩; obtain ⟨cc0, _, cc1, _⟩ := cells2_of y3; clear hC; go_simp; (try with_reducible rfl)
  (try simp only [Act.put, List.setIfInBounds_toArray, List.set_cons_zero, List.set_cons_succ])
  refine plan_valu [96] (by kernel_rfl) (by kernel_rfl) (by kernel_rfl) (by kernel_rfl) (by go_simp) (fun w1 hC => ?_) ?_
  · obtain ⟨_, _, y3⟩ := hC.2 ⟨96, _, _⟩ ⟨List.mem_cons_of_mem _ (List.mem_cons_of_mem _ (List.mem_cons_of_mem _ (List.mem_cons_self ..))), rfl⟩; obtain ⟨cc0, _, cc1, _⟩ := cells2_of y3; clear hC; go_simp; (try with_reducible rfl)
  (try simp only [Act.put, List.setIfInBounds_toArray, List.set_cons_zero, List.set_cons_succ])
  refine plan_put (p := w.heap.size) (by kernel_rfl) (by kernel_rfl) (by kernel_rfl) (by kernel_rfl) (by go_simp) (List.mem_cons_self ..) (fun w1 hg hh => ?_) ?_
  · obtain ⟨c0, f0, c1, f1⟩ := cells2_of hh
    refine ⟨_, ?_, stored2 hh⟩
    clear hh hg; go_simp; (try with_reducible rfl)
  (try simp only [Act.put])
  refine plan_put (p := w.heap.size + 1) (by kernel_rfl) (by kernel_rfl) (by kernel_rfl) (by kernel_rfl) (by go_simp) (Or.inl ⟨List.mem_cons_of_mem _ (List.mem_cons_self ..), (fun h => by cases h)⟩) (fun w1 hg hh => ?_) ?_
  · obtain ⟨c0, f0, c1, f1⟩ := cells2_of hh
    refine ⟨_, ?_, stored2 hh⟩
    clear hh hg; go_simp; (try with_reducible rfl)
  (try simp only [Act.put])
  refine plan_val (by kernel_rfl) (by kernel_rfl) (by kernel_rfl) (by go_simp) (fun w1 hw1 => ?_) ?_
  · obtain ⟨hc, hf⟩ := bcell hw1; clear hw1; go_simp; (try with_reducible rfl)
  (try simp only [Act.put, List.setIfInBounds_toArray, List.set_cons_zero, List.set_cons_succ])
  refine plan_done (by kernel_rfl) (fun w3 hC => ?_)
  obtain ⟨_, s0, g0⟩ := hC.2 ⟨99, w.heap.size, .cells #[.int .i64 (minF (pX zs) zs.length), .int .i64 (minF (pY zs) zs.length)] 30 (0, 0)⟩ (Or.inl ⟨Or.inr ⟨⟨99, w.heap.size, _⟩, List.mem_cons_self .., rfl, rfl⟩, (fun h => by cases h)⟩)
  obtain ⟨_, s1, g1⟩ := hC.2 ⟨98, w.heap.size + 1, .cells #[.int .i64 (maxF (pX zs) zs.length), .int .i64 (maxF (pY zs) zs.length)] 30 (0, 0)⟩ (Or.inr ⟨⟨98, w.heap.size + 1, _⟩, Or.inl ⟨List.mem_cons_of_mem _ (List.mem_cons_self ..), (fun h => by cases h)⟩, rfl, rfl⟩)
  obtain ⟨q0, _, q1, _⟩ := cells2_of g0
  obtain ⟨q2, _, q3, _⟩ := cells2_of g1
  have HF2 := Lib.hid hC.1
  clear hC g0 g1
  go_wp2
  exact bodyPost_ret (v := .tuple #[.agg #[.int .i64 (minF (pX zs) zs.length), .int .i64 (minF (pY zs) zs.length)], .agg #[.int .i64 (maxF (pX zs) zs.length), .int .i64 (maxF (pY zs) zs.length)], .int .i64 0]) (by simp [results, Try.results53, go_sem, q0, q1, q2, q3]) rfl ⟨rfl, HF2.out⟩
end Go.Proofs.Ytjhmpmaademdcaa
