/- CrossPoint of impl. -/
import Derived.Test.YtfaahcbdglbcjaaSegGapI
import Derived.Test.YtfaahcbdglbcjaaCrossS
namespace Go.Proofs.Ytfaahcbdglbcjaa
open Go.ChangeShapes Go.WideShapes Go.ChangeAt Go.RowKit

theorem second_last (w : World) (o1 o2 : Obj) : ((w.alloc o1).alloc o2).heap[w.heap.size]? = some o1 :=
  ((one_alloc (w := w.alloc o1) o2).block _ (madeAt_alloc w o1).high).trans (madeAt_alloc w o1).here
theorem qh_cases (n d : Int) : qhI n d = if d < 0 then (2 * (-n) + (-d)) / (2 * (-d)) else (2 * n + d) / (2 * d) := rfl
theorem qh_bd (n d : Int) (h1 : -100000000000000 ≤ n ∧ n ≤ 100000000000000) (h2 : -100000000000000 ≤ d ∧ d ≤ 100000000000000) (h3 : d ≠ 0) : -1000000000000000 ≤ qhI n d ∧ qhI n d ≤ 1000000000000000 := by
  rw [qh_cases]
  split
  · exact quo_bd _ _ (by omega) (by omega) (by omega)
  · exact quo_bd _ _ (by omega) (by omega) (by omega)
theorem quot_neg0 (n d : Int) (w : World) (h1 : -100000000000000 ≤ n ∧ n ≤ 100000000000000) (h2 : -100000000000000 ≤ d ∧ d ≤ 100000000000000) (h0 : d < 0) (h : (2 * (-n) + (-d)).tmod (2 * (-d)) < 0) : Calls Try.prog 59 #[.int .i64 n, .int .i64 d] w fun e w' => e = .returned (.int .i64 ((2 * (-n) + (-d)) / (2 * (-d)))) ∧ w = w' := by
  have hf := Lib.hid (floor_of (2 * (-n) + (-d)) (2 * (-d)) (by omega))
  have hb := Lib.hid (quo_bd (2 * (-n) + (-d)) (2 * (-d)) (by omega) (by omega) (by omega))
  have e1 := Lib.hid (hf.out.1 h)
  go_enter Try.func59, Try.ntmps59
  go_wp2
  go_ret
  exact ⟨ret_int ((IntWalk.wrap64_in _ (by rw [e1.out]; have := hb.out; omega)).trans e1.out), rfl⟩
theorem quot_neg1 (n d : Int) (w : World) (h1 : -100000000000000 ≤ n ∧ n ≤ 100000000000000) (h2 : -100000000000000 ≤ d ∧ d ≤ 100000000000000) (h0 : d < 0) (h : 0 ≤ (2 * (-n) + (-d)).tmod (2 * (-d))) : Calls Try.prog 59 #[.int .i64 n, .int .i64 d] w fun e w' => e = .returned (.int .i64 ((2 * (-n) + (-d)) / (2 * (-d)))) ∧ w = w' := by
  have hf := Lib.hid (floor_of (2 * (-n) + (-d)) (2 * (-d)) (by omega))
  have hb := Lib.hid (quo_bd (2 * (-n) + (-d)) (2 * (-d)) (by omega) (by omega) (by omega))
  have e1 := Lib.hid (hf.out.2 h)
  go_enter Try.func59, Try.ntmps59
  go_wp2
  go_ret
  exact ⟨ret_int e1.out, rfl⟩
theorem quot_pos0 (n d : Int) (w : World) (h1 : -100000000000000 ≤ n ∧ n ≤ 100000000000000) (h2 : -100000000000000 ≤ d ∧ d ≤ 100000000000000) (h0 : 0 < d) (h : (2 * (n) + (d)).tmod (2 * (d)) < 0) : Calls Try.prog 59 #[.int .i64 n, .int .i64 d] w fun e w' => e = .returned (.int .i64 ((2 * (n) + (d)) / (2 * (d)))) ∧ w = w' := by
  have hf := Lib.hid (floor_of (2 * (n) + (d)) (2 * (d)) (by omega))
  have hb := Lib.hid (quo_bd (2 * (n) + (d)) (2 * (d)) (by omega) (by omega) (by omega))
  have e1 := Lib.hid (hf.out.1 h)
  go_enter Try.func59, Try.ntmps59
  go_wp2
  go_ret
  exact ⟨ret_int ((IntWalk.wrap64_in _ (by rw [e1.out]; have := hb.out; omega)).trans e1.out), rfl⟩
theorem quot_pos1 (n d : Int) (w : World) (h1 : -100000000000000 ≤ n ∧ n ≤ 100000000000000) (h2 : -100000000000000 ≤ d ∧ d ≤ 100000000000000) (h0 : 0 < d) (h : 0 ≤ (2 * (n) + (d)).tmod (2 * (d))) : Calls Try.prog 59 #[.int .i64 n, .int .i64 d] w fun e w' => e = .returned (.int .i64 ((2 * (n) + (d)) / (2 * (d)))) ∧ w = w' := by
  have hf := Lib.hid (floor_of (2 * (n) + (d)) (2 * (d)) (by omega))
  have hb := Lib.hid (quo_bd (2 * (n) + (d)) (2 * (d)) (by omega) (by omega) (by omega))
  have e1 := Lib.hid (hf.out.2 h)
  go_enter Try.func59, Try.ntmps59
  go_wp2
  go_ret
  exact ⟨ret_int e1.out, rfl⟩
theorem quot_impl (n d : Int) (w : World) (h1 : -100000000000000 ≤ n ∧ n ≤ 100000000000000) (h2 : -100000000000000 ≤ d ∧ d ≤ 100000000000000) (h3 : d ≠ 0) : Calls Try.prog 59 #[.int .i64 n, .int .i64 d] w fun e w' => e = .returned (.int .i64 (qhI n d)) ∧ w = w' := by
  rw [qh_cases]
  split
  · rename_i h0
    by_cases h : (2 * (-n) + (-d)).tmod (2 * (-d)) < 0
    · exact quot_neg0 n d w h1 h2 h0 h
    · exact quot_neg1 n d w h1 h2 h0 (by omega)
  · rename_i h0
    by_cases h : (2 * n + d).tmod (2 * d) < 0
    · exact quot_pos0 n d w h1 h2 (by omega) h
    · exact quot_pos1 n d w h1 h2 (by omega) (by omega)
end Go.Proofs.Ytfaahcbdglbcjaa
