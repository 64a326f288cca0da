/- Inverse turns and turns one after another, of impl and of spec. -/
import Derived.Test.YtfaahcbdglbcjaaTurnExp
namespace Go.Proofs.Ytfaahcbdglbcjaa
open Go.ChangeShapes Go.WideShapes Go.ChangeAt Go.RowKit

theorem l02Inv (t : Int) (w : World) (h0 : 0 ≤ t) (h1 : t ≤ 7) : Calls Try.prog 77 #[.int .i64 t] w fun e w' => e = .returned (.int .i64 (invT t)) ∧ w = w' := by
  rw [inv_eq t h0 h1]
  by_cases h : 4 ≤ t
  · rw [if_pos h]
    go_enter Try.func77, Try.ntmps77
    go_wp2
    go_ret
    exact ⟨rfl, rfl⟩
  · rw [if_neg h]
    go_enter Try.func77, Try.ntmps77
    go_wp2
    go_ret
    exact ⟨rfl, rfl⟩
theorem invS_no (t : Int) (w : World) (hv : inI t 0 7 = false) : Calls Try.prog 41 #[.int .i64 t] w fun e w' => e = .returned (.tuple #[.int .i64 (0), .int .i64 2]) ∧ Below w.heap.size w w' := by
  go_enter Try.func41, Try.ntmps41
  go_wp2_with ((with_reducible refine (isTurnS _ _).mono ?_); rintro e w' ⟨rfl, rfl⟩)
  go_ret2
  exact ⟨rfl, Below.refl _ _⟩
theorem invI_no (t : Int) (w : World) (hv : inI t 0 7 = false) : Calls Try.prog 42 #[.int .i64 t] w fun e w' => e = .returned (.tuple #[.int .i64 (0), .int .i64 2]) ∧ Below w.heap.size w w' := by
  go_enter Try.func42, Try.ntmps42
  go_wp2_with ((with_reducible refine (isTurnI _ _).mono ?_); rintro e w' ⟨rfl, rfl⟩)
  go_ret2
  exact ⟨rfl, Below.refl _ _⟩
theorem invS_yes (t : Int) (w : World) (hv : inI t 0 7 = true) : Calls Try.prog 41 #[.int .i64 t] w fun e w' => e = .returned (.tuple #[.int .i64 (invT t), .int .i64 0]) ∧ Below w.heap.size w w' := by
  have b0 := Lib.hid (in_bd hv)
  go_enter Try.func41, Try.ntmps41
  go_wp2_with (first | ((with_reducible refine (isTurnS _ _).mono ?_); rintro e w' ⟨rfl, rfl⟩) | ((with_reducible refine (l02Inv _ _ b0.out.1 b0.out.2).mono ?_); rintro e w' ⟨rfl, rfl⟩))
  go_ret2
  exact ⟨rfl, Below.refl _ _⟩
set_option maxHeartbeats 1000000 in
theorem clo_inv (t xa ya xm ym : Int) (pa pm : Nat) (w : World) (h0 : 0 ≤ t) (h1 : t ≤ 7) (hx : -20000 ≤ xa ∧ xa ≤ 20000) (hy : -20000 ≤ ya ∧ ya ≤ 20000) (la : pa < w.heap.size) (lm : pm < w.heap.size) (a0 : w.cell? ⟨pa, 0, none⟩ = some (.int .i64 xa)) (a1 : w.cell? ⟨pa, 1, none⟩ = some (.int .i64 ya)) (m0 : w.cell? ⟨pm, 0, none⟩ = some (.int .i64 xm)) (m1 : w.cell? ⟨pm, 1, none⟩ = some (.int .i64 ym)) :
    Calls Try.prog 79 #[.int .i64 t, .pointer (some ⟨pa, 0, none⟩), .pointer (some ⟨pm, 0, none⟩)] w fun e w' => e = .returned (.bool (decide (tuX t xa ya = xm) && decide (tuY t xa ya = ym))) ∧ Below w.heap.size w w' := by
  go_enter Try.func79, Try.ntmps79
  go_wp2
  refine wp_region_below (by kernel_rfl) (by kernel_rfl) ?_
  (refine wq_val (by go_simp) ?_; apply Exists.intro; refine ⟨fun w1 hw1 => ?_, ?_⟩; (obtain ⟨hc, hf⟩ := bcell hw1; clear hw1; go_simp; (try with_reducible rfl)); (try simp only [Act.put, List.setIfInBounds_toArray, List.set_cons_zero, List.set_cons_succ]))
  (refine wq_val (by go_simp) ?_; apply Exists.intro; refine ⟨fun w1 hw1 => ?_, ?_⟩; (obtain ⟨hc, hf⟩ := bcell hw1; clear hw1; go_simp; (try with_reducible rfl)); (try simp only [Act.put, List.setIfInBounds_toArray, List.set_cons_zero, List.set_cons_succ]))
  (refine wq_call 76 (by go_simp) ?_; apply Exists.intro; refine ⟨fun w1 hw1 => ?_, ?_⟩; (clear hw1; go_simp; (try with_reducible rfl)); apply Exists.intro; refine ⟨fun w1 hw1 => ?_, ?_⟩; (exact calls_below hw1 (turned_impl _ _ _ _ hx hy h0 h1)); (try simp only [Act.put, List.setIfInBounds_toArray, List.set_cons_zero, List.set_cons_succ]))
  (refine wq_val (by go_simp) ?_; apply Exists.intro; refine ⟨fun w1 hw1 => ?_, ?_⟩; (obtain ⟨hc, hf⟩ := bcell hw1; clear hw1; go_simp; (try with_reducible rfl)); (try simp only [Act.put, List.setIfInBounds_toArray, List.set_cons_zero, List.set_cons_succ]))
  (refine wq_val (by go_simp) ?_; apply Exists.intro; refine ⟨fun w1 hw1 => ?_, ?_⟩; (clear hw1; go_simp; exact eql2 _ _ _); (try simp only [Act.put, List.setIfInBounds_toArray, List.set_cons_zero, List.set_cons_succ]))
  (refine wq_val (by go_simp) ?_; apply Exists.intro; refine ⟨fun w1 hw1 => ?_, ?_⟩; (obtain ⟨hc, hf⟩ := bcell hw1; clear hw1; go_simp; (try with_reducible rfl)); (try simp only [Act.put, List.setIfInBounds_toArray, List.set_cons_zero, List.set_cons_succ]))
  refine wq_nil ?_
  intro w1 hb1
  have HB1 := Lib.hid hb1
  clear hb1
  go_wp2
  go_ret
  exact ⟨rfl, HB1.out⟩
set_option maxHeartbeats 1000000 in
theorem clo_cmp (t xa ya xm ym : Int) (pa pm : Nat) (w : World) (h0 : 0 ≤ t) (h1 : t ≤ 7) (hx : -20000 ≤ xa ∧ xa ≤ 20000) (hy : -20000 ≤ ya ∧ ya ≤ 20000) (la : pa < w.heap.size) (lm : pm < w.heap.size) (a0 : w.cell? ⟨pa, 0, none⟩ = some (.int .i64 xa)) (a1 : w.cell? ⟨pa, 1, none⟩ = some (.int .i64 ya)) (m0 : w.cell? ⟨pm, 0, none⟩ = some (.int .i64 xm)) (m1 : w.cell? ⟨pm, 1, none⟩ = some (.int .i64 ym)) :
    Calls Try.prog 81 #[.int .i64 t, .pointer (some ⟨pa, 0, none⟩), .pointer (some ⟨pm, 0, none⟩)] w fun e w' => e = .returned (.bool (decide (tuX t xa ya = xm) && decide (tuY t xa ya = ym))) ∧ Below w.heap.size w w' := by
  go_enter Try.func81, Try.ntmps81
  go_wp2
  refine wp_region_below (by kernel_rfl) (by kernel_rfl) ?_
  (refine wq_val (by go_simp) ?_; apply Exists.intro; refine ⟨fun w1 hw1 => ?_, ?_⟩; (obtain ⟨hc, hf⟩ := bcell hw1; clear hw1; go_simp; (try with_reducible rfl)); (try simp only [Act.put, List.setIfInBounds_toArray, List.set_cons_zero, List.set_cons_succ]))
  (refine wq_val (by go_simp) ?_; apply Exists.intro; refine ⟨fun w1 hw1 => ?_, ?_⟩; (obtain ⟨hc, hf⟩ := bcell hw1; clear hw1; go_simp; (try with_reducible rfl)); (try simp only [Act.put, List.setIfInBounds_toArray, List.set_cons_zero, List.set_cons_succ]))
  (refine wq_call 76 (by go_simp) ?_; apply Exists.intro; refine ⟨fun w1 hw1 => ?_, ?_⟩; (clear hw1; go_simp; (try with_reducible rfl)); apply Exists.intro; refine ⟨fun w1 hw1 => ?_, ?_⟩; (exact calls_below hw1 (turned_impl _ _ _ _ hx hy h0 h1)); (try simp only [Act.put, List.setIfInBounds_toArray, List.set_cons_zero, List.set_cons_succ]))
  (refine wq_val (by go_simp) ?_; apply Exists.intro; refine ⟨fun w1 hw1 => ?_, ?_⟩; (obtain ⟨hc, hf⟩ := bcell hw1; clear hw1; go_simp; (try with_reducible rfl)); (try simp only [Act.put, List.setIfInBounds_toArray, List.set_cons_zero, List.set_cons_succ]))
  (refine wq_val (by go_simp) ?_; apply Exists.intro; refine ⟨fun w1 hw1 => ?_, ?_⟩; (clear hw1; go_simp; exact eql2 _ _ _); (try simp only [Act.put, List.setIfInBounds_toArray, List.set_cons_zero, List.set_cons_succ]))
  (refine wq_val (by go_simp) ?_; apply Exists.intro; refine ⟨fun w1 hw1 => ?_, ?_⟩; (obtain ⟨hc, hf⟩ := bcell hw1; clear hw1; go_simp; (try with_reducible rfl)); (try simp only [Act.put, List.setIfInBounds_toArray, List.set_cons_zero, List.set_cons_succ]))
  refine wq_nil ?_
  intro w1 hb1
  have HB1 := Lib.hid hb1
  clear hb1
  go_wp2
  go_ret
  exact ⟨rfl, HB1.out⟩
set_option maxHeartbeats 1000000 in
theorem where_inv (xa ya xm ym : Int) (pa pm : Nat) (w : World) (hx : -20000 ≤ xa ∧ xa ≤ 20000) (hy : -20000 ≤ ya ∧ ya ≤ 20000) (la : pa < w.heap.size) (lm : pm < w.heap.size) (a0 : w.cell? ⟨pa, 0, none⟩ = some (.int .i64 xa)) (a1 : w.cell? ⟨pa, 1, none⟩ = some (.int .i64 ya)) (m0 : w.cell? ⟨pm, 0, none⟩ = some (.int .i64 xm)) (m1 : w.cell? ⟨pm, 1, none⟩ = some (.int .i64 ym)) :
    Calls Try.prog 78 #[.func (.func 79) #[] #[.pointer (some ⟨pa, 0, none⟩), .pointer (some ⟨pm, 0, none⟩)]] w fun e w' => e = .returned (.int .i64 (firstT (fun t => decide (tuX t xa ya = xm) && decide (tuY t xa ya = ym)) 8 0)) ∧ Below w.heap.size w w' := by
  have HC := Lib.hid (fun (t : Int) (w1 : World) (h0 : 0 ≤ t) (h1 : t ≤ 7) (hb : Below w.heap.size w w1) => clo_inv t xa ya xm ym pa pm w1 h0 h1 hx hy (Nat.lt_of_lt_of_le la hb.size) (Nat.lt_of_lt_of_le lm hb.size) ((hb.cell (p := ⟨pa, 0, none⟩) la).trans a0) ((hb.cell (p := ⟨pa, 1, none⟩) la).trans a1) ((hb.cell (p := ⟨pm, 0, none⟩) lm).trans m0) ((hb.cell (p := ⟨pm, 1, none⟩) lm).trans m1))
  clear a0 a1 m0 m1
  generalize hg : (fun t => decide (tuX t xa ya = xm) && decide (tuY t xa ya = ym)) = g
  have HC2 : Hid (∀ (t : Int) (w1 : World), 0 ≤ t → t ≤ 7 → Below w.heap.size w w1 → Calls Try.prog 79 #[.int .i64 t, .pointer (some ⟨pa, 0, none⟩), .pointer (some ⟨pm, 0, none⟩)] w1 fun e w' => e = .returned (.bool (g t)) ∧ Below w1.heap.size w1 w') := Lib.hid (by subst hg; exact HC.out)
  clear HC hg
  go_enter Try.func78, Try.ntmps78
  go_wp2
  go_loopw [4] (fun i wr => ∃ k : Nat, k ≤ 8 ∧ i = .int .i64 k ∧ Hid (firstT g (8 - k) k = firstT g 8 0) ∧ Hid (Below w.heap.size w wr)) (fun i _ => 8 - (intOf i).toNat)
  case atStart => exact ⟨0, by omega, rfl, Lib.hid rfl, Lib.hid (Below.refl _ _)⟩
  case round =>
    obtain ⟨k, hk, rfl, hi, hb⟩ := hrel
    by_cases hlt : k < 8
    · have hk8 : 8 - k = (7 - k) + 1 := by omega
      cases ho : g k
      · have HN : Hid (firstT g (7 - k) ((k : Int) + 1) = firstT g 8 0) := Lib.hid (by have := hi.out; rw [hk8, first_no g (7 - k) k ho] at this; exact this)
        go_wp2_with fail
        refine (HC2.out _ _ (by omega) (by omega) hb.out).mono ?_
        rintro e w1 ⟨rfl, g1⟩
        have HW1 := Lib.hid g1
        clear g1
        go_wp2
        go_roundw
        case rel => exact ⟨k + 1, by omega, by go_num, Lib.hid (by rw [show 8 - (k + 1) = 7 - k by omega, Int.natCast_add]; exact HN.out), Lib.hid (bseq hb.out HW1.out)⟩
        case measure => simp [intOf]; omega
      · have HN : Hid ((k : Int) = firstT g 8 0) := Lib.hid (by have := hi.out; rw [hk8, first_yes g (7 - k) k ho] at this; exact this)
        go_wp2_with fail
        refine (HC2.out _ _ (by omega) (by omega) hb.out).mono ?_
        rintro e w1 ⟨rfl, g1⟩
        have HW1 := Lib.hid g1
        clear g1
        go_wp2
        go_ret
        exact ⟨ret_int HN.out, bseq hb.out HW1.out⟩
    · obtain rfl : k = 8 := by omega
      go_wp2
      go_ret
      exact ⟨ret_int hi.out, hb.out⟩
set_option maxHeartbeats 1000000 in
theorem where_cmp (xa ya xm ym : Int) (pa pm : Nat) (w : World) (hx : -20000 ≤ xa ∧ xa ≤ 20000) (hy : -20000 ≤ ya ∧ ya ≤ 20000) (la : pa < w.heap.size) (lm : pm < w.heap.size) (a0 : w.cell? ⟨pa, 0, none⟩ = some (.int .i64 xa)) (a1 : w.cell? ⟨pa, 1, none⟩ = some (.int .i64 ya)) (m0 : w.cell? ⟨pm, 0, none⟩ = some (.int .i64 xm)) (m1 : w.cell? ⟨pm, 1, none⟩ = some (.int .i64 ym)) :
    Calls Try.prog 78 #[.func (.func 81) #[] #[.pointer (some ⟨pa, 0, none⟩), .pointer (some ⟨pm, 0, none⟩)]] w fun e w' => e = .returned (.int .i64 (firstT (fun t => decide (tuX t xa ya = xm) && decide (tuY t xa ya = ym)) 8 0)) ∧ Below w.heap.size w w' := by
  have HC := Lib.hid (fun (t : Int) (w1 : World) (h0 : 0 ≤ t) (h1 : t ≤ 7) (hb : Below w.heap.size w w1) => clo_cmp t xa ya xm ym pa pm w1 h0 h1 hx hy (Nat.lt_of_lt_of_le la hb.size) (Nat.lt_of_lt_of_le lm hb.size) ((hb.cell (p := ⟨pa, 0, none⟩) la).trans a0) ((hb.cell (p := ⟨pa, 1, none⟩) la).trans a1) ((hb.cell (p := ⟨pm, 0, none⟩) lm).trans m0) ((hb.cell (p := ⟨pm, 1, none⟩) lm).trans m1))
  clear a0 a1 m0 m1
  generalize hg : (fun t => decide (tuX t xa ya = xm) && decide (tuY t xa ya = ym)) = g
  have HC2 : Hid (∀ (t : Int) (w1 : World), 0 ≤ t → t ≤ 7 → Below w.heap.size w w1 → Calls Try.prog 81 #[.int .i64 t, .pointer (some ⟨pa, 0, none⟩), .pointer (some ⟨pm, 0, none⟩)] w1 fun e w' => e = .returned (.bool (g t)) ∧ Below w1.heap.size w1 w') := Lib.hid (by subst hg; exact HC.out)
  clear HC hg
  go_enter Try.func78, Try.ntmps78
  go_wp2
  go_loopw [4] (fun i wr => ∃ k : Nat, k ≤ 8 ∧ i = .int .i64 k ∧ Hid (firstT g (8 - k) k = firstT g 8 0) ∧ Hid (Below w.heap.size w wr)) (fun i _ => 8 - (intOf i).toNat)
  case atStart => exact ⟨0, by omega, rfl, Lib.hid rfl, Lib.hid (Below.refl _ _)⟩
  case round =>
    obtain ⟨k, hk, rfl, hi, hb⟩ := hrel
    by_cases hlt : k < 8
    · have hk8 : 8 - k = (7 - k) + 1 := by omega
      cases ho : g k
      · have HN : Hid (firstT g (7 - k) ((k : Int) + 1) = firstT g 8 0) := Lib.hid (by have := hi.out; rw [hk8, first_no g (7 - k) k ho] at this; exact this)
        go_wp2_with fail
        refine (HC2.out _ _ (by omega) (by omega) hb.out).mono ?_
        rintro e w1 ⟨rfl, g1⟩
        have HW1 := Lib.hid g1
        clear g1
        go_wp2
        go_roundw
        case rel => exact ⟨k + 1, by omega, by go_num, Lib.hid (by rw [show 8 - (k + 1) = 7 - k by omega, Int.natCast_add]; exact HN.out), Lib.hid (bseq hb.out HW1.out)⟩
        case measure => simp [intOf]; omega
      · have HN : Hid ((k : Int) = firstT g 8 0) := Lib.hid (by have := hi.out; rw [hk8, first_yes g (7 - k) k ho] at this; exact this)
        go_wp2_with fail
        refine (HC2.out _ _ (by omega) (by omega) hb.out).mono ?_
        rintro e w1 ⟨rfl, g1⟩
        have HW1 := Lib.hid g1
        clear g1
        go_wp2
        go_ret
        exact ⟨ret_int HN.out, bseq hb.out HW1.out⟩
    · obtain rfl : k = 8 := by omega
      go_wp2
      go_ret
      exact ⟨ret_int hi.out, hb.out⟩
end Go.Proofs.Ytfaahcbdglbcjaa
