/- Inverse turns and turns one after another, of impl and of spec: the answers. -/
import Derived.Test.YtfaahcbdglbcjaaTurnInv
namespace Go.Proofs.Ytfaahcbdglbcjaa
open Go.ChangeShapes Go.WideShapes Go.ChangeAt Go.RowKit

set_option maxHeartbeats 1000000 in
theorem invI_yes (t : Int) (w : World) (hv : inI t 0 7 = true) : Calls Try.prog 42 #[.int .i64 t] w fun e w' => e = .returned (.tuple #[.int .i64 (invT t), .int .i64 0]) ∧ Below w.heap.size w w' := by
  have b0 := in_bd hv
  have bx := tu_bd t 1 2 (by omega) (by omega)
  go_enter Try.func42, Try.ntmps42
  go_wp2_with ((with_reducible refine (isTurnI _ _).mono ?_); rintro e w' ⟨rfl, rfl⟩)
  refine (turned_impl _ _ _ _ (by omega) (by omega) b0.1 b0.2).mono ?_
  rintro e w1 ⟨rfl, g1⟩
  obtain ⟨hc, hf⟩ := bcell g1
  have HB1 := Lib.hid g1
  have n0 : w.heap.size < w1.heap.size := by have := g1.size; simp at this; omega
  clear g1
  go_wp2_with fail
  refine (where_inv (tuX t 1 2) (tuY t 1 2) 1 2 _ _ _ bx.1 bx.2 (by simp) (by simp; omega) (by go_simp) (by go_simp) (by go_simp) (by go_simp)).mono ?_
  rintro e w2 ⟨rfl, g2⟩
  have HB2 := Lib.hid g2
  clear g2 hc hf
  go_wp2
  go_ret2
  exact ⟨rfl, bseq ((bseq (one_alloc _) HB1.out).alloc (bseq (one_alloc _) HB1.out).size _) HB2.out⟩
theorem cmpS_no (a b : Int) (w : World) (hv : (inI a 0 7 && inI b 0 7) = false) : Calls Try.prog 43 #[.int .i64 a, .int .i64 b] w fun e w' => e = .returned (.tuple #[.int .i64 (0), .int .i64 2]) ∧ Below w.heap.size w w' := by
  cases c0 : inI a 0 7
  · clear hv
    go_enter Try.func43, Try.ntmps43
    go_wp2_with ((with_reducible refine (isTurnS _ _).mono ?_); rintro e w' ⟨rfl, rfl⟩)
    go_ret2
    exact ⟨rfl, Below.refl _ _⟩
  · have c1 : inI b 0 7 = false := by rw [c0, Bool.true_and] at hv; exact hv
    clear hv
    go_enter Try.func43, Try.ntmps43
    go_wp2_with ((with_reducible refine (isTurnS _ _).mono ?_); rintro e w' ⟨rfl, rfl⟩)
    go_ret2
    exact ⟨rfl, Below.refl _ _⟩
theorem cmpI_no (a b : Int) (w : World) (hv : (inI a 0 7 && inI b 0 7) = false) : Calls Try.prog 44 #[.int .i64 a, .int .i64 b] w fun e w' => e = .returned (.tuple #[.int .i64 (0), .int .i64 2]) ∧ Below w.heap.size w w' := by
  cases c0 : inI a 0 7
  · clear hv
    go_enter Try.func44, Try.ntmps44
    go_wp2_with ((with_reducible refine (isTurnI _ _).mono ?_); rintro e w' ⟨rfl, rfl⟩)
    go_ret2
    exact ⟨rfl, Below.refl _ _⟩
  · have c1 : inI b 0 7 = false := by rw [c0, Bool.true_and] at hv; exact hv
    clear hv
    go_enter Try.func44, Try.ntmps44
    go_wp2_with ((with_reducible refine (isTurnI _ _).mono ?_); rintro e w' ⟨rfl, rfl⟩)
    go_ret2
    exact ⟨rfl, Below.refl _ _⟩
set_option maxHeartbeats 1000000 in
theorem cmpI_yes (a b : Int) (w : World) (ha : inI a 0 7 = true) (hb : inI b 0 7 = true) : Calls Try.prog 44 #[.int .i64 a, .int .i64 b] w fun e w' => e = .returned (.tuple #[.int .i64 (cmpT 1 2 a b), .int .i64 0]) ∧ Below w.heap.size w w' := by
  have b0 := in_bd ha
  have b1 := in_bd hb
  have bx := tu_bd a 1 2 (by omega) (by omega)
  go_enter Try.func44, Try.ntmps44
  go_wp2_with ((with_reducible refine (isTurnI _ _).mono ?_); rintro e w' ⟨rfl, rfl⟩)
  refine (turned_impl _ _ _ _ (by omega) (by omega) b0.1 b0.2).mono ?_
  rintro e w1 ⟨rfl, g1⟩
  have HB1 := Lib.hid g1
  clear g1
  go_wp2_with fail
  refine (turned_impl _ _ _ _ bx.1 bx.2 b1.1 b1.2).mono ?_
  rintro e w2 ⟨rfl, g2⟩
  obtain ⟨hc, hf⟩ := bcell (bseq HB1.out g2)
  have HB2 := Lib.hid (bseq HB1.out g2)
  have n0 : w.heap.size < w2.heap.size := by have := HB2.out.size; simp at this; omega
  clear g2
  go_wp2_with fail
  refine (where_cmp 1 2 (tuX b (tuX a 1 2) (tuY a 1 2)) (tuY b (tuX a 1 2) (tuY a 1 2)) _ _ _ (by omega) (by omega) (by simp; omega) (by simp) (by go_simp) (by go_simp) (by go_simp) (by go_simp)).mono ?_
  rintro e w3 ⟨rfl, g3⟩
  have HB3 := Lib.hid g3
  clear g3 hc hf
  go_wp2
  go_ret2
  exact ⟨rfl, bseq ((bseq (one_alloc _) HB2.out).alloc (bseq (one_alloc _) HB2.out).size _) HB3.out⟩
set_option maxHeartbeats 2000000 in
theorem l02Cmp (a b : Int) (w : World) (a0 : 0 ≤ a) (a1 : a ≤ 7) (b0 : 0 ≤ b) (b1 : b ≤ 7) : Calls Try.prog 80 #[.int .i64 a, .int .i64 b] w fun e w' => e = .returned (.int .i64 (cmpT 2 1 a b)) ∧ Below w.heap.size w w' := by
  have bx := tu_bd a 2 1 (by omega) (by omega)
  go_enter Try.func80, Try.ntmps80
  go_wp2_with fail
  refine (l02Turned _ _ _ _ (by omega) (by omega) a0 a1).mono ?_
  rintro e w1 ⟨rfl, g1⟩
  have HB1 := Lib.hid g1
  clear g1
  go_wp2_with fail
  refine (l02Turned _ _ _ _ bx.1 bx.2 b0 b1).mono ?_
  rintro e w2 ⟨rfl, g2⟩
  obtain ⟨hc, hf⟩ := bcell (bseq HB1.out g2)
  have HB2 := Lib.hid (bseq HB1.out g2)
  have n0 : w.heap.size < w2.heap.size := by have := HB2.out.size; simp at this; omega
  clear g2
  have e0 : (w2.alloc (.cells #[.int .i64 (tuX b (tuX a 2 1) (tuY a 2 1)), .int .i64 (tuY b (tuX a 2 1) (tuY a 2 1))] 25)).cell? ⟨w.heap.size, 0, none⟩ = some (.int .i64 2) := by go_simp
  have e1 : (w2.alloc (.cells #[.int .i64 (tuX b (tuX a 2 1) (tuY a 2 1)), .int .i64 (tuY b (tuX a 2 1) (tuY a 2 1))] 25)).cell? ⟨w.heap.size, 1, none⟩ = some (.int .i64 1) := by go_simp
  have e2 : (w2.alloc (.cells #[.int .i64 (tuX b (tuX a 2 1) (tuY a 2 1)), .int .i64 (tuY b (tuX a 2 1) (tuY a 2 1))] 25)).cell? ⟨w2.heap.size, 0, none⟩ = some (.int .i64 (tuX b (tuX a 2 1) (tuY a 2 1))) := by go_simp
  have e3 : (w2.alloc (.cells #[.int .i64 (tuX b (tuX a 2 1) (tuY a 2 1)), .int .i64 (tuY b (tuX a 2 1) (tuY a 2 1))] 25)).cell? ⟨w2.heap.size, 1, none⟩ = some (.int .i64 (tuY b (tuX a 2 1) (tuY a 2 1))) := by go_simp
  have n1 : w.heap.size < (w2.alloc (.cells #[.int .i64 (tuX b (tuX a 2 1) (tuY a 2 1)), .int .i64 (tuY b (tuX a 2 1) (tuY a 2 1))] 25)).heap.size := by simp; omega
  have n2 : w2.heap.size < (w2.alloc (.cells #[.int .i64 (tuX b (tuX a 2 1) (tuY a 2 1)), .int .i64 (tuY b (tuX a 2 1) (tuY a 2 1))] 25)).heap.size := by simp
  have HB3 := Lib.hid ((bseq (one_alloc _) HB2.out).alloc (bseq (one_alloc _) HB2.out).size (.cells #[.int .i64 (tuX b (tuX a 2 1) (tuY a 2 1)), .int .i64 (tuY b (tuX a 2 1) (tuY a 2 1))] 25))
  have HE := Lib.hid (And.intro e0 (And.intro e1 (And.intro e2 (And.intro e3 (And.intro n1 n2)))))
  have HD : Hid (cmpT 2 1 a b = firstT (fun t => decide (tuX t 2 1 = tuX b (tuX a 2 1) (tuY a 2 1)) && decide (tuY t 2 1 = tuY b (tuX a 2 1) (tuY a 2 1))) 8 0) := Lib.hid rfl
  clear e0 e1 e2 e3 n1 n2 hc hf
  go_wp2
  generalize w2.alloc (.cells #[.int .i64 (tuX b (tuX a 2 1) (tuY a 2 1)), .int .i64 (tuY b (tuX a 2 1) (tuY a 2 1))] 25) = w3 at *
  go_loopw [7] (fun i wr => ∃ k : Nat, k ≤ 8 ∧ i = .int .i64 k ∧ Hid (firstT (fun t => decide (tuX t 2 1 = tuX b (tuX a 2 1) (tuY a 2 1)) && decide (tuY t 2 1 = tuY b (tuX a 2 1) (tuY a 2 1))) (8 - k) k = cmpT 2 1 a b) ∧ Hid (Below w3.heap.size w3 wr)) (fun i _ => 8 - (intOf i).toNat)
  case atStart => exact ⟨0, by omega, rfl, Lib.hid rfl, Lib.hid (Below.refl _ _)⟩
  case round =>
    obtain ⟨k, hk, rfl, hi, hb⟩ := hrel
    by_cases hlt : k < 8
    · have hk8 : 8 - k = (7 - k) + 1 := by omega
      obtain ⟨k1, k2⟩ := bcell hb.out
      have e0 := (k1 _ 0 HE.out.2.2.2.2.1).trans HE.out.1
      have e1 := (k1 _ 1 HE.out.2.2.2.2.1).trans HE.out.2.1
      have e2 := (k1 _ 0 HE.out.2.2.2.2.2).trans HE.out.2.2.1
      have e3 := (k1 _ 1 HE.out.2.2.2.2.2).trans HE.out.2.2.2.1
      have n1 : w.heap.size < wr.heap.size := Nat.lt_of_lt_of_le HE.out.2.2.2.2.1 hb.out.size
      have n2 : w2.heap.size < wr.heap.size := Nat.lt_of_lt_of_le HE.out.2.2.2.2.2 hb.out.size
      clear k1 k2
      cases ho : (decide (tuX (k : Int) 2 1 = tuX b (tuX a 2 1) (tuY a 2 1)) && decide (tuY (k : Int) 2 1 = tuY b (tuX a 2 1) (tuY a 2 1)))
      · have HN : Hid (firstT (fun t => decide (tuX t 2 1 = tuX b (tuX a 2 1) (tuY a 2 1)) && decide (tuY t 2 1 = tuY b (tuX a 2 1) (tuY a 2 1))) (7 - k) ((k : Int) + 1) = cmpT 2 1 a b) := Lib.hid (by have := hi.out; rw [hk8, first_no (fun t => decide (tuX t 2 1 = tuX b (tuX a 2 1) (tuY a 2 1)) && decide (tuY t 2 1 = tuY b (tuX a 2 1) (tuY a 2 1))) (7 - k) k ho] at this; exact this)
        have HO := Lib.hid ho
        clear ho
        go_wp2
        refine wp_region_below (by kernel_rfl) (by kernel_rfl) ?_
        (refine wq_val (by go_simp) ?_; apply Exists.intro; refine ⟨fun w1 hw1 => ?_, ?_⟩; (obtain ⟨hc, hf⟩ := bcell hw1; clear hw1; go_simp; (try with_reducible rfl)); (try simp only [Act.put, List.setIfInBounds_toArray, List.set_cons_zero, List.set_cons_succ]))
        (refine wq_val (by go_simp) ?_; apply Exists.intro; refine ⟨fun w1 hw1 => ?_, ?_⟩; (obtain ⟨hc, hf⟩ := bcell hw1; clear hw1; go_simp; (try with_reducible rfl)); (try simp only [Act.put, List.setIfInBounds_toArray, List.set_cons_zero, List.set_cons_succ]))
        (refine wq_call 73 (by go_simp) ?_; apply Exists.intro; refine ⟨fun w1 hw1 => ?_, ?_⟩; (clear hw1; go_simp; (try with_reducible rfl)); apply Exists.intro; refine ⟨fun w1 hw1 => ?_, ?_⟩; (exact calls_below hw1 (l02Turned _ _ _ _ (by omega) (by omega) (by omega) (by omega))); (try simp only [Act.put, List.setIfInBounds_toArray, List.set_cons_zero, List.set_cons_succ]))
        (refine wq_val (by go_simp) ?_; apply Exists.intro; refine ⟨fun w1 hw1 => ?_, ?_⟩; (obtain ⟨hc, hf⟩ := bcell hw1; clear hw1; go_simp; (try with_reducible rfl)); (try simp only [Act.put, List.setIfInBounds_toArray, List.set_cons_zero, List.set_cons_succ]))
        (refine wq_val (by go_simp) ⟨.bool false, fun w1 hw1 => ?_, ?_⟩; (clear hw1; go_simp; (first | exact (eql2 _ _ _).trans (by rw [HO.out]) | simpa using HO.out)); (try simp only [Act.put, List.setIfInBounds_toArray, List.set_cons_zero, List.set_cons_succ]))
        refine wq_nil ?_
        intro w1 hb1
        clear e0 e1 e2 e3
        have HW := Lib.hid hb1
        clear hb1
        go_wp2
        go_roundw
        case rel => exact ⟨k + 1, by omega, by go_num, Lib.hid (by rw [show 8 - (k + 1) = 7 - k by omega, Int.natCast_add]; exact HN.out), Lib.hid (bseq hb.out HW.out)⟩
        case measure => simp [intOf]; omega
      · have HN : Hid ((k : Int) = cmpT 2 1 a b) := Lib.hid (by have := hi.out; rw [hk8, first_yes (fun t => decide (tuX t 2 1 = tuX b (tuX a 2 1) (tuY a 2 1)) && decide (tuY t 2 1 = tuY b (tuX a 2 1) (tuY a 2 1))) (7 - k) k ho] at this; exact this)
        have HO := Lib.hid ho
        clear ho
        go_wp2
        refine wp_region_below (by kernel_rfl) (by kernel_rfl) ?_
        (refine wq_val (by go_simp) ?_; apply Exists.intro; refine ⟨fun w1 hw1 => ?_, ?_⟩; (obtain ⟨hc, hf⟩ := bcell hw1; clear hw1; go_simp; (try with_reducible rfl)); (try simp only [Act.put, List.setIfInBounds_toArray, List.set_cons_zero, List.set_cons_succ]))
        (refine wq_val (by go_simp) ?_; apply Exists.intro; refine ⟨fun w1 hw1 => ?_, ?_⟩; (obtain ⟨hc, hf⟩ := bcell hw1; clear hw1; go_simp; (try with_reducible rfl)); (try simp only [Act.put, List.setIfInBounds_toArray, List.set_cons_zero, List.set_cons_succ]))
        (refine wq_call 73 (by go_simp) ?_; apply Exists.intro; refine ⟨fun w1 hw1 => ?_, ?_⟩; (clear hw1; go_simp; (try with_reducible rfl)); apply Exists.intro; refine ⟨fun w1 hw1 => ?_, ?_⟩; (exact calls_below hw1 (l02Turned _ _ _ _ (by omega) (by omega) (by omega) (by omega))); (try simp only [Act.put, List.setIfInBounds_toArray, List.set_cons_zero, List.set_cons_succ]))
        (refine wq_val (by go_simp) ?_; apply Exists.intro; refine ⟨fun w1 hw1 => ?_, ?_⟩; (obtain ⟨hc, hf⟩ := bcell hw1; clear hw1; go_simp; (try with_reducible rfl)); (try simp only [Act.put, List.setIfInBounds_toArray, List.set_cons_zero, List.set_cons_succ]))
        (refine wq_val (by go_simp) ⟨.bool true, fun w1 hw1 => ?_, ?_⟩; (clear hw1; go_simp; (first | exact (eql2 _ _ _).trans (by rw [HO.out]) | simpa using HO.out)); (try simp only [Act.put, List.setIfInBounds_toArray, List.set_cons_zero, List.set_cons_succ]))
        refine wq_nil ?_
        intro w1 hb1
        clear e0 e1 e2 e3
        have HW := Lib.hid hb1
        clear hb1
        go_wp2
        go_ret
        exact ⟨ret_int HN.out, bseq HB3.out (bseq hb.out HW.out)⟩
    · obtain rfl : k = 8 := by omega
      go_wp2
      go_ret
      exact ⟨ret_int hi.out, bseq HB3.out hb.out⟩
theorem cmpS_yes (a b : Int) (w : World) (ha : inI a 0 7 = true) (hb : inI b 0 7 = true) : Calls Try.prog 43 #[.int .i64 a, .int .i64 b] w fun e w' => e = .returned (.tuple #[.int .i64 (cmpT 1 2 a b), .int .i64 0]) ∧ Below w.heap.size w w' := by
  have b0 := in_bd ha
  have b1 := in_bd hb
  rw [cmp_eq a b b0.1 b0.2 b1.1 b1.2]
  go_enter Try.func43, Try.ntmps43
  go_wp2_with ((with_reducible refine (isTurnS _ _).mono ?_); rintro e w' ⟨rfl, rfl⟩)
  refine (l02Cmp _ _ _ b0.1 b0.2 b1.1 b1.2).mono ?_
  rintro e w1 ⟨rfl, g1⟩
  have HB1 := Lib.hid g1
  clear g1
  go_wp2
  go_ret2
  exact ⟨rfl, HB1.out⟩
end Go.Proofs.Ytfaahcbdglbcjaa
