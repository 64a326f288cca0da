/- The nearest species: spec and impl. -/
import Derived.Test.YthjimogeimigmaaDoorVen4
namespace Go.Proofs.YthjimogeimigmaaDoor
open Seq2 Go.ChangeShapes Go.WideShapes Go.ChangeAt Go.RowKit
set_option linter.unusedVariables false
set_option linter.unusedSimpArgs false

/-- The first of the n first rows that is nearest. -/
def bst (a : Int) : Nat → Nat
  | 0 => 0
  | n + 1 => if awy (spS n) a < awy (spS (bst a n)) a then n else bst a n
theorem bst_lt (a : Int) {n : Nat} (h : n ≤ 10) : bst a n < 10 := by
  induction n with
  | zero => simp [bst]
  | succ n ih =>
    have := ih (by omega)
    unfold bst; split <;> omega
theorem bst_one (a : Int) : bst a 1 = 0 := by simp [bst]
def nrR (a : Int) : ByteArray × Int := if inI a 0 100 then (spN (bst a 10), 0) else (⟨#[]⟩, 2)
theorem ret_si {s t : ByteArray} {a b : Int} (h : (s, a) = (t, b)) : Ending.returned (.tuple #[.string s, .int .i64 a]) = .returned (.tuple #[.string t, .int .i64 b]) := by cases h; rfl
set_option maxRecDepth 100000 in
set_option maxHeartbeats 8000000 in
theorem near_spec (a : Int) (w : World) : Calls Tryd.prog 27 #[.int .i64 a] w fun e w' => e = .returned (.tuple #[.string (nrR a).1, .int .i64 ((nrR a).2)]) ∧ Below w.heap.size w w' := by
  cases ha : inI a 0 100 with
  | false =>
    have HR := Lib.hid (show nrR a = (⟨#[]⟩, 2) by unfold nrR; rw [ha]; rfl)
    rw [HR.out]
    go_enter Tryd.func27, Tryd.ntmps27
    go_wp2_with fail
    refine (in_any _ _ _ _).mono ?_
    rintro e w1 ⟨rfl, rfl⟩
    rw [ha]
    go_wp2
    go_ret2
    exact ⟨rfl, Below.refl _ _⟩
  | true =>
    have HR := Lib.hid (show nrR a = (spN (bst a 10), 0) by unfold nrR; rw [ha]; rfl)
    have ⟨a0, a1⟩ := (inI_iff2 _ _ _).1 ha
    rw [HR.out]
    go_enter Tryd.func27, Tryd.ntmps27
    go_wp2_with fail
    refine (in_any _ _ _ _).mono ?_
    rintro e w1 ⟨rfl, rfl⟩
    rw [ha]
    go_wp2_with fail
    refine (table_spec _).mono ?_
    rintro e w2 ⟨b, rfl, tb, g2⟩
    have HTB := Lib.hid tb
    have HG := Lib.hid g2
    clear tb g2
    go_wp2
    go_loopw [6, 5] (fun iv bv wr => ∃ k : Nat, 1 ≤ k ∧ k ≤ 10 ∧ iv = .int .i64 k ∧ bv = .int .i64 (bst a k) ∧ Hid (Below w2.heap.size w2 wr)) (fun i _ _ => 10 - (intOf i).toNat)
    case atStart => exact ⟨1, by omega, by omega, rfl, by rw [bst_one]; rfl, Lib.hid (Below.refl _ _)⟩
    case round =>
      obtain ⟨k, hk1, hk, rfl, rfl, hb⟩ := hrel
      obtain ⟨m, hm⟩ : ∃ m, bst a k = m := ⟨_, rfl⟩
      have hml : m < 10 := by rw [← hm]; exact bst_lt a hk
      have HM := Lib.hid hm
      have hmi : (m : Int) < 10 := by omega
      rw [hm]
      clear hm
      obtain ⟨hbs, ht⟩ := HTB.out.below hb.out
      by_cases hlt : k < 10
      · obtain ⟨c, hc, t0, t1, _, _⟩ := ht k hlt
        obtain ⟨d, hd, u0, u1, _, _⟩ := ht m hml
        have hr := spS_rng k
        have hr2 := spS_rng m
        clear ht
        have e1 : IntKind.i64.wrap (spS k - a) = spS k - a := IntWalk.i64_in _ (by omega)
        have e2 : IntKind.i64.wrap (a - spS k) = a - spS k := IntWalk.i64_in _ (by omega)
        have e3 : IntKind.i64.wrap (spS m - a) = spS m - a := IntWalk.i64_in _ (by omega)
        have e4 : IntKind.i64.wrap (a - spS m) = a - spS m := IntWalk.i64_in _ (by omega)
        have HK := Lib.hid (awy_grt (spS k) a)
        have HL := Lib.hid (awy_grt (spS m) a)
        have HS := Lib.hid (show bst a (k + 1) = if awy (spS k) a < awy (spS m) a then k else m by rw [← HM.out]; rfl)
        clear hr hr2
        go_wp2
        refine wp_region_below (by kernel_rfl) (by kernel_rfl) ?_
        repeat (first | (refine wq_skip ?_ ?_; (focus (go_simp; (first | done | (simp [undef]; done)))); (try simp only [Act.put, List.setIfInBounds_toArray, List.set_cons_zero, List.set_cons_succ])) | (refine wq_val ?_ ?_; (focus (go_simp; done)); apply Exists.intro; refine ⟨fun w1 hw1 => ?_, ?_⟩; (obtain ⟨hc, hf⟩ := bcell hw1; clear hw1; go_simp; (first | done | with_reducible rfl | (with_reducible exact eql2 _ _ _) | (with_reducible exact neq2 _ _ _))); (try simp only [Act.put, List.setIfInBounds_toArray, List.set_cons_zero, List.set_cons_succ])) | (refine wq_call 64 ?_ ?_; (focus (go_simp; done)); apply Exists.intro; refine ⟨fun w1 hw1 => ?_, ?_⟩; (focus (clear hw1; go_simp; (first | done | with_reducible rfl))); apply Exists.intro; refine ⟨fun w1 hw1 => ?_, ?_⟩; (focus (exact calls_below_same hw1 (by have h := max_ven (spS k - a) (a - spS k) w1; rw [← HK.out] at h; exact h); done)); (try simp only [Act.put, List.setIfInBounds_toArray, List.set_cons_zero, List.set_cons_succ])))
        refine wq_nil ?_
        intro w3 hb3
        have HB3 := Lib.hid (bseq hb.out hb3)
        have hk3 := bcell hb3
        clear t0 t1 u0 u1 hc hd
        obtain ⟨hbs3, ht3⟩ := HTB.out.below HB3.out
        obtain ⟨c', hc, t0, t1, _, _⟩ := ht3 k hlt
        obtain ⟨d', hd, u0, u1, _, _⟩ := ht3 m hml
        clear ht3 hb3 hk3 hbs
        go_wp2
        refine wp_region_below (by kernel_rfl) (by kernel_rfl) ?_
        repeat (first | (refine wq_skip ?_ ?_; (focus (go_simp; (first | done | (simp [undef]; done)))); (try simp only [Act.put, List.setIfInBounds_toArray, List.set_cons_zero, List.set_cons_succ])) | (refine wq_val ?_ ?_; (focus (go_simp; done)); apply Exists.intro; refine ⟨fun w1 hw1 => ?_, ?_⟩; (obtain ⟨hc, hf⟩ := bcell hw1; clear hw1; go_simp; (first | done | with_reducible rfl | (with_reducible exact eql2 _ _ _) | (with_reducible exact neq2 _ _ _))); (try simp only [Act.put, List.setIfInBounds_toArray, List.set_cons_zero, List.set_cons_succ])) | (refine wq_call 64 ?_ ?_; (focus (go_simp; done)); apply Exists.intro; refine ⟨fun w1 hw1 => ?_, ?_⟩; (focus (clear hw1; go_simp; (first | done | with_reducible rfl))); apply Exists.intro; refine ⟨fun w1 hw1 => ?_, ?_⟩; (focus (exact calls_below_same hw1 (by have h := max_ven (spS m - a) (a - spS m) w1; rw [← HL.out] at h; exact h); done)); (try simp only [Act.put, List.setIfInBounds_toArray, List.set_cons_zero, List.set_cons_succ])))
        refine wq_nil ?_
        intro w4 hb4
        have HB4 := Lib.hid (bseq HB3.out hb4)
        clear hb4
        by_cases hlss : awy (spS k) a < awy (spS m) a
        · have hdec : decide (awy (spS k) a < awy (spS m) a) = true := by simpa using hlss
          go_wp2
          go_roundw
          case rel => exact ⟨k + 1, by omega, by omega, by go_num, by rw [HS.out, if_pos hlss], HB4⟩
          case measure => simp [intOf]; omega
        · have hdec : decide (awy (spS k) a < awy (spS m) a) = false := by simpa using hlss
          go_wp2
          go_roundw
          case rel => exact ⟨k + 1, by omega, by omega, by go_num, by rw [HS.out, if_neg hlss], HB4⟩
          case measure => simp [intOf]; omega
      · obtain rfl : k = 10 := by omega
        clear ht
        go_wp2_with fail
        refine (names_spec _).mono ?_
        rintro e w3 ⟨rfl, rfl⟩
        have hn := (cell_of_row _ _ m _ _ _ (World.alloc_heap_new wr (.cells namC 9))).trans (nam_cell m hml)
        go_wp2
        go_ret2
        exact ⟨ret_si (by rw [HM.out]), bseq (bseq HG.out hb.out) (one_alloc _)⟩
end Go.Proofs.YthjimogeimigmaaDoor
