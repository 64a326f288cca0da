/- The nearest species: impl. -/
import Derived.Test.YthjimogeimigmaaDoorVen10
namespace Go.Proofs.YthjimogeimigmaaDoor
open Seq2 Go.ChangeShapes Go.WideShapes Go.ChangeAt Go.RowKit
set_option linter.unusedVariables false
set_option linter.unusedSimpArgs false

theorem TabAt.row0 {w : World} (h : TabAt w) : w.cell? ⟨0, 0, none⟩ = some (.string (spN 0)) ∧ w.cell? ⟨0, 1, none⟩ = some (.int .i64 (spS 0)) ∧ w.cell? ⟨0, 2, none⟩ = some (.int .i64 (spH 0)) ∧ w.cell? ⟨0, 3, none⟩ = some (.int .i64 (spW 0)) := by
  obtain ⟨t, fr, h⟩ := h
  exact ⟨(cell_of_row _ _ 0 _ _ _ h).trans rfl, (cell_of_row _ _ 1 _ _ _ h).trans rfl, (cell_of_row _ _ 2 _ _ _ h).trans rfl, (cell_of_row _ _ 3 _ _ _ h).trans rfl⟩
set_option maxRecDepth 100000 in
set_option maxHeartbeats 8000000 in
theorem near_impl (a : Int) (w : World) (ht : TabAt w) : Calls Tryd.prog 28 #[.int .i64 a] w fun e w' => e = .returned (.tuple #[.string (nrR a).1, .int .i64 ((nrR a).2)]) ∧ Below w.heap.size w w' := by
  have HT := Lib.hid ht
  cases ha : inI a 0 100 with
  | false =>
    have HR := Lib.hid (show nrR a = (⟨#[]⟩, 2) by unfold nrR; rw [ha]; rfl)
    rw [HR.out]
    clear ht
    go_enter Tryd.func28, Tryd.ntmps28
    go_wp2_with fail
    refine (shade_ven _ _).mono ?_
    rintro e w1 ⟨rfl, rfl⟩
    rw [ha]
    go_wp2
    go_ret2
    exact ⟨rfl, Below.refl _ _⟩
  | true =>
    have HR := Lib.hid (show nrR a = (spN (bst a 10), 0) by unfold nrR; rw [ha]; rfl)
    have ⟨a0, a1⟩ := (inI_iff2 _ _ _).1 ha
    rw [HR.out]
    obtain ⟨t0, t1, t2, t3⟩ := ht.row0
    have htl := ht.lt
    obtain ⟨T, FR, hT⟩ := HT.out.below (one_alloc (.cells #[.string (spN 0), .int .i64 (spS 0), .int .i64 (spH 0), .int .i64 (spW 0)] 68))
    clear ht
    go_enter Tryd.func28, Tryd.ntmps28
    go_wp2_with fail
    refine (shade_ven _ _).mono ?_
    rintro e w1 ⟨rfl, rfl⟩
    rw [ha]
    go_wp2_with (refine wpList_load_row rfl 69 _ rfl 0 rfl T tabC FR _ hT Tryd.underlying69 rfl tab_info ?_)
    have HO := Lib.hid (World.alloc_heap_new w (.cells #[.string (spN 0), .int .i64 (spS 0), .int .i64 (spH 0), .int .i64 (spW 0)] 68))
    have HN := Lib.hid (one_alloc (w := w) (.cells #[.string (spN 0), .int .i64 (spS 0), .int .i64 (spH 0), .int .i64 (spW 0)] 68))
    clear hT t0 t1 t2 t3 htl
    go_loopw [13] (fun iv wr => ∃ k : Nat, k ≤ 10 ∧ iv = .int .i64 k ∧ Hid (wr.heap[w.heap.size]? = some (.cells (spV (bst a k)) 68 (0, 0))) ∧ Hid (Below w.heap.size w wr)) (fun i _ => 10 - (intOf i).toNat)
    case atStart => exact ⟨0, by omega, rfl, HO, HN⟩
    case round =>
      obtain ⟨k, hk, rfl, ho, hb⟩ := hrel
      obtain ⟨m, hm⟩ : ∃ m, bst a k = m := ⟨_, rfl⟩
      have hml : m < 10 := by rw [← hm]; exact bst_lt a hk
      have HM := Lib.hid hm
      rw [hm] at ho
      have HOK := Lib.hid (ho.out)
      have hlw := blk_lt3 ho.out
      have ho' : wr.heap[w.heap.size]? = some (.cells #[.string (spN m), .int .i64 (spS m), .int .i64 (spH m), .int .i64 (spW m)] 68 (0, 0)) := ho.out
      obtain ⟨c0, f0, c1, f1, c2, f2, c3, f3⟩ := cells4_of ho'
      clear hm
      by_cases hlt : k < 10
      · have ix := tab_index k hlt
        have HS := Lib.hid (show bst a (k + 1) = if awy (spS k) a < awy (spS m) a then k else m by rw [← HM.out]; rfl)
        have q := World.alloc_heap_new wr (.cells #[.string (spN k), .int .i64 (spS k), .int .i64 (spH k), .int .i64 (spW k)] 68)
        have r := old_at (o := .cells #[.string (spN k), .int .i64 (spS k), .int .i64 (spH k), .int .i64 (spW k)] 68) hlw ho'
        have hq := blk_lt3 q
        have hr := blk_lt3 r
        have HB0 := Lib.hid (hb.out.trans ((one_alloc (w := wr) (.cells #[.string (spN k), .int .i64 (spS k), .int .i64 (spH k), .int .i64 (spW k)] 68)).mono hb.out.size))
        go_wp2
        generalize wr.alloc _ = W at *
        clear c0 c1 c2 c3 f0 f1 f2 f3
        have HQ := Lib.hid q
        have HRR := Lib.hid r
        obtain ⟨c0, f0, c1, f1, c2, f2, c3, f3⟩ := cells4_of q
        obtain ⟨d0, g0, d1, g1, d2, g2, d3, g3⟩ := cells4_of r
        clear q r ho'
        refine wp_region_below (by kernel_rfl) (by kernel_rfl) ?_
        repeat (first | (refine wq_skip ?_ ?_; (focus (go_simp; (first | done | (simp [undef]; done)))); (try simp only [Act.put, List.setIfInBounds_toArray, List.set_cons_zero, List.set_cons_succ])) | (refine wq_val ?_ ?_; (focus (go_simp; done)); apply Exists.intro; refine ⟨fun w1 hw1 => ?_, ?_⟩; (obtain ⟨hc, hf⟩ := bcell hw1; clear hw1; go_simp; (first | done | with_reducible rfl | (with_reducible exact eql2 _ _ _) | (with_reducible exact neq2 _ _ _))); (try simp only [Act.put, List.setIfInBounds_toArray, List.set_cons_zero, List.set_cons_succ])) | (refine wq_call 57 ?_ ?_; (focus (go_simp; done)); apply Exists.intro; refine ⟨fun w1 hw1 => ?_, ?_⟩; (focus (clear hw1; go_simp; (first | done | with_reducible rfl))); apply Exists.intro; refine ⟨fun w1 hw1 => ?_, ?_⟩; (focus (exact calls_below hw1 (away_ven k a w1 a0 a1); done)); (try simp only [Act.put, List.setIfInBounds_toArray, List.set_cons_zero, List.set_cons_succ])) | (refine wq_call 57 ?_ ?_; (focus (go_simp; done)); apply Exists.intro; refine ⟨fun w1 hw1 => ?_, ?_⟩; (focus (clear hw1; go_simp; (first | done | with_reducible rfl))); apply Exists.intro; refine ⟨fun w1 hw1 => ?_, ?_⟩; (focus (exact calls_below hw1 (away_ven m a w1 a0 a1); done)); (try simp only [Act.put, List.setIfInBounds_toArray, List.set_cons_zero, List.set_cons_succ])))
        refine wq_nil ?_
        intro w4 hb4
        have HB4 := Lib.hid (bseq HB0.out hb4)
        have q := (hb4.block _ hq).trans HQ.out
        have r := (hb4.block _ hr).trans HRR.out
        have hq4 := blk_lt3 q
        have hr4 := blk_lt3 r
        have hlw4 := HB4.out.size
        clear c0 c1 c2 c3 f0 f1 f2 f3 d0 d1 d2 d3 g0 g1 g2 g3 hb4 hq hr
        obtain ⟨c0, f0, c1, f1, c2, f2, c3, f3⟩ := cells4_of q
        obtain ⟨d0, g0, d1, g1, d2, g2, d3, g3⟩ := cells4_of r
        by_cases hlss : awy (spS k) a < awy (spS m) a
        · have hdec : decide (awy (spS k) a < awy (spS m) a) = true := by simpa using hlss
          have HNEW := Lib.hid ((stored4 (x0 := .string (spN k)) (x1 := .int .i64 (spS k)) (x2 := .int .i64 (spH k)) (x3 := .int .i64 (spW k)) r).here)
          clear q r
          go_wp2
          go_roundw
          case rel =>
            refine ⟨k + 1, by omega, by go_num, ?_, ?_⟩
            · rw [HS.out, if_pos hlss]; exact HNEW
            · have HBX := HB4.out
              refine Lib.hid ?_
              (repeat (first | exact HBX | refine Below.setCell ?_ (by first | exact Nat.le_refl _ | (show _ ≤ _; omega) | (simp; omega)) _ | refine Below.alloc ?_ (by first | exact Nat.le_refl _ | omega | (simp; done) | (simp; omega)) _))
          case measure => simp [intOf]; omega
        · have hdec : decide (awy (spS k) a < awy (spS m) a) = false := by simpa using hlss
          have HNEW := Lib.hid r
          clear q r
          go_wp2
          go_roundw
          case rel => exact ⟨k + 1, by omega, by go_num, by rw [HS.out, if_neg hlss]; exact HNEW, HB4⟩
          case measure => simp [intOf]; omega
      · obtain rfl : k = 10 := by omega
        clear ho'
        go_wp2
        go_ret2
        exact ⟨ret_si (by rw [HM.out]), hb.out⟩
end Go.Proofs.YthjimogeimigmaaDoor
